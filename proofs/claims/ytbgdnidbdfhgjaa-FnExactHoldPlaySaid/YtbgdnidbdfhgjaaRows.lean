/-
  No cell of these rows narrows 'for every input' (looked for: loops, veiled, ifaces, maps, wideKeys, modest, calm, conditions, laid).
  DERIVED. THE GIVEN ROWS OF THIS SEAT. 12 by the template 'for every input the law returns true; each argument reads behind the call as it read before'; 0 by the template 'total and deterministic' (their statements: YtbgdnidbdfhgjaaTotals.lean).
  GIVEN WITH THE SEED: the statements are not yours to turn. If you find one false, say at which input.
  Laid BY PROGRAM, IN A SANDBOX (cutbox-rows.mjs): the forced cells as the released guide's own fill.sh prints them over the translation 90ad5602adc76eab… (all of the seat's roots in one cut). By AI agents, Wed Nov 11 2026. No macro, syntax, notation, axiom, sorry.
-/
import Derived.Test.YtbgdnidbdfhgjaaChecked
import GoSem.Claim
import GoSem.ClaimJoined
import GoSem.ClaimMapViews
import Derived.JoinedTies
import Derived.KernelRfl
namespace Go.Proofs.Ytbgdnidbdfhgjaa
/- THE CELL 'sum', in the pinned program and in every row, IS THE sha256 OF THE DUMP (.gsa) THAT YtbgdnidbdfhgjaaProg.lean LOADS. Nothing in Lean hashes anything: it is a label: what it is worth is what the hold of that sum in a sandbox is worth. -/
noncomputable def Try.pinned : Pinned := { name := "ytbgdnidbdfhgjaa", sum := "90ad5602adc76eabb86dbcbdf0e990afd695fdeb66aec34dbe57461da0bfcf12", checked := Try.checked }
namespace Rows
def none {H : Type} : Left H := { results := [], args := [] }

/-- 'laws.FnExactAnswerList': WHATEVER THE INPUT: true; the input reads as it did. -/
def fnExactAnswerListSpec : ChangeSpec := { name := "fnExactAnswerList", fn := fun _ => fun
  | [d1, d2, d3] => { results := [.lit (.bool true)], args := [d1, d2, d3] }
  | _ => none }
def fnExactAnswerListRow : OpenClaim := { program := "ytbgdnidbdfhgjaa", sum := "90ad5602adc76eabb86dbcbdf0e990afd695fdeb66aec34dbe57461da0bfcf12", func := "loop.example/g01269/laws.FnExactAnswerList", spec := "fnExactAnswerList", plainKeys := false, apart := false }
def FnExactAnswerListSaid : Prop := fnExactAnswerListRow.holds Try.pinned (OpenSpec.ofChange fnExactAnswerListSpec)

/-- ITS FALSE NEIGHBOUR: 'it returns false'. Refute it at one input. -/
def fnExactAnswerListWrong : ChangeSpec := { name := "fnExactAnswerList", fn := fun _ => fun
  | [d1, d2, d3] => { results := [.lit (.bool false)], args := [d1, d2, d3] }
  | _ => none }
def FnExactAnswerListWrongFalsely : Prop := fnExactAnswerListRow.holds Try.pinned (OpenSpec.ofChange fnExactAnswerListWrong)

/-- 'laws.FnExactCountFair': WHATEVER THE INPUT: true; the input reads as it did. -/
def fnExactCountFairSpec : ChangeSpec := { name := "fnExactCountFair", fn := fun _ => fun
  | [d1, d2] => { results := [.lit (.bool true)], args := [d1, d2] }
  | _ => none }
def fnExactCountFairRow : OpenClaim := { program := "ytbgdnidbdfhgjaa", sum := "90ad5602adc76eabb86dbcbdf0e990afd695fdeb66aec34dbe57461da0bfcf12", func := "loop.example/g01269/laws.FnExactCountFair", spec := "fnExactCountFair", plainKeys := false, apart := false }
def FnExactCountFairSaid : Prop := fnExactCountFairRow.holds Try.pinned (OpenSpec.ofChange fnExactCountFairSpec)

/-- ITS FALSE NEIGHBOUR: 'it returns false'. Refute it at one input. -/
def fnExactCountFairWrong : ChangeSpec := { name := "fnExactCountFair", fn := fun _ => fun
  | [d1, d2] => { results := [.lit (.bool false)], args := [d1, d2] }
  | _ => none }
def FnExactCountFairWrongFalsely : Prop := fnExactCountFairRow.holds Try.pinned (OpenSpec.ofChange fnExactCountFairWrong)

/-- 'laws.FnExactCountHolding': WHATEVER THE INPUT: true; the input reads as it did. -/
def fnExactCountHoldingSpec : ChangeSpec := { name := "fnExactCountHolding", fn := fun _ => fun
  | [d1, d2] => { results := [.lit (.bool true)], args := [d1, d2] }
  | _ => none }
def fnExactCountHoldingRow : OpenClaim := { program := "ytbgdnidbdfhgjaa", sum := "90ad5602adc76eabb86dbcbdf0e990afd695fdeb66aec34dbe57461da0bfcf12", func := "loop.example/g01269/laws.FnExactCountHolding", spec := "fnExactCountHolding", plainKeys := false, apart := false }
def FnExactCountHoldingSaid : Prop := fnExactCountHoldingRow.holds Try.pinned (OpenSpec.ofChange fnExactCountHoldingSpec)

/-- ITS FALSE NEIGHBOUR: 'it returns false'. Refute it at one input. -/
def fnExactCountHoldingWrong : ChangeSpec := { name := "fnExactCountHolding", fn := fun _ => fun
  | [d1, d2] => { results := [.lit (.bool false)], args := [d1, d2] }
  | _ => none }
def FnExactCountHoldingWrongFalsely : Prop := fnExactCountHoldingRow.holds Try.pinned (OpenSpec.ofChange fnExactCountHoldingWrong)

/-- 'laws.FnExactFirstHolding': WHATEVER THE INPUT: true; the input reads as it did. -/
def fnExactFirstHoldingSpec : ChangeSpec := { name := "fnExactFirstHolding", fn := fun _ => fun
  | [d1, d2] => { results := [.lit (.bool true)], args := [d1, d2] }
  | _ => none }
def fnExactFirstHoldingRow : OpenClaim := { program := "ytbgdnidbdfhgjaa", sum := "90ad5602adc76eabb86dbcbdf0e990afd695fdeb66aec34dbe57461da0bfcf12", func := "loop.example/g01269/laws.FnExactFirstHolding", spec := "fnExactFirstHolding", plainKeys := false, apart := false }
def FnExactFirstHoldingSaid : Prop := fnExactFirstHoldingRow.holds Try.pinned (OpenSpec.ofChange fnExactFirstHoldingSpec)

/-- ITS FALSE NEIGHBOUR: 'it returns false'. Refute it at one input. -/
def fnExactFirstHoldingWrong : ChangeSpec := { name := "fnExactFirstHolding", fn := fun _ => fun
  | [d1, d2] => { results := [.lit (.bool false)], args := [d1, d2] }
  | _ => none }
def FnExactFirstHoldingWrongFalsely : Prop := fnExactFirstHoldingRow.holds Try.pinned (OpenSpec.ofChange fnExactFirstHoldingWrong)

/-- 'laws.FnExactDoTell': WHATEVER THE INPUT: true; the input reads as it did. -/
def fnExactDoTellSpec : ChangeSpec := { name := "fnExactDoTell", fn := fun _ => fun
  | [d1, d2] => { results := [.lit (.bool true)], args := [d1, d2] }
  | _ => none }
def fnExactDoTellRow : OpenClaim := { program := "ytbgdnidbdfhgjaa", sum := "90ad5602adc76eabb86dbcbdf0e990afd695fdeb66aec34dbe57461da0bfcf12", func := "loop.example/g01269/laws.FnExactDoTell", spec := "fnExactDoTell", plainKeys := false, apart := false }
def FnExactDoTellSaid : Prop := fnExactDoTellRow.holds Try.pinned (OpenSpec.ofChange fnExactDoTellSpec)

/-- ITS FALSE NEIGHBOUR: 'it returns false'. Refute it at one input. -/
def fnExactDoTellWrong : ChangeSpec := { name := "fnExactDoTell", fn := fun _ => fun
  | [d1, d2] => { results := [.lit (.bool false)], args := [d1, d2] }
  | _ => none }
def FnExactDoTellWrongFalsely : Prop := fnExactDoTellRow.holds Try.pinned (OpenSpec.ofChange fnExactDoTellWrong)

/-- 'laws.FnExactLongestHold': WHATEVER THE INPUT: true; the input reads as it did. -/
def fnExactLongestHoldSpec : ChangeSpec := { name := "fnExactLongestHold", fn := fun _ => fun
  | [d1, d2] => { results := [.lit (.bool true)], args := [d1, d2] }
  | _ => none }
def fnExactLongestHoldRow : OpenClaim := { program := "ytbgdnidbdfhgjaa", sum := "90ad5602adc76eabb86dbcbdf0e990afd695fdeb66aec34dbe57461da0bfcf12", func := "loop.example/g01269/laws.FnExactLongestHold", spec := "fnExactLongestHold", plainKeys := false, apart := false }
def FnExactLongestHoldSaid : Prop := fnExactLongestHoldRow.holds Try.pinned (OpenSpec.ofChange fnExactLongestHoldSpec)

/-- ITS FALSE NEIGHBOUR: 'it returns false'. Refute it at one input. -/
def fnExactLongestHoldWrong : ChangeSpec := { name := "fnExactLongestHold", fn := fun _ => fun
  | [d1, d2] => { results := [.lit (.bool false)], args := [d1, d2] }
  | _ => none }
def FnExactLongestHoldWrongFalsely : Prop := fnExactLongestHoldRow.holds Try.pinned (OpenSpec.ofChange fnExactLongestHoldWrong)

/-- 'laws.FnExactMostKept': WHATEVER THE INPUT: true; the input reads as it did. -/
def fnExactMostKeptSpec : ChangeSpec := { name := "fnExactMostKept", fn := fun _ => fun
  | [d1, d2] => { results := [.lit (.bool true)], args := [d1, d2] }
  | _ => none }
def fnExactMostKeptRow : OpenClaim := { program := "ytbgdnidbdfhgjaa", sum := "90ad5602adc76eabb86dbcbdf0e990afd695fdeb66aec34dbe57461da0bfcf12", func := "loop.example/g01269/laws.FnExactMostKept", spec := "fnExactMostKept", plainKeys := false, apart := false }
def FnExactMostKeptSaid : Prop := fnExactMostKeptRow.holds Try.pinned (OpenSpec.ofChange fnExactMostKeptSpec)

/-- ITS FALSE NEIGHBOUR: 'it returns false'. Refute it at one input. -/
def fnExactMostKeptWrong : ChangeSpec := { name := "fnExactMostKept", fn := fun _ => fun
  | [d1, d2] => { results := [.lit (.bool false)], args := [d1, d2] }
  | _ => none }
def FnExactMostKeptWrongFalsely : Prop := fnExactMostKeptRow.holds Try.pinned (OpenSpec.ofChange fnExactMostKeptWrong)

/-- 'laws.FnExactHoldAnswer': WHATEVER THE INPUT: true; the input reads as it did. -/
def fnExactHoldAnswerSpec : ChangeSpec := { name := "fnExactHoldAnswer", fn := fun _ => fun
  | [d1, d2] => { results := [.lit (.bool true)], args := [d1, d2] }
  | _ => none }
def fnExactHoldAnswerRow : OpenClaim := { program := "ytbgdnidbdfhgjaa", sum := "90ad5602adc76eabb86dbcbdf0e990afd695fdeb66aec34dbe57461da0bfcf12", func := "loop.example/g01269/laws.FnExactHoldAnswer", spec := "fnExactHoldAnswer", recurses := true, plainKeys := false, apart := false }
def FnExactHoldAnswerSaid : Prop := fnExactHoldAnswerRow.holds Try.pinned (OpenSpec.ofChange fnExactHoldAnswerSpec)

/-- ITS FALSE NEIGHBOUR: 'it returns false'. Refute it at one input. -/
def fnExactHoldAnswerWrong : ChangeSpec := { name := "fnExactHoldAnswer", fn := fun _ => fun
  | [d1, d2] => { results := [.lit (.bool false)], args := [d1, d2] }
  | _ => none }
def FnExactHoldAnswerWrongFalsely : Prop := fnExactHoldAnswerRow.holds Try.pinned (OpenSpec.ofChange fnExactHoldAnswerWrong)

/-- 'laws.FnExactHoldPlay': WHATEVER THE INPUT: true; the input reads as it did. -/
def fnExactHoldPlaySpec : ChangeSpec := { name := "fnExactHoldPlay", fn := fun _ => fun
  | [d1, d2] => { results := [.lit (.bool true)], args := [d1, d2] }
  | _ => none }
def fnExactHoldPlayRow : OpenClaim := { program := "ytbgdnidbdfhgjaa", sum := "90ad5602adc76eabb86dbcbdf0e990afd695fdeb66aec34dbe57461da0bfcf12", func := "loop.example/g01269/laws.FnExactHoldPlay", spec := "fnExactHoldPlay", recurses := true, plainKeys := false, apart := false }
def FnExactHoldPlaySaid : Prop := fnExactHoldPlayRow.holds Try.pinned (OpenSpec.ofChange fnExactHoldPlaySpec)

/-- ITS FALSE NEIGHBOUR: 'it returns false'. Refute it at one input. -/
def fnExactHoldPlayWrong : ChangeSpec := { name := "fnExactHoldPlay", fn := fun _ => fun
  | [d1, d2] => { results := [.lit (.bool false)], args := [d1, d2] }
  | _ => none }
def FnExactHoldPlayWrongFalsely : Prop := fnExactHoldPlayRow.holds Try.pinned (OpenSpec.ofChange fnExactHoldPlayWrong)

/-- 'laws.FnExactNeedlessQuestions': WHATEVER THE INPUT: true; the input reads as it did. -/
def fnExactNeedlessQuestionsSpec : ChangeSpec := { name := "fnExactNeedlessQuestions", fn := fun _ => fun
  | [d1, d2] => { results := [.lit (.bool true)], args := [d1, d2] }
  | _ => none }
def fnExactNeedlessQuestionsRow : OpenClaim := { program := "ytbgdnidbdfhgjaa", sum := "90ad5602adc76eabb86dbcbdf0e990afd695fdeb66aec34dbe57461da0bfcf12", func := "loop.example/g01269/laws.FnExactNeedlessQuestions", spec := "fnExactNeedlessQuestions", plainKeys := false, apart := false }
def FnExactNeedlessQuestionsSaid : Prop := fnExactNeedlessQuestionsRow.holds Try.pinned (OpenSpec.ofChange fnExactNeedlessQuestionsSpec)

/-- ITS FALSE NEIGHBOUR: 'it returns false'. Refute it at one input. -/
def fnExactNeedlessQuestionsWrong : ChangeSpec := { name := "fnExactNeedlessQuestions", fn := fun _ => fun
  | [d1, d2] => { results := [.lit (.bool false)], args := [d1, d2] }
  | _ => none }
def FnExactNeedlessQuestionsWrongFalsely : Prop := fnExactNeedlessQuestionsRow.holds Try.pinned (OpenSpec.ofChange fnExactNeedlessQuestionsWrong)

/-- 'laws.FnExactSecretAnswers': WHATEVER THE INPUT: true; the input reads as it did. -/
def fnExactSecretAnswersSpec : ChangeSpec := { name := "fnExactSecretAnswers", fn := fun _ => fun
  | [d1, d2, d3] => { results := [.lit (.bool true)], args := [d1, d2, d3] }
  | _ => none }
def fnExactSecretAnswersRow : OpenClaim := { program := "ytbgdnidbdfhgjaa", sum := "90ad5602adc76eabb86dbcbdf0e990afd695fdeb66aec34dbe57461da0bfcf12", func := "loop.example/g01269/laws.FnExactSecretAnswers", spec := "fnExactSecretAnswers", plainKeys := false, apart := false }
def FnExactSecretAnswersSaid : Prop := fnExactSecretAnswersRow.holds Try.pinned (OpenSpec.ofChange fnExactSecretAnswersSpec)

/-- ITS FALSE NEIGHBOUR: 'it returns false'. Refute it at one input. -/
def fnExactSecretAnswersWrong : ChangeSpec := { name := "fnExactSecretAnswers", fn := fun _ => fun
  | [d1, d2, d3] => { results := [.lit (.bool false)], args := [d1, d2, d3] }
  | _ => none }
def FnExactSecretAnswersWrongFalsely : Prop := fnExactSecretAnswersRow.holds Try.pinned (OpenSpec.ofChange fnExactSecretAnswersWrong)

/-- 'laws.FnExactCountSecretAnswers': WHATEVER THE INPUT: true; the input reads as it did. -/
def fnExactCountSecretAnswersSpec : ChangeSpec := { name := "fnExactCountSecretAnswers", fn := fun _ => fun
  | [d1, d2, d3] => { results := [.lit (.bool true)], args := [d1, d2, d3] }
  | _ => none }
def fnExactCountSecretAnswersRow : OpenClaim := { program := "ytbgdnidbdfhgjaa", sum := "90ad5602adc76eabb86dbcbdf0e990afd695fdeb66aec34dbe57461da0bfcf12", func := "loop.example/g01269/laws.FnExactCountSecretAnswers", spec := "fnExactCountSecretAnswers", plainKeys := false, apart := false }
def FnExactCountSecretAnswersSaid : Prop := fnExactCountSecretAnswersRow.holds Try.pinned (OpenSpec.ofChange fnExactCountSecretAnswersSpec)

/-- ITS FALSE NEIGHBOUR: 'it returns false'. Refute it at one input. -/
def fnExactCountSecretAnswersWrong : ChangeSpec := { name := "fnExactCountSecretAnswers", fn := fun _ => fun
  | [d1, d2, d3] => { results := [.lit (.bool false)], args := [d1, d2, d3] }
  | _ => none }
def FnExactCountSecretAnswersWrongFalsely : Prop := fnExactCountSecretAnswersRow.holds Try.pinned (OpenSpec.ofChange fnExactCountSecretAnswersWrong)

/- THE SECOND FORM. 'bulk': how many values and letters a reading holds, each counted each time it is reached (what is shared counts as often as it is met; a slice's spare places count too). A statement '..UptoSaid' is the law's where the arguments, and the package variables that the reading takes, are together of bulk at most 1048576: NARROWER than '..Said'. Prove '..Said' where nothing that the law and all that it calls make is longer than what came in: it says more and counts as full. Else prove '..UptoSaid'. A law counts once. -/
mutual
def uptoBulk {H : Type} : DataW H → Nat
  | .lit (.string bytes) => bytes.length + 1
  | .lit _ => 1
  | .nil => 1
  | .ptr d => uptoBulk d + 1
  | .slice elems spare => uptoBulkAll elems + uptoBulkAll spare + 1
  | .agg parts => uptoBulkAll parts + 1
  | .iface _ d => uptoBulk d + 1
  | .map entries => uptoBulkEntries entries + 1
  | .held _ => 1
def uptoBulkAll {H : Type} : List (DataW H) → Nat
  | [] => 0
  | d :: r => uptoBulk d + uptoBulkAll r
def uptoBulkEntries {H : Type} : List (Lit × DataW H) → Nat
  | [] => 0
  | x :: r => uptoBulkEntry x + uptoBulkEntries r
def uptoBulkEntry {H : Type} : Lit × DataW H → Nat
  | (.string bytes, d) => bytes.length + uptoBulk d + 1
  | (_, d) => uptoBulk d + 1
 end
def uptoSmall : (H : Type) → List (DataW H) → Bool := fun _ ds => decide (uptoBulkAll ds ≤ 1048576)
def OpenSpec.upto (s : _root_.Go.ChangeSpec) : _root_.Go.OpenSpec := { _root_.Go.OpenSpec.ofChange s with cond := some uptoSmall }

/-- 'laws.FnExactAnswerList', WHERE WHAT IT READS IS OF BULK AT MOST 1048576: true; the input reads as it did. -/
def fnExactAnswerListUptoRow : OpenClaim := { program := "ytbgdnidbdfhgjaa", sum := "90ad5602adc76eabb86dbcbdf0e990afd695fdeb66aec34dbe57461da0bfcf12", func := "loop.example/g01269/laws.FnExactAnswerList", spec := "fnExactAnswerList", plainKeys := false, apart := false, narrowed := true }
def FnExactAnswerListUptoSaid : Prop := fnExactAnswerListUptoRow.holds Try.pinned (OpenSpec.upto fnExactAnswerListSpec)

/-- 'laws.FnExactCountFair', WHERE WHAT IT READS IS OF BULK AT MOST 1048576: true; the input reads as it did. -/
def fnExactCountFairUptoRow : OpenClaim := { program := "ytbgdnidbdfhgjaa", sum := "90ad5602adc76eabb86dbcbdf0e990afd695fdeb66aec34dbe57461da0bfcf12", func := "loop.example/g01269/laws.FnExactCountFair", spec := "fnExactCountFair", plainKeys := false, apart := false, narrowed := true }
def FnExactCountFairUptoSaid : Prop := fnExactCountFairUptoRow.holds Try.pinned (OpenSpec.upto fnExactCountFairSpec)

/-- 'laws.FnExactCountHolding', WHERE WHAT IT READS IS OF BULK AT MOST 1048576: true; the input reads as it did. -/
def fnExactCountHoldingUptoRow : OpenClaim := { program := "ytbgdnidbdfhgjaa", sum := "90ad5602adc76eabb86dbcbdf0e990afd695fdeb66aec34dbe57461da0bfcf12", func := "loop.example/g01269/laws.FnExactCountHolding", spec := "fnExactCountHolding", plainKeys := false, apart := false, narrowed := true }
def FnExactCountHoldingUptoSaid : Prop := fnExactCountHoldingUptoRow.holds Try.pinned (OpenSpec.upto fnExactCountHoldingSpec)

/-- 'laws.FnExactFirstHolding', WHERE WHAT IT READS IS OF BULK AT MOST 1048576: true; the input reads as it did. -/
def fnExactFirstHoldingUptoRow : OpenClaim := { program := "ytbgdnidbdfhgjaa", sum := "90ad5602adc76eabb86dbcbdf0e990afd695fdeb66aec34dbe57461da0bfcf12", func := "loop.example/g01269/laws.FnExactFirstHolding", spec := "fnExactFirstHolding", plainKeys := false, apart := false, narrowed := true }
def FnExactFirstHoldingUptoSaid : Prop := fnExactFirstHoldingUptoRow.holds Try.pinned (OpenSpec.upto fnExactFirstHoldingSpec)

/-- 'laws.FnExactDoTell', WHERE WHAT IT READS IS OF BULK AT MOST 1048576: true; the input reads as it did. -/
def fnExactDoTellUptoRow : OpenClaim := { program := "ytbgdnidbdfhgjaa", sum := "90ad5602adc76eabb86dbcbdf0e990afd695fdeb66aec34dbe57461da0bfcf12", func := "loop.example/g01269/laws.FnExactDoTell", spec := "fnExactDoTell", plainKeys := false, apart := false, narrowed := true }
def FnExactDoTellUptoSaid : Prop := fnExactDoTellUptoRow.holds Try.pinned (OpenSpec.upto fnExactDoTellSpec)

/-- 'laws.FnExactLongestHold', WHERE WHAT IT READS IS OF BULK AT MOST 1048576: true; the input reads as it did. -/
def fnExactLongestHoldUptoRow : OpenClaim := { program := "ytbgdnidbdfhgjaa", sum := "90ad5602adc76eabb86dbcbdf0e990afd695fdeb66aec34dbe57461da0bfcf12", func := "loop.example/g01269/laws.FnExactLongestHold", spec := "fnExactLongestHold", plainKeys := false, apart := false, narrowed := true }
def FnExactLongestHoldUptoSaid : Prop := fnExactLongestHoldUptoRow.holds Try.pinned (OpenSpec.upto fnExactLongestHoldSpec)

/-- 'laws.FnExactMostKept', WHERE WHAT IT READS IS OF BULK AT MOST 1048576: true; the input reads as it did. -/
def fnExactMostKeptUptoRow : OpenClaim := { program := "ytbgdnidbdfhgjaa", sum := "90ad5602adc76eabb86dbcbdf0e990afd695fdeb66aec34dbe57461da0bfcf12", func := "loop.example/g01269/laws.FnExactMostKept", spec := "fnExactMostKept", plainKeys := false, apart := false, narrowed := true }
def FnExactMostKeptUptoSaid : Prop := fnExactMostKeptUptoRow.holds Try.pinned (OpenSpec.upto fnExactMostKeptSpec)

/-- 'laws.FnExactHoldAnswer', WHERE WHAT IT READS IS OF BULK AT MOST 1048576: true; the input reads as it did. -/
def fnExactHoldAnswerUptoRow : OpenClaim := { program := "ytbgdnidbdfhgjaa", sum := "90ad5602adc76eabb86dbcbdf0e990afd695fdeb66aec34dbe57461da0bfcf12", func := "loop.example/g01269/laws.FnExactHoldAnswer", spec := "fnExactHoldAnswer", recurses := true, plainKeys := false, apart := false, narrowed := true }
def FnExactHoldAnswerUptoSaid : Prop := fnExactHoldAnswerUptoRow.holds Try.pinned (OpenSpec.upto fnExactHoldAnswerSpec)

/-- 'laws.FnExactHoldPlay', WHERE WHAT IT READS IS OF BULK AT MOST 1048576: true; the input reads as it did. -/
def fnExactHoldPlayUptoRow : OpenClaim := { program := "ytbgdnidbdfhgjaa", sum := "90ad5602adc76eabb86dbcbdf0e990afd695fdeb66aec34dbe57461da0bfcf12", func := "loop.example/g01269/laws.FnExactHoldPlay", spec := "fnExactHoldPlay", recurses := true, plainKeys := false, apart := false, narrowed := true }
def FnExactHoldPlayUptoSaid : Prop := fnExactHoldPlayUptoRow.holds Try.pinned (OpenSpec.upto fnExactHoldPlaySpec)

/-- 'laws.FnExactNeedlessQuestions', WHERE WHAT IT READS IS OF BULK AT MOST 1048576: true; the input reads as it did. -/
def fnExactNeedlessQuestionsUptoRow : OpenClaim := { program := "ytbgdnidbdfhgjaa", sum := "90ad5602adc76eabb86dbcbdf0e990afd695fdeb66aec34dbe57461da0bfcf12", func := "loop.example/g01269/laws.FnExactNeedlessQuestions", spec := "fnExactNeedlessQuestions", plainKeys := false, apart := false, narrowed := true }
def FnExactNeedlessQuestionsUptoSaid : Prop := fnExactNeedlessQuestionsUptoRow.holds Try.pinned (OpenSpec.upto fnExactNeedlessQuestionsSpec)

/-- 'laws.FnExactSecretAnswers', WHERE WHAT IT READS IS OF BULK AT MOST 1048576: true; the input reads as it did. -/
def fnExactSecretAnswersUptoRow : OpenClaim := { program := "ytbgdnidbdfhgjaa", sum := "90ad5602adc76eabb86dbcbdf0e990afd695fdeb66aec34dbe57461da0bfcf12", func := "loop.example/g01269/laws.FnExactSecretAnswers", spec := "fnExactSecretAnswers", plainKeys := false, apart := false, narrowed := true }
def FnExactSecretAnswersUptoSaid : Prop := fnExactSecretAnswersUptoRow.holds Try.pinned (OpenSpec.upto fnExactSecretAnswersSpec)

/-- 'laws.FnExactCountSecretAnswers', WHERE WHAT IT READS IS OF BULK AT MOST 1048576: true; the input reads as it did. -/
def fnExactCountSecretAnswersUptoRow : OpenClaim := { program := "ytbgdnidbdfhgjaa", sum := "90ad5602adc76eabb86dbcbdf0e990afd695fdeb66aec34dbe57461da0bfcf12", func := "loop.example/g01269/laws.FnExactCountSecretAnswers", spec := "fnExactCountSecretAnswers", plainKeys := false, apart := false, narrowed := true }
def FnExactCountSecretAnswersUptoSaid : Prop := fnExactCountSecretAnswersUptoRow.holds Try.pinned (OpenSpec.upto fnExactCountSecretAnswersSpec)

end Rows
end Go.Proofs.Ytbgdnidbdfhgjaa
