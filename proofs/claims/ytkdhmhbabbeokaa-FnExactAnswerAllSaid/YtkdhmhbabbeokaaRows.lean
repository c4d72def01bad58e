/-
  No cell of these rows narrows 'for every input' (looked for: loops, veiled, ifaces, maps, wideKeys, modest, calm, conditions, laid).
  DERIVED. THE GIVEN ROWS OF THIS SEAT. 11 by the template 'for every input the law returns true; each argument reads behind the call as it read before'; 0 by the template 'total and deterministic' (their statements: YtkdhmhbabbeokaaTotals.lean).
  GIVEN WITH THE SEED: the statements are not yours to turn. If you find one false, say at which input.
  Laid BY PROGRAM, IN A SANDBOX (cutbox-rows.mjs): the forced cells as the released guide's own fill.sh prints them over the translation 93e2f32893b30f86… (all of the seat's roots in one cut). By AI agents, Wed Nov 11 2026. No macro, syntax, notation, axiom, sorry.
-/
import Derived.Test.YtkdhmhbabbeokaaChecked
import GoSem.Claim
import GoSem.ClaimJoined
import GoSem.ClaimMapViews
import Derived.JoinedTies
import Derived.KernelRfl
namespace Go.Proofs.Ytkdhmhbabbeokaa
/- THE CELL 'sum', in the pinned program and in every row, IS THE sha256 OF THE DUMP (.gsa) THAT YtkdhmhbabbeokaaProg.lean LOADS. Nothing in Lean hashes anything: it is a label: what it is worth is what the hold of that sum in a sandbox is worth. -/
noncomputable def Try.pinned : Pinned := { name := "ytkdhmhbabbeokaa", sum := "93e2f32893b30f86189aa49fe3897aaa9c05afbef59c3903f3a4643a210fa172", checked := Try.checked }
namespace Rows
def none {H : Type} : Left H := { results := [], args := [] }

/-- 'laws.FnQuestions': WHATEVER THE INPUT: true; the input reads as it did. -/
def fnQuestionsSpec : ChangeSpec := { name := "fnQuestions", fn := fun _ => fun
  | [d] => { results := [.lit (.bool true)], args := [d] }
  | _ => none }
def fnQuestionsRow : OpenClaim := { program := "ytkdhmhbabbeokaa", sum := "93e2f32893b30f86189aa49fe3897aaa9c05afbef59c3903f3a4643a210fa172", func := "loop.example/g01269/laws.FnQuestions", spec := "fnQuestions", apart := false }
def FnQuestionsSaid : Prop := fnQuestionsRow.holds Try.pinned (OpenSpec.ofChange fnQuestionsSpec)

/-- ITS FALSE NEIGHBOUR: 'it returns false'. Refute it at one input. -/
def fnQuestionsWrong : ChangeSpec := { name := "fnQuestions", fn := fun _ => fun
  | [d] => { results := [.lit (.bool false)], args := [d] }
  | _ => none }
def FnQuestionsWrongFalsely : Prop := fnQuestionsRow.holds Try.pinned (OpenSpec.ofChange fnQuestionsWrong)

/-- 'laws.FnExactIsState': WHATEVER THE INPUT: true; the input reads as it did. -/
def fnExactIsStateSpec : ChangeSpec := { name := "fnExactIsState", fn := fun _ => fun
  | [d] => { results := [.lit (.bool true)], args := [d] }
  | _ => none }
def fnExactIsStateRow : OpenClaim := { program := "ytkdhmhbabbeokaa", sum := "93e2f32893b30f86189aa49fe3897aaa9c05afbef59c3903f3a4643a210fa172", func := "loop.example/g01269/laws.FnExactIsState", spec := "fnExactIsState", apart := false }
def FnExactIsStateSaid : Prop := fnExactIsStateRow.holds Try.pinned (OpenSpec.ofChange fnExactIsStateSpec)

/-- ITS FALSE NEIGHBOUR: 'it returns false'. Refute it at one input. -/
def fnExactIsStateWrong : ChangeSpec := { name := "fnExactIsState", fn := fun _ => fun
  | [d] => { results := [.lit (.bool false)], args := [d] }
  | _ => none }
def FnExactIsStateWrongFalsely : Prop := fnExactIsStateRow.holds Try.pinned (OpenSpec.ofChange fnExactIsStateWrong)

/-- 'laws.FnExactStartState': WHATEVER THE INPUT: true; the input reads as it did. -/
def fnExactStartStateSpec : ChangeSpec := { name := "fnExactStartState", fn := fun _ => fun
  | [d1, d2] => { results := [.lit (.bool true)], args := [d1, d2] }
  | _ => none }
def fnExactStartStateRow : OpenClaim := { program := "ytkdhmhbabbeokaa", sum := "93e2f32893b30f86189aa49fe3897aaa9c05afbef59c3903f3a4643a210fa172", func := "loop.example/g01269/laws.FnExactStartState", spec := "fnExactStartState", apart := false }
def FnExactStartStateSaid : Prop := fnExactStartStateRow.holds Try.pinned (OpenSpec.ofChange fnExactStartStateSpec)

/-- ITS FALSE NEIGHBOUR: 'it returns false'. Refute it at one input. -/
def fnExactStartStateWrong : ChangeSpec := { name := "fnExactStartState", fn := fun _ => fun
  | [d1, d2] => { results := [.lit (.bool false)], args := [d1, d2] }
  | _ => none }
def FnExactStartStateWrongFalsely : Prop := fnExactStartStateRow.holds Try.pinned (OpenSpec.ofChange fnExactStartStateWrong)

/-- 'laws.FnExactAnswerState': WHATEVER THE INPUT: true; the input reads as it did. -/
def fnExactAnswerStateSpec : ChangeSpec := { name := "fnExactAnswerState", fn := fun _ => fun
  | [d1, d2] => { results := [.lit (.bool true)], args := [d1, d2] }
  | _ => none }
def fnExactAnswerStateRow : OpenClaim := { program := "ytkdhmhbabbeokaa", sum := "93e2f32893b30f86189aa49fe3897aaa9c05afbef59c3903f3a4643a210fa172", func := "loop.example/g01269/laws.FnExactAnswerState", spec := "fnExactAnswerState", apart := false }
def FnExactAnswerStateSaid : Prop := fnExactAnswerStateRow.holds Try.pinned (OpenSpec.ofChange fnExactAnswerStateSpec)

/-- ITS FALSE NEIGHBOUR: 'it returns false'. Refute it at one input. -/
def fnExactAnswerStateWrong : ChangeSpec := { name := "fnExactAnswerState", fn := fun _ => fun
  | [d1, d2] => { results := [.lit (.bool false)], args := [d1, d2] }
  | _ => none }
def FnExactAnswerStateWrongFalsely : Prop := fnExactAnswerStateRow.holds Try.pinned (OpenSpec.ofChange fnExactAnswerStateWrong)

/-- 'laws.FnExactAnswerAll': WHATEVER THE INPUT: true; the input reads as it did. -/
def fnExactAnswerAllSpec : ChangeSpec := { name := "fnExactAnswerAll", fn := fun _ => fun
  | [d1, d2, d3] => { results := [.lit (.bool true)], args := [d1, d2, d3] }
  | _ => none }
def fnExactAnswerAllRow : OpenClaim := { program := "ytkdhmhbabbeokaa", sum := "93e2f32893b30f86189aa49fe3897aaa9c05afbef59c3903f3a4643a210fa172", func := "loop.example/g01269/laws.FnExactAnswerAll", spec := "fnExactAnswerAll", apart := false }
def FnExactAnswerAllSaid : Prop := fnExactAnswerAllRow.holds Try.pinned (OpenSpec.ofChange fnExactAnswerAllSpec)

/-- ITS FALSE NEIGHBOUR: 'it returns false'. Refute it at one input. -/
def fnExactAnswerAllWrong : ChangeSpec := { name := "fnExactAnswerAll", fn := fun _ => fun
  | [d1, d2, d3] => { results := [.lit (.bool false)], args := [d1, d2, d3] }
  | _ => none }
def FnExactAnswerAllWrongFalsely : Prop := fnExactAnswerAllRow.holds Try.pinned (OpenSpec.ofChange fnExactAnswerAllWrong)

/-- 'laws.FnExactOpenNumbers': WHATEVER THE INPUT: true; the input reads as it did. -/
def fnExactOpenNumbersSpec : ChangeSpec := { name := "fnExactOpenNumbers", fn := fun _ => fun
  | [d] => { results := [.lit (.bool true)], args := [d] }
  | _ => none }
def fnExactOpenNumbersRow : OpenClaim := { program := "ytkdhmhbabbeokaa", sum := "93e2f32893b30f86189aa49fe3897aaa9c05afbef59c3903f3a4643a210fa172", func := "loop.example/g01269/laws.FnExactOpenNumbers", spec := "fnExactOpenNumbers", apart := false }
def FnExactOpenNumbersSaid : Prop := fnExactOpenNumbersRow.holds Try.pinned (OpenSpec.ofChange fnExactOpenNumbersSpec)

/-- ITS FALSE NEIGHBOUR: 'it returns false'. Refute it at one input. -/
def fnExactOpenNumbersWrong : ChangeSpec := { name := "fnExactOpenNumbers", fn := fun _ => fun
  | [d] => { results := [.lit (.bool false)], args := [d] }
  | _ => none }
def FnExactOpenNumbersWrongFalsely : Prop := fnExactOpenNumbersRow.holds Try.pinned (OpenSpec.ofChange fnExactOpenNumbersWrong)

/-- 'laws.FnExactToldNumber': WHATEVER THE INPUT: true; the input reads as it did. -/
def fnExactToldNumberSpec : ChangeSpec := { name := "fnExactToldNumber", fn := fun _ => fun
  | [d] => { results := [.lit (.bool true)], args := [d] }
  | _ => none }
def fnExactToldNumberRow : OpenClaim := { program := "ytkdhmhbabbeokaa", sum := "93e2f32893b30f86189aa49fe3897aaa9c05afbef59c3903f3a4643a210fa172", func := "loop.example/g01269/laws.FnExactToldNumber", spec := "fnExactToldNumber", apart := false }
def FnExactToldNumberSaid : Prop := fnExactToldNumberRow.holds Try.pinned (OpenSpec.ofChange fnExactToldNumberSpec)

/-- ITS FALSE NEIGHBOUR: 'it returns false'. Refute it at one input. -/
def fnExactToldNumberWrong : ChangeSpec := { name := "fnExactToldNumber", fn := fun _ => fun
  | [d] => { results := [.lit (.bool false)], args := [d] }
  | _ => none }
def FnExactToldNumberWrongFalsely : Prop := fnExactToldNumberRow.holds Try.pinned (OpenSpec.ofChange fnExactToldNumberWrong)

/-- 'laws.FnExactCountsOf': WHATEVER THE INPUT: true; the input reads as it did. -/
def fnExactCountsOfSpec : ChangeSpec := { name := "fnExactCountsOf", fn := fun _ => fun
  | [d] => { results := [.lit (.bool true)], args := [d] }
  | _ => none }
def fnExactCountsOfRow : OpenClaim := { program := "ytkdhmhbabbeokaa", sum := "93e2f32893b30f86189aa49fe3897aaa9c05afbef59c3903f3a4643a210fa172", func := "loop.example/g01269/laws.FnExactCountsOf", spec := "fnExactCountsOf", apart := false }
def FnExactCountsOfSaid : Prop := fnExactCountsOfRow.holds Try.pinned (OpenSpec.ofChange fnExactCountsOfSpec)

/-- ITS FALSE NEIGHBOUR: 'it returns false'. Refute it at one input. -/
def fnExactCountsOfWrong : ChangeSpec := { name := "fnExactCountsOf", fn := fun _ => fun
  | [d] => { results := [.lit (.bool false)], args := [d] }
  | _ => none }
def FnExactCountsOfWrongFalsely : Prop := fnExactCountsOfRow.holds Try.pinned (OpenSpec.ofChange fnExactCountsOfWrong)

/-- 'laws.FnExactFalseFor': WHATEVER THE INPUT: true; the input reads as it did. -/
def fnExactFalseForSpec : ChangeSpec := { name := "fnExactFalseFor", fn := fun _ => fun
  | [d1, d2, d3] => { results := [.lit (.bool true)], args := [d1, d2, d3] }
  | _ => none }
def fnExactFalseForRow : OpenClaim := { program := "ytkdhmhbabbeokaa", sum := "93e2f32893b30f86189aa49fe3897aaa9c05afbef59c3903f3a4643a210fa172", func := "loop.example/g01269/laws.FnExactFalseFor", spec := "fnExactFalseFor", apart := false }
def FnExactFalseForSaid : Prop := fnExactFalseForRow.holds Try.pinned (OpenSpec.ofChange fnExactFalseForSpec)

/-- ITS FALSE NEIGHBOUR: 'it returns false'. Refute it at one input. -/
def fnExactFalseForWrong : ChangeSpec := { name := "fnExactFalseFor", fn := fun _ => fun
  | [d1, d2, d3] => { results := [.lit (.bool false)], args := [d1, d2, d3] }
  | _ => none }
def FnExactFalseForWrongFalsely : Prop := fnExactFalseForRow.holds Try.pinned (OpenSpec.ofChange fnExactFalseForWrong)

/-- 'laws.FnExactFewestFalse': WHATEVER THE INPUT: true; the input reads as it did. -/
def fnExactFewestFalseSpec : ChangeSpec := { name := "fnExactFewestFalse", fn := fun _ => fun
  | [d1, d2] => { results := [.lit (.bool true)], args := [d1, d2] }
  | _ => none }
def fnExactFewestFalseRow : OpenClaim := { program := "ytkdhmhbabbeokaa", sum := "93e2f32893b30f86189aa49fe3897aaa9c05afbef59c3903f3a4643a210fa172", func := "loop.example/g01269/laws.FnExactFewestFalse", spec := "fnExactFewestFalse", apart := false }
def FnExactFewestFalseSaid : Prop := fnExactFewestFalseRow.holds Try.pinned (OpenSpec.ofChange fnExactFewestFalseSpec)

/-- ITS FALSE NEIGHBOUR: 'it returns false'. Refute it at one input. -/
def fnExactFewestFalseWrong : ChangeSpec := { name := "fnExactFewestFalse", fn := fun _ => fun
  | [d1, d2] => { results := [.lit (.bool false)], args := [d1, d2] }
  | _ => none }
def FnExactFewestFalseWrongFalsely : Prop := fnExactFewestFalseRow.holds Try.pinned (OpenSpec.ofChange fnExactFewestFalseWrong)

/-- 'laws.FnExactOtherQuestion': WHATEVER THE INPUT: true; the input reads as it did. -/
def fnExactOtherQuestionSpec : ChangeSpec := { name := "fnExactOtherQuestion", fn := fun _ => fun
  | [d1, d2] => { results := [.lit (.bool true)], args := [d1, d2] }
  | _ => none }
def fnExactOtherQuestionRow : OpenClaim := { program := "ytkdhmhbabbeokaa", sum := "93e2f32893b30f86189aa49fe3897aaa9c05afbef59c3903f3a4643a210fa172", func := "loop.example/g01269/laws.FnExactOtherQuestion", spec := "fnExactOtherQuestion", apart := false }
def FnExactOtherQuestionSaid : Prop := fnExactOtherQuestionRow.holds Try.pinned (OpenSpec.ofChange fnExactOtherQuestionSpec)

/-- ITS FALSE NEIGHBOUR: 'it returns false'. Refute it at one input. -/
def fnExactOtherQuestionWrong : ChangeSpec := { name := "fnExactOtherQuestion", fn := fun _ => fun
  | [d1, d2] => { results := [.lit (.bool false)], args := [d1, d2] }
  | _ => none }
def FnExactOtherQuestionWrongFalsely : Prop := fnExactOtherQuestionRow.holds Try.pinned (OpenSpec.ofChange fnExactOtherQuestionWrong)

/- THE SECOND FORM. 'bulk': how many values and letters a reading holds, each counted each time it is reached (what is shared counts as often as it is met; a slice's spare places count too). A statement '..UptoSaid' is the law's where the arguments, and the package variables that the reading takes, are together of bulk at most 1048576: NARROWER than '..Said'. Prove '..Said' where nothing that the law and all that it calls make is longer than what came in: it says more and counts as full. Else prove '..UptoSaid'. A law counts once. -/
mutual
def uptoBulk {H : Type} : DataW H → Nat
  | .lit (.string bytes) => bytes.length + 1
  | .lit _ => 1
  | .nil => 1
  | .ptr d => uptoBulk d + 1
  | .slice elems spare => uptoBulkAll elems + uptoBulkAll spare + 1
  | .agg parts => uptoBulkAll parts + 1
  | .iface _ d => uptoBulk d + 1
  | .map entries => uptoBulkEntries entries + 1
  | .held _ => 1
def uptoBulkAll {H : Type} : List (DataW H) → Nat
  | [] => 0
  | d :: r => uptoBulk d + uptoBulkAll r
def uptoBulkEntries {H : Type} : List (Lit × DataW H) → Nat
  | [] => 0
  | x :: r => uptoBulkEntry x + uptoBulkEntries r
def uptoBulkEntry {H : Type} : Lit × DataW H → Nat
  | (.string bytes, d) => bytes.length + uptoBulk d + 1
  | (_, d) => uptoBulk d + 1
 end
def uptoSmall : (H : Type) → List (DataW H) → Bool := fun _ ds => decide (uptoBulkAll ds ≤ 1048576)
def OpenSpec.upto (s : _root_.Go.ChangeSpec) : _root_.Go.OpenSpec := { _root_.Go.OpenSpec.ofChange s with cond := some uptoSmall }

/-- 'laws.FnQuestions', WHERE WHAT IT READS IS OF BULK AT MOST 1048576: true; the input reads as it did. -/
def fnQuestionsUptoRow : OpenClaim := { program := "ytkdhmhbabbeokaa", sum := "93e2f32893b30f86189aa49fe3897aaa9c05afbef59c3903f3a4643a210fa172", func := "loop.example/g01269/laws.FnQuestions", spec := "fnQuestions", apart := false, narrowed := true }
def FnQuestionsUptoSaid : Prop := fnQuestionsUptoRow.holds Try.pinned (OpenSpec.upto fnQuestionsSpec)

/-- 'laws.FnExactIsState', WHERE WHAT IT READS IS OF BULK AT MOST 1048576: true; the input reads as it did. -/
def fnExactIsStateUptoRow : OpenClaim := { program := "ytkdhmhbabbeokaa", sum := "93e2f32893b30f86189aa49fe3897aaa9c05afbef59c3903f3a4643a210fa172", func := "loop.example/g01269/laws.FnExactIsState", spec := "fnExactIsState", apart := false, narrowed := true }
def FnExactIsStateUptoSaid : Prop := fnExactIsStateUptoRow.holds Try.pinned (OpenSpec.upto fnExactIsStateSpec)

/-- 'laws.FnExactStartState', WHERE WHAT IT READS IS OF BULK AT MOST 1048576: true; the input reads as it did. -/
def fnExactStartStateUptoRow : OpenClaim := { program := "ytkdhmhbabbeokaa", sum := "93e2f32893b30f86189aa49fe3897aaa9c05afbef59c3903f3a4643a210fa172", func := "loop.example/g01269/laws.FnExactStartState", spec := "fnExactStartState", apart := false, narrowed := true }
def FnExactStartStateUptoSaid : Prop := fnExactStartStateUptoRow.holds Try.pinned (OpenSpec.upto fnExactStartStateSpec)

/-- 'laws.FnExactAnswerState', WHERE WHAT IT READS IS OF BULK AT MOST 1048576: true; the input reads as it did. -/
def fnExactAnswerStateUptoRow : OpenClaim := { program := "ytkdhmhbabbeokaa", sum := "93e2f32893b30f86189aa49fe3897aaa9c05afbef59c3903f3a4643a210fa172", func := "loop.example/g01269/laws.FnExactAnswerState", spec := "fnExactAnswerState", apart := false, narrowed := true }
def FnExactAnswerStateUptoSaid : Prop := fnExactAnswerStateUptoRow.holds Try.pinned (OpenSpec.upto fnExactAnswerStateSpec)

/-- 'laws.FnExactAnswerAll', WHERE WHAT IT READS IS OF BULK AT MOST 1048576: true; the input reads as it did. -/
def fnExactAnswerAllUptoRow : OpenClaim := { program := "ytkdhmhbabbeokaa", sum := "93e2f32893b30f86189aa49fe3897aaa9c05afbef59c3903f3a4643a210fa172", func := "loop.example/g01269/laws.FnExactAnswerAll", spec := "fnExactAnswerAll", apart := false, narrowed := true }
def FnExactAnswerAllUptoSaid : Prop := fnExactAnswerAllUptoRow.holds Try.pinned (OpenSpec.upto fnExactAnswerAllSpec)

/-- 'laws.FnExactOpenNumbers', WHERE WHAT IT READS IS OF BULK AT MOST 1048576: true; the input reads as it did. -/
def fnExactOpenNumbersUptoRow : OpenClaim := { program := "ytkdhmhbabbeokaa", sum := "93e2f32893b30f86189aa49fe3897aaa9c05afbef59c3903f3a4643a210fa172", func := "loop.example/g01269/laws.FnExactOpenNumbers", spec := "fnExactOpenNumbers", apart := false, narrowed := true }
def FnExactOpenNumbersUptoSaid : Prop := fnExactOpenNumbersUptoRow.holds Try.pinned (OpenSpec.upto fnExactOpenNumbersSpec)

/-- 'laws.FnExactToldNumber', WHERE WHAT IT READS IS OF BULK AT MOST 1048576: true; the input reads as it did. -/
def fnExactToldNumberUptoRow : OpenClaim := { program := "ytkdhmhbabbeokaa", sum := "93e2f32893b30f86189aa49fe3897aaa9c05afbef59c3903f3a4643a210fa172", func := "loop.example/g01269/laws.FnExactToldNumber", spec := "fnExactToldNumber", apart := false, narrowed := true }
def FnExactToldNumberUptoSaid : Prop := fnExactToldNumberUptoRow.holds Try.pinned (OpenSpec.upto fnExactToldNumberSpec)

/-- 'laws.FnExactCountsOf', WHERE WHAT IT READS IS OF BULK AT MOST 1048576: true; the input reads as it did. -/
def fnExactCountsOfUptoRow : OpenClaim := { program := "ytkdhmhbabbeokaa", sum := "93e2f32893b30f86189aa49fe3897aaa9c05afbef59c3903f3a4643a210fa172", func := "loop.example/g01269/laws.FnExactCountsOf", spec := "fnExactCountsOf", apart := false, narrowed := true }
def FnExactCountsOfUptoSaid : Prop := fnExactCountsOfUptoRow.holds Try.pinned (OpenSpec.upto fnExactCountsOfSpec)

/-- 'laws.FnExactFalseFor', WHERE WHAT IT READS IS OF BULK AT MOST 1048576: true; the input reads as it did. -/
def fnExactFalseForUptoRow : OpenClaim := { program := "ytkdhmhbabbeokaa", sum := "93e2f32893b30f86189aa49fe3897aaa9c05afbef59c3903f3a4643a210fa172", func := "loop.example/g01269/laws.FnExactFalseFor", spec := "fnExactFalseFor", apart := false, narrowed := true }
def FnExactFalseForUptoSaid : Prop := fnExactFalseForUptoRow.holds Try.pinned (OpenSpec.upto fnExactFalseForSpec)

/-- 'laws.FnExactFewestFalse', WHERE WHAT IT READS IS OF BULK AT MOST 1048576: true; the input reads as it did. -/
def fnExactFewestFalseUptoRow : OpenClaim := { program := "ytkdhmhbabbeokaa", sum := "93e2f32893b30f86189aa49fe3897aaa9c05afbef59c3903f3a4643a210fa172", func := "loop.example/g01269/laws.FnExactFewestFalse", spec := "fnExactFewestFalse", apart := false, narrowed := true }
def FnExactFewestFalseUptoSaid : Prop := fnExactFewestFalseUptoRow.holds Try.pinned (OpenSpec.upto fnExactFewestFalseSpec)

/-- 'laws.FnExactOtherQuestion', WHERE WHAT IT READS IS OF BULK AT MOST 1048576: true; the input reads as it did. -/
def fnExactOtherQuestionUptoRow : OpenClaim := { program := "ytkdhmhbabbeokaa", sum := "93e2f32893b30f86189aa49fe3897aaa9c05afbef59c3903f3a4643a210fa172", func := "loop.example/g01269/laws.FnExactOtherQuestion", spec := "fnExactOtherQuestion", apart := false, narrowed := true }
def FnExactOtherQuestionUptoSaid : Prop := fnExactOtherQuestionUptoRow.holds Try.pinned (OpenSpec.upto fnExactOtherQuestionSpec)

end Rows
end Go.Proofs.Ytkdhmhbabbeokaa
