/-
  No cell of these rows narrows 'for every input' (looked for: loops, veiled, ifaces, maps, wideKeys, modest, calm, conditions, laid).
  DERIVED. THE GIVEN ROWS OF THIS SEAT. 12 by the template 'for every input the law returns true; each argument reads behind the call as it read before'; 0 by the template 'total and deterministic' (their statements: YtopgccficjkenaaTotals.lean).
  GIVEN WITH THE SEED: the statements are not yours to turn. If you find one false, say at which input.
  Laid BY PROGRAM, IN A SANDBOX (cutbox-rows.mjs): the forced cells as the released guide's own fill.sh prints them over the translation bbb84220e8559842… (all of the seat's roots in one cut). By AI agents, Wed Nov 11 2026. No macro, syntax, notation, axiom, sorry.
-/
import Derived.Test.YtopgccficjkenaaChecked
import GoSem.Claim
import GoSem.ClaimJoined
import GoSem.ClaimMapViews
import Derived.JoinedTies
import Derived.KernelRfl
namespace Go.Proofs.Ytopgccficjkenaa
/- THE CELL 'sum', in the pinned program and in every row, IS THE sha256 OF THE DUMP (.gsa) THAT YtopgccficjkenaaProg.lean LOADS. Nothing in Lean hashes anything: it is a label: what it is worth is what the hold of that sum in a sandbox is worth. -/
noncomputable def Try.pinned : Pinned := { name := "ytopgccficjkenaa", sum := "bbb84220e85598425f6039d6a1859bb1943a606cc498f8381b1fe64459855543", checked := Try.checked }
namespace Rows
def none {H : Type} : Left H := { results := [], args := [] }

/-- 'laws.FnRaces': WHATEVER THE INPUT: true; the input reads as it did. -/
def fnRacesSpec : ChangeSpec := { name := "fnRaces", fn := fun _ => fun
  | [d] => { results := [.lit (.bool true)], args := [d] }
  | _ => none }
def fnRacesRow : OpenClaim := { program := "ytopgccficjkenaa", sum := "bbb84220e85598425f6039d6a1859bb1943a606cc498f8381b1fe64459855543", func := "loop.example/g01269/laws.FnRaces", spec := "fnRaces", inPlace := ["internal/abi.NoEscape"], recurses := true, apart := false }
def FnRacesSaid : Prop := fnRacesRow.holds Try.pinned (OpenSpec.ofChange fnRacesSpec)

/-- ITS FALSE NEIGHBOUR: 'it returns false'. Refute it at one input. -/
def fnRacesWrong : ChangeSpec := { name := "fnRaces", fn := fun _ => fun
  | [d] => { results := [.lit (.bool false)], args := [d] }
  | _ => none }
def FnRacesWrongFalsely : Prop := fnRacesRow.holds Try.pinned (OpenSpec.ofChange fnRacesWrong)

/-- 'laws.FnRacePlays': WHATEVER THE INPUT: true; the input reads as it did. -/
def fnRacePlaysSpec : ChangeSpec := { name := "fnRacePlays", fn := fun _ => fun
  | [d] => { results := [.lit (.bool true)], args := [d] }
  | _ => none }
def fnRacePlaysRow : OpenClaim := { program := "ytopgccficjkenaa", sum := "bbb84220e85598425f6039d6a1859bb1943a606cc498f8381b1fe64459855543", func := "loop.example/g01269/laws.FnRacePlays", spec := "fnRacePlays", inPlace := ["internal/abi.NoEscape"], unfollowed := true, recurses := true, apart := false }
def FnRacePlaysSaid : Prop := fnRacePlaysRow.holds Try.pinned (OpenSpec.ofChange fnRacePlaysSpec)

/-- ITS FALSE NEIGHBOUR: 'it returns false'. Refute it at one input. -/
def fnRacePlaysWrong : ChangeSpec := { name := "fnRacePlays", fn := fun _ => fun
  | [d] => { results := [.lit (.bool false)], args := [d] }
  | _ => none }
def FnRacePlaysWrongFalsely : Prop := fnRacePlaysRow.holds Try.pinned (OpenSpec.ofChange fnRacePlaysWrong)

/-- 'laws.FnExactIsChoice': WHATEVER THE INPUT: true; the input reads as it did. -/
def fnExactIsChoiceSpec : ChangeSpec := { name := "fnExactIsChoice", fn := fun _ => fun
  | [d1, d2] => { results := [.lit (.bool true)], args := [d1, d2] }
  | _ => none }
def fnExactIsChoiceRow : OpenClaim := { program := "ytopgccficjkenaa", sum := "bbb84220e85598425f6039d6a1859bb1943a606cc498f8381b1fe64459855543", func := "loop.example/g01269/laws.FnExactIsChoice", spec := "fnExactIsChoice", apart := false }
def FnExactIsChoiceSaid : Prop := fnExactIsChoiceRow.holds Try.pinned (OpenSpec.ofChange fnExactIsChoiceSpec)

/-- ITS FALSE NEIGHBOUR: 'it returns false'. Refute it at one input. -/
def fnExactIsChoiceWrong : ChangeSpec := { name := "fnExactIsChoice", fn := fun _ => fun
  | [d1, d2] => { results := [.lit (.bool false)], args := [d1, d2] }
  | _ => none }
def FnExactIsChoiceWrongFalsely : Prop := fnExactIsChoiceRow.holds Try.pinned (OpenSpec.ofChange fnExactIsChoiceWrong)

/-- 'laws.FnExactChoicesAt': WHATEVER THE INPUT: true; the input reads as it did. -/
def fnExactChoicesAtSpec : ChangeSpec := { name := "fnExactChoicesAt", fn := fun _ => fun
  | [d1, d2] => { results := [.lit (.bool true)], args := [d1, d2] }
  | _ => none }
def fnExactChoicesAtRow : OpenClaim := { program := "ytopgccficjkenaa", sum := "bbb84220e85598425f6039d6a1859bb1943a606cc498f8381b1fe64459855543", func := "loop.example/g01269/laws.FnExactChoicesAt", spec := "fnExactChoicesAt", apart := false }
def FnExactChoicesAtSaid : Prop := fnExactChoicesAtRow.holds Try.pinned (OpenSpec.ofChange fnExactChoicesAtSpec)

/-- ITS FALSE NEIGHBOUR: 'it returns false'. Refute it at one input. -/
def fnExactChoicesAtWrong : ChangeSpec := { name := "fnExactChoicesAt", fn := fun _ => fun
  | [d1, d2] => { results := [.lit (.bool false)], args := [d1, d2] }
  | _ => none }
def FnExactChoicesAtWrongFalsely : Prop := fnExactChoicesAtRow.holds Try.pinned (OpenSpec.ofChange fnExactChoicesAtWrong)

/-- 'laws.FnExactFairAnswers': WHATEVER THE INPUT: true; the input reads as it did. -/
def fnExactFairAnswersSpec : ChangeSpec := { name := "fnExactFairAnswers", fn := fun _ => fun
  | [d1, d2] => { results := [.lit (.bool true)], args := [d1, d2] }
  | _ => none }
def fnExactFairAnswersRow : OpenClaim := { program := "ytopgccficjkenaa", sum := "bbb84220e85598425f6039d6a1859bb1943a606cc498f8381b1fe64459855543", func := "loop.example/g01269/laws.FnExactFairAnswers", spec := "fnExactFairAnswers", apart := false }
def FnExactFairAnswersSaid : Prop := fnExactFairAnswersRow.holds Try.pinned (OpenSpec.ofChange fnExactFairAnswersSpec)

/-- ITS FALSE NEIGHBOUR: 'it returns false'. Refute it at one input. -/
def fnExactFairAnswersWrong : ChangeSpec := { name := "fnExactFairAnswers", fn := fun _ => fun
  | [d1, d2] => { results := [.lit (.bool false)], args := [d1, d2] }
  | _ => none }
def FnExactFairAnswersWrongFalsely : Prop := fnExactFairAnswersRow.holds Try.pinned (OpenSpec.ofChange fnExactFairAnswersWrong)

/-- 'laws.FnExactRaceWins': WHATEVER THE INPUT: true; the input reads as it did. -/
def fnExactRaceWinsSpec : ChangeSpec := { name := "fnExactRaceWins", fn := fun _ => fun
  | [d1, d2] => { results := [.lit (.bool true)], args := [d1, d2] }
  | _ => none }
def fnExactRaceWinsRow : OpenClaim := { program := "ytopgccficjkenaa", sum := "bbb84220e85598425f6039d6a1859bb1943a606cc498f8381b1fe64459855543", func := "loop.example/g01269/laws.FnExactRaceWins", spec := "fnExactRaceWins", inPlace := ["internal/abi.NoEscape"], recurses := true, apart := false }
def FnExactRaceWinsSaid : Prop := fnExactRaceWinsRow.holds Try.pinned (OpenSpec.ofChange fnExactRaceWinsSpec)

/-- ITS FALSE NEIGHBOUR: 'it returns false'. Refute it at one input. -/
def fnExactRaceWinsWrong : ChangeSpec := { name := "fnExactRaceWins", fn := fun _ => fun
  | [d1, d2] => { results := [.lit (.bool false)], args := [d1, d2] }
  | _ => none }
def FnExactRaceWinsWrongFalsely : Prop := fnExactRaceWinsRow.holds Try.pinned (OpenSpec.ofChange fnExactRaceWinsWrong)

/-- 'laws.FnExactWinningQuestions': WHATEVER THE INPUT: true; the input reads as it did. -/
def fnExactWinningQuestionsSpec : ChangeSpec := { name := "fnExactWinningQuestions", fn := fun _ => fun
  | [d1, d2] => { results := [.lit (.bool true)], args := [d1, d2] }
  | _ => none }
def fnExactWinningQuestionsRow : OpenClaim := { program := "ytopgccficjkenaa", sum := "bbb84220e85598425f6039d6a1859bb1943a606cc498f8381b1fe64459855543", func := "loop.example/g01269/laws.FnExactWinningQuestions", spec := "fnExactWinningQuestions", inPlace := ["internal/abi.NoEscape"], recurses := true, apart := false }
def FnExactWinningQuestionsSaid : Prop := fnExactWinningQuestionsRow.holds Try.pinned (OpenSpec.ofChange fnExactWinningQuestionsSpec)

/-- ITS FALSE NEIGHBOUR: 'it returns false'. Refute it at one input. -/
def fnExactWinningQuestionsWrong : ChangeSpec := { name := "fnExactWinningQuestions", fn := fun _ => fun
  | [d1, d2] => { results := [.lit (.bool false)], args := [d1, d2] }
  | _ => none }
def FnExactWinningQuestionsWrongFalsely : Prop := fnExactWinningQuestionsRow.holds Try.pinned (OpenSpec.ofChange fnExactWinningQuestionsWrong)

/-- 'laws.FnExactLosingAnswers': WHATEVER THE INPUT: true; the input reads as it did. -/
def fnExactLosingAnswersSpec : ChangeSpec := { name := "fnExactLosingAnswers", fn := fun _ => fun
  | [d1, d2, d3] => { results := [.lit (.bool true)], args := [d1, d2, d3] }
  | _ => none }
def fnExactLosingAnswersRow : OpenClaim := { program := "ytopgccficjkenaa", sum := "bbb84220e85598425f6039d6a1859bb1943a606cc498f8381b1fe64459855543", func := "loop.example/g01269/laws.FnExactLosingAnswers", spec := "fnExactLosingAnswers", inPlace := ["internal/abi.NoEscape"], recurses := true, apart := false }
def FnExactLosingAnswersSaid : Prop := fnExactLosingAnswersRow.holds Try.pinned (OpenSpec.ofChange fnExactLosingAnswersSpec)

/-- ITS FALSE NEIGHBOUR: 'it returns false'. Refute it at one input. -/
def fnExactLosingAnswersWrong : ChangeSpec := { name := "fnExactLosingAnswers", fn := fun _ => fun
  | [d1, d2, d3] => { results := [.lit (.bool false)], args := [d1, d2, d3] }
  | _ => none }
def FnExactLosingAnswersWrongFalsely : Prop := fnExactLosingAnswersRow.holds Try.pinned (OpenSpec.ofChange fnExactLosingAnswersWrong)

/-- 'laws.FnExactLongestRace': WHATEVER THE INPUT: true; the input reads as it did. -/
def fnExactLongestRaceSpec : ChangeSpec := { name := "fnExactLongestRace", fn := fun _ => fun
  | [d1, d2] => { results := [.lit (.bool true)], args := [d1, d2] }
  | _ => none }
def fnExactLongestRaceRow : OpenClaim := { program := "ytopgccficjkenaa", sum := "bbb84220e85598425f6039d6a1859bb1943a606cc498f8381b1fe64459855543", func := "loop.example/g01269/laws.FnExactLongestRace", spec := "fnExactLongestRace", inPlace := ["internal/abi.NoEscape"], recurses := true, apart := false }
def FnExactLongestRaceSaid : Prop := fnExactLongestRaceRow.holds Try.pinned (OpenSpec.ofChange fnExactLongestRaceSpec)

/-- ITS FALSE NEIGHBOUR: 'it returns false'. Refute it at one input. -/
def fnExactLongestRaceWrong : ChangeSpec := { name := "fnExactLongestRace", fn := fun _ => fun
  | [d1, d2] => { results := [.lit (.bool false)], args := [d1, d2] }
  | _ => none }
def FnExactLongestRaceWrongFalsely : Prop := fnExactLongestRaceRow.holds Try.pinned (OpenSpec.ofChange fnExactLongestRaceWrong)

/-- 'laws.FnExactShortestRace': WHATEVER THE INPUT: true; the input reads as it did. -/
def fnExactShortestRaceSpec : ChangeSpec := { name := "fnExactShortestRace", fn := fun _ => fun
  | [d1, d2] => { results := [.lit (.bool true)], args := [d1, d2] }
  | _ => none }
def fnExactShortestRaceRow : OpenClaim := { program := "ytopgccficjkenaa", sum := "bbb84220e85598425f6039d6a1859bb1943a606cc498f8381b1fe64459855543", func := "loop.example/g01269/laws.FnExactShortestRace", spec := "fnExactShortestRace", inPlace := ["internal/abi.NoEscape"], recurses := true, apart := false }
def FnExactShortestRaceSaid : Prop := fnExactShortestRaceRow.holds Try.pinned (OpenSpec.ofChange fnExactShortestRaceSpec)

/-- ITS FALSE NEIGHBOUR: 'it returns false'. Refute it at one input. -/
def fnExactShortestRaceWrong : ChangeSpec := { name := "fnExactShortestRace", fn := fun _ => fun
  | [d1, d2] => { results := [.lit (.bool false)], args := [d1, d2] }
  | _ => none }
def FnExactShortestRaceWrongFalsely : Prop := fnExactShortestRaceRow.holds Try.pinned (OpenSpec.ofChange fnExactShortestRaceWrong)

/-- 'laws.FnExactCountRaces': WHATEVER THE INPUT: true; the input reads as it did. -/
def fnExactCountRacesSpec : ChangeSpec := { name := "fnExactCountRaces", fn := fun _ => fun
  | [d1, d2] => { results := [.lit (.bool true)], args := [d1, d2] }
  | _ => none }
def fnExactCountRacesRow : OpenClaim := { program := "ytopgccficjkenaa", sum := "bbb84220e85598425f6039d6a1859bb1943a606cc498f8381b1fe64459855543", func := "loop.example/g01269/laws.FnExactCountRaces", spec := "fnExactCountRaces", inPlace := ["internal/abi.NoEscape"], recurses := true, apart := false }
def FnExactCountRacesSaid : Prop := fnExactCountRacesRow.holds Try.pinned (OpenSpec.ofChange fnExactCountRacesSpec)

/-- ITS FALSE NEIGHBOUR: 'it returns false'. Refute it at one input. -/
def fnExactCountRacesWrong : ChangeSpec := { name := "fnExactCountRaces", fn := fun _ => fun
  | [d1, d2] => { results := [.lit (.bool false)], args := [d1, d2] }
  | _ => none }
def FnExactCountRacesWrongFalsely : Prop := fnExactCountRacesRow.holds Try.pinned (OpenSpec.ofChange fnExactCountRacesWrong)

/-- 'laws.FnExactPlayRace': WHATEVER THE INPUT: true; the input reads as it did. -/
def fnExactPlayRaceSpec : ChangeSpec := { name := "fnExactPlayRace", fn := fun _ => fun
  | [d1, d2] => { results := [.lit (.bool true)], args := [d1, d2] }
  | _ => none }
def fnExactPlayRaceRow : OpenClaim := { program := "ytopgccficjkenaa", sum := "bbb84220e85598425f6039d6a1859bb1943a606cc498f8381b1fe64459855543", func := "loop.example/g01269/laws.FnExactPlayRace", spec := "fnExactPlayRace", inPlace := ["internal/abi.NoEscape"], unfollowed := true, recurses := true, apart := false }
def FnExactPlayRaceSaid : Prop := fnExactPlayRaceRow.holds Try.pinned (OpenSpec.ofChange fnExactPlayRaceSpec)

/-- ITS FALSE NEIGHBOUR: 'it returns false'. Refute it at one input. -/
def fnExactPlayRaceWrong : ChangeSpec := { name := "fnExactPlayRace", fn := fun _ => fun
  | [d1, d2] => { results := [.lit (.bool false)], args := [d1, d2] }
  | _ => none }
def FnExactPlayRaceWrongFalsely : Prop := fnExactPlayRaceRow.holds Try.pinned (OpenSpec.ofChange fnExactPlayRaceWrong)

/- THE SECOND FORM. 'bulk': how many values and letters a reading holds, each counted each time it is reached (what is shared counts as often as it is met; a slice's spare places count too). A statement '..UptoSaid' is the law's where the arguments, and the package variables that the reading takes, are together of bulk at most 1048576: NARROWER than '..Said'. Prove '..Said' where nothing that the law and all that it calls make is longer than what came in: it says more and counts as full. Else prove '..UptoSaid'. A law counts once. -/
mutual
def uptoBulk {H : Type} : DataW H → Nat
  | .lit (.string bytes) => bytes.length + 1
  | .lit _ => 1
  | .nil => 1
  | .ptr d => uptoBulk d + 1
  | .slice elems spare => uptoBulkAll elems + uptoBulkAll spare + 1
  | .agg parts => uptoBulkAll parts + 1
  | .iface _ d => uptoBulk d + 1
  | .map entries => uptoBulkEntries entries + 1
  | .held _ => 1
def uptoBulkAll {H : Type} : List (DataW H) → Nat
  | [] => 0
  | d :: r => uptoBulk d + uptoBulkAll r
def uptoBulkEntries {H : Type} : List (Lit × DataW H) → Nat
  | [] => 0
  | x :: r => uptoBulkEntry x + uptoBulkEntries r
def uptoBulkEntry {H : Type} : Lit × DataW H → Nat
  | (.string bytes, d) => bytes.length + uptoBulk d + 1
  | (_, d) => uptoBulk d + 1
 end
def uptoSmall : (H : Type) → List (DataW H) → Bool := fun _ ds => decide (uptoBulkAll ds ≤ 1048576)
def OpenSpec.upto (s : _root_.Go.ChangeSpec) : _root_.Go.OpenSpec := { _root_.Go.OpenSpec.ofChange s with cond := some uptoSmall }

/-- 'laws.FnRaces', WHERE WHAT IT READS IS OF BULK AT MOST 1048576: true; the input reads as it did. -/
def fnRacesUptoRow : OpenClaim := { program := "ytopgccficjkenaa", sum := "bbb84220e85598425f6039d6a1859bb1943a606cc498f8381b1fe64459855543", func := "loop.example/g01269/laws.FnRaces", spec := "fnRaces", inPlace := ["internal/abi.NoEscape"], recurses := true, apart := false, narrowed := true }
def FnRacesUptoSaid : Prop := fnRacesUptoRow.holds Try.pinned (OpenSpec.upto fnRacesSpec)

/-- 'laws.FnRacePlays', WHERE WHAT IT READS IS OF BULK AT MOST 1048576: true; the input reads as it did. -/
def fnRacePlaysUptoRow : OpenClaim := { program := "ytopgccficjkenaa", sum := "bbb84220e85598425f6039d6a1859bb1943a606cc498f8381b1fe64459855543", func := "loop.example/g01269/laws.FnRacePlays", spec := "fnRacePlays", inPlace := ["internal/abi.NoEscape"], unfollowed := true, recurses := true, apart := false, narrowed := true }
def FnRacePlaysUptoSaid : Prop := fnRacePlaysUptoRow.holds Try.pinned (OpenSpec.upto fnRacePlaysSpec)

/-- 'laws.FnExactIsChoice', WHERE WHAT IT READS IS OF BULK AT MOST 1048576: true; the input reads as it did. -/
def fnExactIsChoiceUptoRow : OpenClaim := { program := "ytopgccficjkenaa", sum := "bbb84220e85598425f6039d6a1859bb1943a606cc498f8381b1fe64459855543", func := "loop.example/g01269/laws.FnExactIsChoice", spec := "fnExactIsChoice", apart := false, narrowed := true }
def FnExactIsChoiceUptoSaid : Prop := fnExactIsChoiceUptoRow.holds Try.pinned (OpenSpec.upto fnExactIsChoiceSpec)

/-- 'laws.FnExactChoicesAt', WHERE WHAT IT READS IS OF BULK AT MOST 1048576: true; the input reads as it did. -/
def fnExactChoicesAtUptoRow : OpenClaim := { program := "ytopgccficjkenaa", sum := "bbb84220e85598425f6039d6a1859bb1943a606cc498f8381b1fe64459855543", func := "loop.example/g01269/laws.FnExactChoicesAt", spec := "fnExactChoicesAt", apart := false, narrowed := true }
def FnExactChoicesAtUptoSaid : Prop := fnExactChoicesAtUptoRow.holds Try.pinned (OpenSpec.upto fnExactChoicesAtSpec)

/-- 'laws.FnExactFairAnswers', WHERE WHAT IT READS IS OF BULK AT MOST 1048576: true; the input reads as it did. -/
def fnExactFairAnswersUptoRow : OpenClaim := { program := "ytopgccficjkenaa", sum := "bbb84220e85598425f6039d6a1859bb1943a606cc498f8381b1fe64459855543", func := "loop.example/g01269/laws.FnExactFairAnswers", spec := "fnExactFairAnswers", apart := false, narrowed := true }
def FnExactFairAnswersUptoSaid : Prop := fnExactFairAnswersUptoRow.holds Try.pinned (OpenSpec.upto fnExactFairAnswersSpec)

/-- 'laws.FnExactRaceWins', WHERE WHAT IT READS IS OF BULK AT MOST 1048576: true; the input reads as it did. -/
def fnExactRaceWinsUptoRow : OpenClaim := { program := "ytopgccficjkenaa", sum := "bbb84220e85598425f6039d6a1859bb1943a606cc498f8381b1fe64459855543", func := "loop.example/g01269/laws.FnExactRaceWins", spec := "fnExactRaceWins", inPlace := ["internal/abi.NoEscape"], recurses := true, apart := false, narrowed := true }
def FnExactRaceWinsUptoSaid : Prop := fnExactRaceWinsUptoRow.holds Try.pinned (OpenSpec.upto fnExactRaceWinsSpec)

/-- 'laws.FnExactWinningQuestions', WHERE WHAT IT READS IS OF BULK AT MOST 1048576: true; the input reads as it did. -/
def fnExactWinningQuestionsUptoRow : OpenClaim := { program := "ytopgccficjkenaa", sum := "bbb84220e85598425f6039d6a1859bb1943a606cc498f8381b1fe64459855543", func := "loop.example/g01269/laws.FnExactWinningQuestions", spec := "fnExactWinningQuestions", inPlace := ["internal/abi.NoEscape"], recurses := true, apart := false, narrowed := true }
def FnExactWinningQuestionsUptoSaid : Prop := fnExactWinningQuestionsUptoRow.holds Try.pinned (OpenSpec.upto fnExactWinningQuestionsSpec)

/-- 'laws.FnExactLosingAnswers', WHERE WHAT IT READS IS OF BULK AT MOST 1048576: true; the input reads as it did. -/
def fnExactLosingAnswersUptoRow : OpenClaim := { program := "ytopgccficjkenaa", sum := "bbb84220e85598425f6039d6a1859bb1943a606cc498f8381b1fe64459855543", func := "loop.example/g01269/laws.FnExactLosingAnswers", spec := "fnExactLosingAnswers", inPlace := ["internal/abi.NoEscape"], recurses := true, apart := false, narrowed := true }
def FnExactLosingAnswersUptoSaid : Prop := fnExactLosingAnswersUptoRow.holds Try.pinned (OpenSpec.upto fnExactLosingAnswersSpec)

/-- 'laws.FnExactLongestRace', WHERE WHAT IT READS IS OF BULK AT MOST 1048576: true; the input reads as it did. -/
def fnExactLongestRaceUptoRow : OpenClaim := { program := "ytopgccficjkenaa", sum := "bbb84220e85598425f6039d6a1859bb1943a606cc498f8381b1fe64459855543", func := "loop.example/g01269/laws.FnExactLongestRace", spec := "fnExactLongestRace", inPlace := ["internal/abi.NoEscape"], recurses := true, apart := false, narrowed := true }
def FnExactLongestRaceUptoSaid : Prop := fnExactLongestRaceUptoRow.holds Try.pinned (OpenSpec.upto fnExactLongestRaceSpec)

/-- 'laws.FnExactShortestRace', WHERE WHAT IT READS IS OF BULK AT MOST 1048576: true; the input reads as it did. -/
def fnExactShortestRaceUptoRow : OpenClaim := { program := "ytopgccficjkenaa", sum := "bbb84220e85598425f6039d6a1859bb1943a606cc498f8381b1fe64459855543", func := "loop.example/g01269/laws.FnExactShortestRace", spec := "fnExactShortestRace", inPlace := ["internal/abi.NoEscape"], recurses := true, apart := false, narrowed := true }
def FnExactShortestRaceUptoSaid : Prop := fnExactShortestRaceUptoRow.holds Try.pinned (OpenSpec.upto fnExactShortestRaceSpec)

/-- 'laws.FnExactCountRaces', WHERE WHAT IT READS IS OF BULK AT MOST 1048576: true; the input reads as it did. -/
def fnExactCountRacesUptoRow : OpenClaim := { program := "ytopgccficjkenaa", sum := "bbb84220e85598425f6039d6a1859bb1943a606cc498f8381b1fe64459855543", func := "loop.example/g01269/laws.FnExactCountRaces", spec := "fnExactCountRaces", inPlace := ["internal/abi.NoEscape"], recurses := true, apart := false, narrowed := true }
def FnExactCountRacesUptoSaid : Prop := fnExactCountRacesUptoRow.holds Try.pinned (OpenSpec.upto fnExactCountRacesSpec)

/-- 'laws.FnExactPlayRace', WHERE WHAT IT READS IS OF BULK AT MOST 1048576: true; the input reads as it did. -/
def fnExactPlayRaceUptoRow : OpenClaim := { program := "ytopgccficjkenaa", sum := "bbb84220e85598425f6039d6a1859bb1943a606cc498f8381b1fe64459855543", func := "loop.example/g01269/laws.FnExactPlayRace", spec := "fnExactPlayRace", inPlace := ["internal/abi.NoEscape"], unfollowed := true, recurses := true, apart := false, narrowed := true }
def FnExactPlayRaceUptoSaid : Prop := fnExactPlayRaceUptoRow.holds Try.pinned (OpenSpec.upto fnExactPlayRaceSpec)

end Rows
end Go.Proofs.Ytopgccficjkenaa
