/-
  No cell of these rows narrows 'for every input' (looked for: loops, veiled, ifaces, maps, wideKeys, modest, calm, conditions, laid).
  DERIVED. THE GIVEN ROWS OF THIS SEAT. 12 by the template 'for every input the law returns true; each argument reads behind the call as it read before'; 0 by the template 'total and deterministic' (their statements: YtdolonmjhlhkeaaTotals.lean).
  GIVEN WITH THE SEED: the statements are not yours to turn. If you find one false, say at which input.
  Laid BY PROGRAM, IN A SANDBOX (cutbox-rows.mjs): the forced cells as the released guide's own fill.sh prints them over the translation a71ee39d232e3cfe… (all of the seat's roots in one cut). By AI agents, Wed Nov 11 2026. No macro, syntax, notation, axiom, sorry.
-/
import Derived.Test.YtdolonmjhlhkeaaChecked
import GoSem.Claim
import GoSem.ClaimJoined
import GoSem.ClaimMapViews
import Derived.JoinedTies
import Derived.KernelRfl
namespace Go.Proofs.Ytdolonmjhlhkeaa
/- THE CELL 'sum', in the pinned program and in every row, IS THE sha256 OF THE DUMP (.gsa) THAT YtdolonmjhlhkeaaProg.lean LOADS. Nothing in Lean hashes anything: it is a label: what it is worth is what the hold of that sum in a sandbox is worth. -/
noncomputable def Try.pinned : Pinned := { name := "ytdolonmjhlhkeaa", sum := "a71ee39d232e3cfe82dd4527ed1371b9e7dcb85324ca833edf766489a24728e4", checked := Try.checked }
namespace Rows
def none {H : Type} : Left H := { results := [], args := [] }

/-- 'laws.FnExactWaysOf': WHATEVER THE INPUT: true; the input reads as it did. -/
def fnExactWaysOfSpec : ChangeSpec := { name := "fnExactWaysOf", fn := fun _ => fun
  | [d1, d2] => { results := [.lit (.bool true)], args := [d1, d2] }
  | _ => none }
def fnExactWaysOfRow : OpenClaim := { program := "ytdolonmjhlhkeaa", sum := "a71ee39d232e3cfe82dd4527ed1371b9e7dcb85324ca833edf766489a24728e4", func := "loop.example/g01269/laws.FnExactWaysOf", spec := "fnExactWaysOf", apart := false }
def FnExactWaysOfSaid : Prop := fnExactWaysOfRow.holds Try.pinned (OpenSpec.ofChange fnExactWaysOfSpec)

/-- ITS FALSE NEIGHBOUR: 'it returns false'. Refute it at one input. -/
def fnExactWaysOfWrong : ChangeSpec := { name := "fnExactWaysOf", fn := fun _ => fun
  | [d1, d2] => { results := [.lit (.bool false)], args := [d1, d2] }
  | _ => none }
def FnExactWaysOfWrongFalsely : Prop := fnExactWaysOfRow.holds Try.pinned (OpenSpec.ofChange fnExactWaysOfWrong)

/-- 'laws.FnExactBallOf': WHATEVER THE INPUT: true; the input reads as it did. -/
def fnExactBallOfSpec : ChangeSpec := { name := "fnExactBallOf", fn := fun _ => fun
  | [d1, d2] => { results := [.lit (.bool true)], args := [d1, d2] }
  | _ => none }
def fnExactBallOfRow : OpenClaim := { program := "ytdolonmjhlhkeaa", sum := "a71ee39d232e3cfe82dd4527ed1371b9e7dcb85324ca833edf766489a24728e4", func := "loop.example/g01269/laws.FnExactBallOf", spec := "fnExactBallOf", apart := false }
def FnExactBallOfSaid : Prop := fnExactBallOfRow.holds Try.pinned (OpenSpec.ofChange fnExactBallOfSpec)

/-- ITS FALSE NEIGHBOUR: 'it returns false'. Refute it at one input. -/
def fnExactBallOfWrong : ChangeSpec := { name := "fnExactBallOf", fn := fun _ => fun
  | [d1, d2] => { results := [.lit (.bool false)], args := [d1, d2] }
  | _ => none }
def FnExactBallOfWrongFalsely : Prop := fnExactBallOfRow.holds Try.pinned (OpenSpec.ofChange fnExactBallOfWrong)

/-- 'laws.FnExactNumberWeight': WHATEVER THE INPUT: true; the input reads as it did. -/
def fnExactNumberWeightSpec : ChangeSpec := { name := "fnExactNumberWeight", fn := fun _ => fun
  | [d1, d2, d3] => { results := [.lit (.bool true)], args := [d1, d2, d3] }
  | _ => none }
def fnExactNumberWeightRow : OpenClaim := { program := "ytdolonmjhlhkeaa", sum := "a71ee39d232e3cfe82dd4527ed1371b9e7dcb85324ca833edf766489a24728e4", func := "loop.example/g01269/laws.FnExactNumberWeight", spec := "fnExactNumberWeight", apart := false }
def FnExactNumberWeightSaid : Prop := fnExactNumberWeightRow.holds Try.pinned (OpenSpec.ofChange fnExactNumberWeightSpec)

/-- ITS FALSE NEIGHBOUR: 'it returns false'. Refute it at one input. -/
def fnExactNumberWeightWrong : ChangeSpec := { name := "fnExactNumberWeight", fn := fun _ => fun
  | [d1, d2, d3] => { results := [.lit (.bool false)], args := [d1, d2, d3] }
  | _ => none }
def FnExactNumberWeightWrongFalsely : Prop := fnExactNumberWeightRow.holds Try.pinned (OpenSpec.ofChange fnExactNumberWeightWrong)

/-- 'laws.FnExactStateWeight': WHATEVER THE INPUT: true; the input reads as it did. -/
def fnExactStateWeightSpec : ChangeSpec := { name := "fnExactStateWeight", fn := fun _ => fun
  | [d1, d2] => { results := [.lit (.bool true)], args := [d1, d2] }
  | _ => none }
def fnExactStateWeightRow : OpenClaim := { program := "ytdolonmjhlhkeaa", sum := "a71ee39d232e3cfe82dd4527ed1371b9e7dcb85324ca833edf766489a24728e4", func := "loop.example/g01269/laws.FnExactStateWeight", spec := "fnExactStateWeight", apart := false }
def FnExactStateWeightSaid : Prop := fnExactStateWeightRow.holds Try.pinned (OpenSpec.ofChange fnExactStateWeightSpec)

/-- ITS FALSE NEIGHBOUR: 'it returns false'. Refute it at one input. -/
def fnExactStateWeightWrong : ChangeSpec := { name := "fnExactStateWeight", fn := fun _ => fun
  | [d1, d2] => { results := [.lit (.bool false)], args := [d1, d2] }
  | _ => none }
def FnExactStateWeightWrongFalsely : Prop := fnExactStateWeightRow.holds Try.pinned (OpenSpec.ofChange fnExactStateWeightWrong)

/-- 'laws.FnExactAnswerWeights': WHATEVER THE INPUT: true; the input reads as it did. -/
def fnExactAnswerWeightsSpec : ChangeSpec := { name := "fnExactAnswerWeights", fn := fun _ => fun
  | [d1, d2, d3] => { results := [.lit (.bool true)], args := [d1, d2, d3] }
  | _ => none }
def fnExactAnswerWeightsRow : OpenClaim := { program := "ytdolonmjhlhkeaa", sum := "a71ee39d232e3cfe82dd4527ed1371b9e7dcb85324ca833edf766489a24728e4", func := "loop.example/g01269/laws.FnExactAnswerWeights", spec := "fnExactAnswerWeights", unfollowed := true, recurses := true, apart := false }
def FnExactAnswerWeightsSaid : Prop := fnExactAnswerWeightsRow.holds Try.pinned (OpenSpec.ofChange fnExactAnswerWeightsSpec)

/-- ITS FALSE NEIGHBOUR: 'it returns false'. Refute it at one input. -/
def fnExactAnswerWeightsWrong : ChangeSpec := { name := "fnExactAnswerWeights", fn := fun _ => fun
  | [d1, d2, d3] => { results := [.lit (.bool false)], args := [d1, d2, d3] }
  | _ => none }
def FnExactAnswerWeightsWrongFalsely : Prop := fnExactAnswerWeightsRow.holds Try.pinned (OpenSpec.ofChange fnExactAnswerWeightsWrong)

/-- 'laws.FnExactIsBalanced': WHATEVER THE INPUT: true; the input reads as it did. -/
def fnExactIsBalancedSpec : ChangeSpec := { name := "fnExactIsBalanced", fn := fun _ => fun
  | [d1, d2, d3] => { results := [.lit (.bool true)], args := [d1, d2, d3] }
  | _ => none }
def fnExactIsBalancedRow : OpenClaim := { program := "ytdolonmjhlhkeaa", sum := "a71ee39d232e3cfe82dd4527ed1371b9e7dcb85324ca833edf766489a24728e4", func := "loop.example/g01269/laws.FnExactIsBalanced", spec := "fnExactIsBalanced", unfollowed := true, recurses := true, apart := false }
def FnExactIsBalancedSaid : Prop := fnExactIsBalancedRow.holds Try.pinned (OpenSpec.ofChange fnExactIsBalancedSpec)

/-- ITS FALSE NEIGHBOUR: 'it returns false'. Refute it at one input. -/
def fnExactIsBalancedWrong : ChangeSpec := { name := "fnExactIsBalanced", fn := fun _ => fun
  | [d1, d2, d3] => { results := [.lit (.bool false)], args := [d1, d2, d3] }
  | _ => none }
def FnExactIsBalancedWrongFalsely : Prop := fnExactIsBalancedRow.holds Try.pinned (OpenSpec.ofChange fnExactIsBalancedWrong)

/-- 'laws.FnExactCountBalanced': WHATEVER THE INPUT: true; the input reads as it did. -/
def fnExactCountBalancedSpec : ChangeSpec := { name := "fnExactCountBalanced", fn := fun _ => fun
  | [d1, d2] => { results := [.lit (.bool true)], args := [d1, d2] }
  | _ => none }
def fnExactCountBalancedRow : OpenClaim := { program := "ytdolonmjhlhkeaa", sum := "a71ee39d232e3cfe82dd4527ed1371b9e7dcb85324ca833edf766489a24728e4", func := "loop.example/g01269/laws.FnExactCountBalanced", spec := "fnExactCountBalanced", unfollowed := true, recurses := true, apart := false }
def FnExactCountBalancedSaid : Prop := fnExactCountBalancedRow.holds Try.pinned (OpenSpec.ofChange fnExactCountBalancedSpec)

/-- ITS FALSE NEIGHBOUR: 'it returns false'. Refute it at one input. -/
def fnExactCountBalancedWrong : ChangeSpec := { name := "fnExactCountBalanced", fn := fun _ => fun
  | [d1, d2] => { results := [.lit (.bool false)], args := [d1, d2] }
  | _ => none }
def FnExactCountBalancedWrongFalsely : Prop := fnExactCountBalancedRow.holds Try.pinned (OpenSpec.ofChange fnExactCountBalancedWrong)

/-- 'laws.FnExactEvenQuestion': WHATEVER THE INPUT: true; the input reads as it did. -/
def fnExactEvenQuestionSpec : ChangeSpec := { name := "fnExactEvenQuestion", fn := fun _ => fun
  | [d1, d2] => { results := [.lit (.bool true)], args := [d1, d2] }
  | _ => none }
def fnExactEvenQuestionRow : OpenClaim := { program := "ytdolonmjhlhkeaa", sum := "a71ee39d232e3cfe82dd4527ed1371b9e7dcb85324ca833edf766489a24728e4", func := "loop.example/g01269/laws.FnExactEvenQuestion", spec := "fnExactEvenQuestion", unfollowed := true, recurses := true, apart := false }
def FnExactEvenQuestionSaid : Prop := fnExactEvenQuestionRow.holds Try.pinned (OpenSpec.ofChange fnExactEvenQuestionSpec)

/-- ITS FALSE NEIGHBOUR: 'it returns false'. Refute it at one input. -/
def fnExactEvenQuestionWrong : ChangeSpec := { name := "fnExactEvenQuestion", fn := fun _ => fun
  | [d1, d2] => { results := [.lit (.bool false)], args := [d1, d2] }
  | _ => none }
def FnExactEvenQuestionWrongFalsely : Prop := fnExactEvenQuestionRow.holds Try.pinned (OpenSpec.ofChange fnExactEvenQuestionWrong)

/-- 'laws.FnExactBoundOf': WHATEVER THE INPUT: true; the input reads as it did. -/
def fnExactBoundOfSpec : ChangeSpec := { name := "fnExactBoundOf", fn := fun _ => fun
  | [d] => { results := [.lit (.bool true)], args := [d] }
  | _ => none }
def fnExactBoundOfRow : OpenClaim := { program := "ytdolonmjhlhkeaa", sum := "a71ee39d232e3cfe82dd4527ed1371b9e7dcb85324ca833edf766489a24728e4", func := "loop.example/g01269/laws.FnExactBoundOf", spec := "fnExactBoundOf", apart := false }
def FnExactBoundOfSaid : Prop := fnExactBoundOfRow.holds Try.pinned (OpenSpec.ofChange fnExactBoundOfSpec)

/-- ITS FALSE NEIGHBOUR: 'it returns false'. Refute it at one input. -/
def fnExactBoundOfWrong : ChangeSpec := { name := "fnExactBoundOf", fn := fun _ => fun
  | [d] => { results := [.lit (.bool false)], args := [d] }
  | _ => none }
def FnExactBoundOfWrongFalsely : Prop := fnExactBoundOfRow.holds Try.pinned (OpenSpec.ofChange fnExactBoundOfWrong)

/-- 'laws.FnExactRoomOf': WHATEVER THE INPUT: true; the input reads as it did. -/
def fnExactRoomOfSpec : ChangeSpec := { name := "fnExactRoomOf", fn := fun _ => fun
  | [d1, d2] => { results := [.lit (.bool true)], args := [d1, d2] }
  | _ => none }
def fnExactRoomOfRow : OpenClaim := { program := "ytdolonmjhlhkeaa", sum := "a71ee39d232e3cfe82dd4527ed1371b9e7dcb85324ca833edf766489a24728e4", func := "loop.example/g01269/laws.FnExactRoomOf", spec := "fnExactRoomOf", apart := false }
def FnExactRoomOfSaid : Prop := fnExactRoomOfRow.holds Try.pinned (OpenSpec.ofChange fnExactRoomOfSpec)

/-- ITS FALSE NEIGHBOUR: 'it returns false'. Refute it at one input. -/
def fnExactRoomOfWrong : ChangeSpec := { name := "fnExactRoomOf", fn := fun _ => fun
  | [d1, d2] => { results := [.lit (.bool false)], args := [d1, d2] }
  | _ => none }
def FnExactRoomOfWrongFalsely : Prop := fnExactRoomOfRow.holds Try.pinned (OpenSpec.ofChange fnExactRoomOfWrong)

/-- 'laws.FnExactMostByWeight': WHATEVER THE INPUT: true; the input reads as it did. -/
def fnExactMostByWeightSpec : ChangeSpec := { name := "fnExactMostByWeight", fn := fun _ => fun
  | [d1, d2] => { results := [.lit (.bool true)], args := [d1, d2] }
  | _ => none }
def fnExactMostByWeightRow : OpenClaim := { program := "ytdolonmjhlhkeaa", sum := "a71ee39d232e3cfe82dd4527ed1371b9e7dcb85324ca833edf766489a24728e4", func := "loop.example/g01269/laws.FnExactMostByWeight", spec := "fnExactMostByWeight", apart := false }
def FnExactMostByWeightSaid : Prop := fnExactMostByWeightRow.holds Try.pinned (OpenSpec.ofChange fnExactMostByWeightSpec)

/-- ITS FALSE NEIGHBOUR: 'it returns false'. Refute it at one input. -/
def fnExactMostByWeightWrong : ChangeSpec := { name := "fnExactMostByWeight", fn := fun _ => fun
  | [d1, d2] => { results := [.lit (.bool false)], args := [d1, d2] }
  | _ => none }
def FnExactMostByWeightWrongFalsely : Prop := fnExactMostByWeightRow.holds Try.pinned (OpenSpec.ofChange fnExactMostByWeightWrong)

/-- 'laws.FnExactWeightTable': WHATEVER THE INPUT: true; the input reads as it did. -/
def fnExactWeightTableSpec : ChangeSpec := { name := "fnExactWeightTable", fn := fun _ => fun
  | [d1, d2] => { results := [.lit (.bool true)], args := [d1, d2] }
  | _ => none }
def fnExactWeightTableRow : OpenClaim := { program := "ytdolonmjhlhkeaa", sum := "a71ee39d232e3cfe82dd4527ed1371b9e7dcb85324ca833edf766489a24728e4", func := "loop.example/g01269/laws.FnExactWeightTable", spec := "fnExactWeightTable", apart := false }
def FnExactWeightTableSaid : Prop := fnExactWeightTableRow.holds Try.pinned (OpenSpec.ofChange fnExactWeightTableSpec)

/-- ITS FALSE NEIGHBOUR: 'it returns false'. Refute it at one input. -/
def fnExactWeightTableWrong : ChangeSpec := { name := "fnExactWeightTable", fn := fun _ => fun
  | [d1, d2] => { results := [.lit (.bool false)], args := [d1, d2] }
  | _ => none }
def FnExactWeightTableWrongFalsely : Prop := fnExactWeightTableRow.holds Try.pinned (OpenSpec.ofChange fnExactWeightTableWrong)

/- THE SECOND FORM. 'bulk': how many values and letters a reading holds, each counted each time it is reached (what is shared counts as often as it is met; a slice's spare places count too). A statement '..UptoSaid' is the law's where the arguments, and the package variables that the reading takes, are together of bulk at most 1048576: NARROWER than '..Said'. Prove '..Said' where nothing that the law and all that it calls make is longer than what came in: it says more and counts as full. Else prove '..UptoSaid'. A law counts once. -/
mutual
def uptoBulk {H : Type} : DataW H → Nat
  | .lit (.string bytes) => bytes.length + 1
  | .lit _ => 1
  | .nil => 1
  | .ptr d => uptoBulk d + 1
  | .slice elems spare => uptoBulkAll elems + uptoBulkAll spare + 1
  | .agg parts => uptoBulkAll parts + 1
  | .iface _ d => uptoBulk d + 1
  | .map entries => uptoBulkEntries entries + 1
  | .held _ => 1
def uptoBulkAll {H : Type} : List (DataW H) → Nat
  | [] => 0
  | d :: r => uptoBulk d + uptoBulkAll r
def uptoBulkEntries {H : Type} : List (Lit × DataW H) → Nat
  | [] => 0
  | x :: r => uptoBulkEntry x + uptoBulkEntries r
def uptoBulkEntry {H : Type} : Lit × DataW H → Nat
  | (.string bytes, d) => bytes.length + uptoBulk d + 1
  | (_, d) => uptoBulk d + 1
 end
def uptoSmall : (H : Type) → List (DataW H) → Bool := fun _ ds => decide (uptoBulkAll ds ≤ 1048576)
def OpenSpec.upto (s : _root_.Go.ChangeSpec) : _root_.Go.OpenSpec := { _root_.Go.OpenSpec.ofChange s with cond := some uptoSmall }

/-- 'laws.FnExactWaysOf', WHERE WHAT IT READS IS OF BULK AT MOST 1048576: true; the input reads as it did. -/
def fnExactWaysOfUptoRow : OpenClaim := { program := "ytdolonmjhlhkeaa", sum := "a71ee39d232e3cfe82dd4527ed1371b9e7dcb85324ca833edf766489a24728e4", func := "loop.example/g01269/laws.FnExactWaysOf", spec := "fnExactWaysOf", apart := false, narrowed := true }
def FnExactWaysOfUptoSaid : Prop := fnExactWaysOfUptoRow.holds Try.pinned (OpenSpec.upto fnExactWaysOfSpec)

/-- 'laws.FnExactBallOf', WHERE WHAT IT READS IS OF BULK AT MOST 1048576: true; the input reads as it did. -/
def fnExactBallOfUptoRow : OpenClaim := { program := "ytdolonmjhlhkeaa", sum := "a71ee39d232e3cfe82dd4527ed1371b9e7dcb85324ca833edf766489a24728e4", func := "loop.example/g01269/laws.FnExactBallOf", spec := "fnExactBallOf", apart := false, narrowed := true }
def FnExactBallOfUptoSaid : Prop := fnExactBallOfUptoRow.holds Try.pinned (OpenSpec.upto fnExactBallOfSpec)

/-- 'laws.FnExactNumberWeight', WHERE WHAT IT READS IS OF BULK AT MOST 1048576: true; the input reads as it did. -/
def fnExactNumberWeightUptoRow : OpenClaim := { program := "ytdolonmjhlhkeaa", sum := "a71ee39d232e3cfe82dd4527ed1371b9e7dcb85324ca833edf766489a24728e4", func := "loop.example/g01269/laws.FnExactNumberWeight", spec := "fnExactNumberWeight", apart := false, narrowed := true }
def FnExactNumberWeightUptoSaid : Prop := fnExactNumberWeightUptoRow.holds Try.pinned (OpenSpec.upto fnExactNumberWeightSpec)

/-- 'laws.FnExactStateWeight', WHERE WHAT IT READS IS OF BULK AT MOST 1048576: true; the input reads as it did. -/
def fnExactStateWeightUptoRow : OpenClaim := { program := "ytdolonmjhlhkeaa", sum := "a71ee39d232e3cfe82dd4527ed1371b9e7dcb85324ca833edf766489a24728e4", func := "loop.example/g01269/laws.FnExactStateWeight", spec := "fnExactStateWeight", apart := false, narrowed := true }
def FnExactStateWeightUptoSaid : Prop := fnExactStateWeightUptoRow.holds Try.pinned (OpenSpec.upto fnExactStateWeightSpec)

/-- 'laws.FnExactAnswerWeights', WHERE WHAT IT READS IS OF BULK AT MOST 1048576: true; the input reads as it did. -/
def fnExactAnswerWeightsUptoRow : OpenClaim := { program := "ytdolonmjhlhkeaa", sum := "a71ee39d232e3cfe82dd4527ed1371b9e7dcb85324ca833edf766489a24728e4", func := "loop.example/g01269/laws.FnExactAnswerWeights", spec := "fnExactAnswerWeights", unfollowed := true, recurses := true, apart := false, narrowed := true }
def FnExactAnswerWeightsUptoSaid : Prop := fnExactAnswerWeightsUptoRow.holds Try.pinned (OpenSpec.upto fnExactAnswerWeightsSpec)

/-- 'laws.FnExactIsBalanced', WHERE WHAT IT READS IS OF BULK AT MOST 1048576: true; the input reads as it did. -/
def fnExactIsBalancedUptoRow : OpenClaim := { program := "ytdolonmjhlhkeaa", sum := "a71ee39d232e3cfe82dd4527ed1371b9e7dcb85324ca833edf766489a24728e4", func := "loop.example/g01269/laws.FnExactIsBalanced", spec := "fnExactIsBalanced", unfollowed := true, recurses := true, apart := false, narrowed := true }
def FnExactIsBalancedUptoSaid : Prop := fnExactIsBalancedUptoRow.holds Try.pinned (OpenSpec.upto fnExactIsBalancedSpec)

/-- 'laws.FnExactCountBalanced', WHERE WHAT IT READS IS OF BULK AT MOST 1048576: true; the input reads as it did. -/
def fnExactCountBalancedUptoRow : OpenClaim := { program := "ytdolonmjhlhkeaa", sum := "a71ee39d232e3cfe82dd4527ed1371b9e7dcb85324ca833edf766489a24728e4", func := "loop.example/g01269/laws.FnExactCountBalanced", spec := "fnExactCountBalanced", unfollowed := true, recurses := true, apart := false, narrowed := true }
def FnExactCountBalancedUptoSaid : Prop := fnExactCountBalancedUptoRow.holds Try.pinned (OpenSpec.upto fnExactCountBalancedSpec)

/-- 'laws.FnExactEvenQuestion', WHERE WHAT IT READS IS OF BULK AT MOST 1048576: true; the input reads as it did. -/
def fnExactEvenQuestionUptoRow : OpenClaim := { program := "ytdolonmjhlhkeaa", sum := "a71ee39d232e3cfe82dd4527ed1371b9e7dcb85324ca833edf766489a24728e4", func := "loop.example/g01269/laws.FnExactEvenQuestion", spec := "fnExactEvenQuestion", unfollowed := true, recurses := true, apart := false, narrowed := true }
def FnExactEvenQuestionUptoSaid : Prop := fnExactEvenQuestionUptoRow.holds Try.pinned (OpenSpec.upto fnExactEvenQuestionSpec)

/-- 'laws.FnExactBoundOf', WHERE WHAT IT READS IS OF BULK AT MOST 1048576: true; the input reads as it did. -/
def fnExactBoundOfUptoRow : OpenClaim := { program := "ytdolonmjhlhkeaa", sum := "a71ee39d232e3cfe82dd4527ed1371b9e7dcb85324ca833edf766489a24728e4", func := "loop.example/g01269/laws.FnExactBoundOf", spec := "fnExactBoundOf", apart := false, narrowed := true }
def FnExactBoundOfUptoSaid : Prop := fnExactBoundOfUptoRow.holds Try.pinned (OpenSpec.upto fnExactBoundOfSpec)

/-- 'laws.FnExactRoomOf', WHERE WHAT IT READS IS OF BULK AT MOST 1048576: true; the input reads as it did. -/
def fnExactRoomOfUptoRow : OpenClaim := { program := "ytdolonmjhlhkeaa", sum := "a71ee39d232e3cfe82dd4527ed1371b9e7dcb85324ca833edf766489a24728e4", func := "loop.example/g01269/laws.FnExactRoomOf", spec := "fnExactRoomOf", apart := false, narrowed := true }
def FnExactRoomOfUptoSaid : Prop := fnExactRoomOfUptoRow.holds Try.pinned (OpenSpec.upto fnExactRoomOfSpec)

/-- 'laws.FnExactMostByWeight', WHERE WHAT IT READS IS OF BULK AT MOST 1048576: true; the input reads as it did. -/
def fnExactMostByWeightUptoRow : OpenClaim := { program := "ytdolonmjhlhkeaa", sum := "a71ee39d232e3cfe82dd4527ed1371b9e7dcb85324ca833edf766489a24728e4", func := "loop.example/g01269/laws.FnExactMostByWeight", spec := "fnExactMostByWeight", apart := false, narrowed := true }
def FnExactMostByWeightUptoSaid : Prop := fnExactMostByWeightUptoRow.holds Try.pinned (OpenSpec.upto fnExactMostByWeightSpec)

/-- 'laws.FnExactWeightTable', WHERE WHAT IT READS IS OF BULK AT MOST 1048576: true; the input reads as it did. -/
def fnExactWeightTableUptoRow : OpenClaim := { program := "ytdolonmjhlhkeaa", sum := "a71ee39d232e3cfe82dd4527ed1371b9e7dcb85324ca833edf766489a24728e4", func := "loop.example/g01269/laws.FnExactWeightTable", spec := "fnExactWeightTable", apart := false, narrowed := true }
def FnExactWeightTableUptoSaid : Prop := fnExactWeightTableUptoRow.holds Try.pinned (OpenSpec.upto fnExactWeightTableSpec)

end Rows
end Go.Proofs.Ytdolonmjhlhkeaa
