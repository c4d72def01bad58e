/-
  No cell of these rows narrows 'for every input' (looked for: loops, veiled, ifaces, maps, wideKeys, modest, calm, conditions, laid).
  DERIVED. THE GIVEN ROWS OF THIS SEAT. 12 by the template 'for every input the law returns true; each argument reads behind the call as it read before'; 0 by the template 'total and deterministic' (their statements: YtnomgnjfamideaaTotals.lean).
  GIVEN WITH THE SEED: the statements are not yours to turn. If you find one false, say at which input.
  Laid BY PROGRAM, IN A SANDBOX (cutbox-rows.mjs): the forced cells as the released guide's own fill.sh prints them over the translation 1eceb67e410e7a2d… (all of the seat's roots in one cut). By AI agents, Wed Nov 11 2026. No macro, syntax, notation, axiom, sorry.
-/
import Derived.Test.YtnomgnjfamideaaChecked
import GoSem.Claim
import GoSem.ClaimJoined
import GoSem.ClaimMapViews
import Derived.JoinedTies
import Derived.KernelRfl
namespace Go.Proofs.Ytnomgnjfamideaa
/- THE CELL 'sum', in the pinned program and in every row, IS THE sha256 OF THE DUMP (.gsa) THAT YtnomgnjfamideaaProg.lean LOADS. Nothing in Lean hashes anything: it is a label: what it is worth is what the hold of that sum in a sandbox is worth. -/
noncomputable def Try.pinned : Pinned := { name := "ytnomgnjfamideaa", sum := "1eceb67e410e7a2d39e06eeb6ce1c3b5303433c3bf550a5f5df731819b42b82a", checked := Try.checked }
namespace Rows
def none {H : Type} : Left H := { results := [], args := [] }

/-- 'laws.FnExactIsTree': WHATEVER THE INPUT: true; the input reads as it did. -/
def fnExactIsTreeSpec : ChangeSpec := { name := "fnExactIsTree", fn := fun _ => fun
  | [d1, d2] => { results := [.lit (.bool true)], args := [d1, d2] }
  | _ => none }
def fnExactIsTreeRow : OpenClaim := { program := "ytnomgnjfamideaa", sum := "1eceb67e410e7a2d39e06eeb6ce1c3b5303433c3bf550a5f5df731819b42b82a", func := "loop.example/g01269/laws.FnExactIsTree", spec := "fnExactIsTree", unfollowed := true, recurses := true, apart := false }
def FnExactIsTreeSaid : Prop := fnExactIsTreeRow.holds Try.pinned (OpenSpec.ofChange fnExactIsTreeSpec)

/-- ITS FALSE NEIGHBOUR: 'it returns false'. Refute it at one input. -/
def fnExactIsTreeWrong : ChangeSpec := { name := "fnExactIsTree", fn := fun _ => fun
  | [d1, d2] => { results := [.lit (.bool false)], args := [d1, d2] }
  | _ => none }
def FnExactIsTreeWrongFalsely : Prop := fnExactIsTreeRow.holds Try.pinned (OpenSpec.ofChange fnExactIsTreeWrong)

/-- 'laws.FnExactLeavesOf': WHATEVER THE INPUT: true; the input reads as it did. -/
def fnExactLeavesOfSpec : ChangeSpec := { name := "fnExactLeavesOf", fn := fun _ => fun
  | [d1, d2] => { results := [.lit (.bool true)], args := [d1, d2] }
  | _ => none }
def fnExactLeavesOfRow : OpenClaim := { program := "ytnomgnjfamideaa", sum := "1eceb67e410e7a2d39e06eeb6ce1c3b5303433c3bf550a5f5df731819b42b82a", func := "loop.example/g01269/laws.FnExactLeavesOf", spec := "fnExactLeavesOf", unfollowed := true, recurses := true, apart := false }
def FnExactLeavesOfSaid : Prop := fnExactLeavesOfRow.holds Try.pinned (OpenSpec.ofChange fnExactLeavesOfSpec)

/-- ITS FALSE NEIGHBOUR: 'it returns false'. Refute it at one input. -/
def fnExactLeavesOfWrong : ChangeSpec := { name := "fnExactLeavesOf", fn := fun _ => fun
  | [d1, d2] => { results := [.lit (.bool false)], args := [d1, d2] }
  | _ => none }
def FnExactLeavesOfWrongFalsely : Prop := fnExactLeavesOfRow.holds Try.pinned (OpenSpec.ofChange fnExactLeavesOfWrong)

/-- 'laws.FnExactDepthOf': WHATEVER THE INPUT: true; the input reads as it did. -/
def fnExactDepthOfSpec : ChangeSpec := { name := "fnExactDepthOf", fn := fun _ => fun
  | [d1, d2, d3] => { results := [.lit (.bool true)], args := [d1, d2, d3] }
  | _ => none }
def fnExactDepthOfRow : OpenClaim := { program := "ytnomgnjfamideaa", sum := "1eceb67e410e7a2d39e06eeb6ce1c3b5303433c3bf550a5f5df731819b42b82a", func := "loop.example/g01269/laws.FnExactDepthOf", spec := "fnExactDepthOf", unfollowed := true, recurses := true, apart := false }
def FnExactDepthOfSaid : Prop := fnExactDepthOfRow.holds Try.pinned (OpenSpec.ofChange fnExactDepthOfSpec)

/-- ITS FALSE NEIGHBOUR: 'it returns false'. Refute it at one input. -/
def fnExactDepthOfWrong : ChangeSpec := { name := "fnExactDepthOf", fn := fun _ => fun
  | [d1, d2, d3] => { results := [.lit (.bool false)], args := [d1, d2, d3] }
  | _ => none }
def FnExactDepthOfWrongFalsely : Prop := fnExactDepthOfRow.holds Try.pinned (OpenSpec.ofChange fnExactDepthOfWrong)

/-- 'laws.FnExactWayTo': WHATEVER THE INPUT: true; the input reads as it did. -/
def fnExactWayToSpec : ChangeSpec := { name := "fnExactWayTo", fn := fun _ => fun
  | [d1, d2, d3] => { results := [.lit (.bool true)], args := [d1, d2, d3] }
  | _ => none }
def fnExactWayToRow : OpenClaim := { program := "ytnomgnjfamideaa", sum := "1eceb67e410e7a2d39e06eeb6ce1c3b5303433c3bf550a5f5df731819b42b82a", func := "loop.example/g01269/laws.FnExactWayTo", spec := "fnExactWayTo", unfollowed := true, recurses := true, apart := false }
def FnExactWayToSaid : Prop := fnExactWayToRow.holds Try.pinned (OpenSpec.ofChange fnExactWayToSpec)

/-- ITS FALSE NEIGHBOUR: 'it returns false'. Refute it at one input. -/
def fnExactWayToWrong : ChangeSpec := { name := "fnExactWayTo", fn := fun _ => fun
  | [d1, d2, d3] => { results := [.lit (.bool false)], args := [d1, d2, d3] }
  | _ => none }
def FnExactWayToWrongFalsely : Prop := fnExactWayToRow.holds Try.pinned (OpenSpec.ofChange fnExactWayToWrong)

/-- 'laws.FnExactStateAt': WHATEVER THE INPUT: true; the input reads as it did. -/
def fnExactStateAtSpec : ChangeSpec := { name := "fnExactStateAt", fn := fun _ => fun
  | [d1, d2, d3, d4] => { results := [.lit (.bool true)], args := [d1, d2, d3, d4] }
  | _ => none }
def fnExactStateAtRow : OpenClaim := { program := "ytnomgnjfamideaa", sum := "1eceb67e410e7a2d39e06eeb6ce1c3b5303433c3bf550a5f5df731819b42b82a", func := "loop.example/g01269/laws.FnExactStateAt", spec := "fnExactStateAt", unfollowed := true, recurses := true, apart := false }
def FnExactStateAtSaid : Prop := fnExactStateAtRow.holds Try.pinned (OpenSpec.ofChange fnExactStateAtSpec)

/-- ITS FALSE NEIGHBOUR: 'it returns false'. Refute it at one input. -/
def fnExactStateAtWrong : ChangeSpec := { name := "fnExactStateAt", fn := fun _ => fun
  | [d1, d2, d3, d4] => { results := [.lit (.bool false)], args := [d1, d2, d3, d4] }
  | _ => none }
def FnExactStateAtWrongFalsely : Prop := fnExactStateAtRow.holds Try.pinned (OpenSpec.ofChange fnExactStateAtWrong)

/-- 'laws.FnExactPlayTree': WHATEVER THE INPUT: true; the input reads as it did. -/
def fnExactPlayTreeSpec : ChangeSpec := { name := "fnExactPlayTree", fn := fun _ => fun
  | [d1, d2, d3] => { results := [.lit (.bool true)], args := [d1, d2, d3] }
  | _ => none }
def fnExactPlayTreeRow : OpenClaim := { program := "ytnomgnjfamideaa", sum := "1eceb67e410e7a2d39e06eeb6ce1c3b5303433c3bf550a5f5df731819b42b82a", func := "loop.example/g01269/laws.FnExactPlayTree", spec := "fnExactPlayTree", unfollowed := true, recurses := true, apart := false }
def FnExactPlayTreeSaid : Prop := fnExactPlayTreeRow.holds Try.pinned (OpenSpec.ofChange fnExactPlayTreeSpec)

/-- ITS FALSE NEIGHBOUR: 'it returns false'. Refute it at one input. -/
def fnExactPlayTreeWrong : ChangeSpec := { name := "fnExactPlayTree", fn := fun _ => fun
  | [d1, d2, d3] => { results := [.lit (.bool false)], args := [d1, d2, d3] }
  | _ => none }
def FnExactPlayTreeWrongFalsely : Prop := fnExactPlayTreeRow.holds Try.pinned (OpenSpec.ofChange fnExactPlayTreeWrong)

/-- 'laws.FnExactTrueLeaf': WHATEVER THE INPUT: true; the input reads as it did. -/
def fnExactTrueLeafSpec : ChangeSpec := { name := "fnExactTrueLeaf", fn := fun _ => fun
  | [d1, d2, d3] => { results := [.lit (.bool true)], args := [d1, d2, d3] }
  | _ => none }
def fnExactTrueLeafRow : OpenClaim := { program := "ytnomgnjfamideaa", sum := "1eceb67e410e7a2d39e06eeb6ce1c3b5303433c3bf550a5f5df731819b42b82a", func := "loop.example/g01269/laws.FnExactTrueLeaf", spec := "fnExactTrueLeaf", unfollowed := true, recurses := true, apart := false }
def FnExactTrueLeafSaid : Prop := fnExactTrueLeafRow.holds Try.pinned (OpenSpec.ofChange fnExactTrueLeafSpec)

/-- ITS FALSE NEIGHBOUR: 'it returns false'. Refute it at one input. -/
def fnExactTrueLeafWrong : ChangeSpec := { name := "fnExactTrueLeaf", fn := fun _ => fun
  | [d1, d2, d3] => { results := [.lit (.bool false)], args := [d1, d2, d3] }
  | _ => none }
def FnExactTrueLeafWrongFalsely : Prop := fnExactTrueLeafRow.holds Try.pinned (OpenSpec.ofChange fnExactTrueLeafWrong)

/-- 'laws.FnExactIsGoodTree': WHATEVER THE INPUT: true; the input reads as it did. -/
def fnExactIsGoodTreeSpec : ChangeSpec := { name := "fnExactIsGoodTree", fn := fun _ => fun
  | [d1, d2, d3] => { results := [.lit (.bool true)], args := [d1, d2, d3] }
  | _ => none }
def fnExactIsGoodTreeRow : OpenClaim := { program := "ytnomgnjfamideaa", sum := "1eceb67e410e7a2d39e06eeb6ce1c3b5303433c3bf550a5f5df731819b42b82a", func := "loop.example/g01269/laws.FnExactIsGoodTree", spec := "fnExactIsGoodTree", unfollowed := true, recurses := true, apart := false }
def FnExactIsGoodTreeSaid : Prop := fnExactIsGoodTreeRow.holds Try.pinned (OpenSpec.ofChange fnExactIsGoodTreeSpec)

/-- ITS FALSE NEIGHBOUR: 'it returns false'. Refute it at one input. -/
def fnExactIsGoodTreeWrong : ChangeSpec := { name := "fnExactIsGoodTree", fn := fun _ => fun
  | [d1, d2, d3] => { results := [.lit (.bool false)], args := [d1, d2, d3] }
  | _ => none }
def FnExactIsGoodTreeWrongFalsely : Prop := fnExactIsGoodTreeRow.holds Try.pinned (OpenSpec.ofChange fnExactIsGoodTreeWrong)

/-- 'laws.FnExactMostAtLeaf': WHATEVER THE INPUT: true; the input reads as it did. -/
def fnExactMostAtLeafSpec : ChangeSpec := { name := "fnExactMostAtLeaf", fn := fun _ => fun
  | [d1, d2, d3] => { results := [.lit (.bool true)], args := [d1, d2, d3] }
  | _ => none }
def fnExactMostAtLeafRow : OpenClaim := { program := "ytnomgnjfamideaa", sum := "1eceb67e410e7a2d39e06eeb6ce1c3b5303433c3bf550a5f5df731819b42b82a", func := "loop.example/g01269/laws.FnExactMostAtLeaf", spec := "fnExactMostAtLeaf", unfollowed := true, recurses := true, apart := false }
def FnExactMostAtLeafSaid : Prop := fnExactMostAtLeafRow.holds Try.pinned (OpenSpec.ofChange fnExactMostAtLeafSpec)

/-- ITS FALSE NEIGHBOUR: 'it returns false'. Refute it at one input. -/
def fnExactMostAtLeafWrong : ChangeSpec := { name := "fnExactMostAtLeaf", fn := fun _ => fun
  | [d1, d2, d3] => { results := [.lit (.bool false)], args := [d1, d2, d3] }
  | _ => none }
def FnExactMostAtLeafWrongFalsely : Prop := fnExactMostAtLeafRow.holds Try.pinned (OpenSpec.ofChange fnExactMostAtLeafWrong)

/-- 'laws.FnExactMeanQuestions': WHATEVER THE INPUT: true; the input reads as it did. -/
def fnExactMeanQuestionsSpec : ChangeSpec := { name := "fnExactMeanQuestions", fn := fun _ => fun
  | [d1, d2] => { results := [.lit (.bool true)], args := [d1, d2] }
  | _ => none }
def fnExactMeanQuestionsRow : OpenClaim := { program := "ytnomgnjfamideaa", sum := "1eceb67e410e7a2d39e06eeb6ce1c3b5303433c3bf550a5f5df731819b42b82a", func := "loop.example/g01269/laws.FnExactMeanQuestions", spec := "fnExactMeanQuestions", unfollowed := true, recurses := true, apart := false }
def FnExactMeanQuestionsSaid : Prop := fnExactMeanQuestionsRow.holds Try.pinned (OpenSpec.ofChange fnExactMeanQuestionsSpec)

/-- ITS FALSE NEIGHBOUR: 'it returns false'. Refute it at one input. -/
def fnExactMeanQuestionsWrong : ChangeSpec := { name := "fnExactMeanQuestions", fn := fun _ => fun
  | [d1, d2] => { results := [.lit (.bool false)], args := [d1, d2] }
  | _ => none }
def FnExactMeanQuestionsWrongFalsely : Prop := fnExactMeanQuestionsRow.holds Try.pinned (OpenSpec.ofChange fnExactMeanQuestionsWrong)

/-- 'laws.FnExactHalvingTree': WHATEVER THE INPUT: true; the input reads as it did. -/
def fnExactHalvingTreeSpec : ChangeSpec := { name := "fnExactHalvingTree", fn := fun _ => fun
  | [d] => { results := [.lit (.bool true)], args := [d] }
  | _ => none }
def fnExactHalvingTreeRow : OpenClaim := { program := "ytnomgnjfamideaa", sum := "1eceb67e410e7a2d39e06eeb6ce1c3b5303433c3bf550a5f5df731819b42b82a", func := "loop.example/g01269/laws.FnExactHalvingTree", spec := "fnExactHalvingTree", unfollowed := true, recurses := true, apart := false }
def FnExactHalvingTreeSaid : Prop := fnExactHalvingTreeRow.holds Try.pinned (OpenSpec.ofChange fnExactHalvingTreeSpec)

/-- ITS FALSE NEIGHBOUR: 'it returns false'. Refute it at one input. -/
def fnExactHalvingTreeWrong : ChangeSpec := { name := "fnExactHalvingTree", fn := fun _ => fun
  | [d] => { results := [.lit (.bool false)], args := [d] }
  | _ => none }
def FnExactHalvingTreeWrongFalsely : Prop := fnExactHalvingTreeRow.holds Try.pinned (OpenSpec.ofChange fnExactHalvingTreeWrong)

/-- 'laws.FnExactRepeatTree': WHATEVER THE INPUT: true; the input reads as it did. -/
def fnExactRepeatTreeSpec : ChangeSpec := { name := "fnExactRepeatTree", fn := fun _ => fun
  | [d1, d2, d3] => { results := [.lit (.bool true)], args := [d1, d2, d3] }
  | _ => none }
def fnExactRepeatTreeRow : OpenClaim := { program := "ytnomgnjfamideaa", sum := "1eceb67e410e7a2d39e06eeb6ce1c3b5303433c3bf550a5f5df731819b42b82a", func := "loop.example/g01269/laws.FnExactRepeatTree", spec := "fnExactRepeatTree", unfollowed := true, recurses := true, apart := false }
def FnExactRepeatTreeSaid : Prop := fnExactRepeatTreeRow.holds Try.pinned (OpenSpec.ofChange fnExactRepeatTreeSpec)

/-- ITS FALSE NEIGHBOUR: 'it returns false'. Refute it at one input. -/
def fnExactRepeatTreeWrong : ChangeSpec := { name := "fnExactRepeatTree", fn := fun _ => fun
  | [d1, d2, d3] => { results := [.lit (.bool false)], args := [d1, d2, d3] }
  | _ => none }
def FnExactRepeatTreeWrongFalsely : Prop := fnExactRepeatTreeRow.holds Try.pinned (OpenSpec.ofChange fnExactRepeatTreeWrong)

/- THE SECOND FORM. 'bulk': how many values and letters a reading holds, each counted each time it is reached (what is shared counts as often as it is met; a slice's spare places count too). A statement '..UptoSaid' is the law's where the arguments, and the package variables that the reading takes, are together of bulk at most 1048576: NARROWER than '..Said'. Prove '..Said' where nothing that the law and all that it calls make is longer than what came in: it says more and counts as full. Else prove '..UptoSaid'. A law counts once. -/
mutual
def uptoBulk {H : Type} : DataW H → Nat
  | .lit (.string bytes) => bytes.length + 1
  | .lit _ => 1
  | .nil => 1
  | .ptr d => uptoBulk d + 1
  | .slice elems spare => uptoBulkAll elems + uptoBulkAll spare + 1
  | .agg parts => uptoBulkAll parts + 1
  | .iface _ d => uptoBulk d + 1
  | .map entries => uptoBulkEntries entries + 1
  | .held _ => 1
def uptoBulkAll {H : Type} : List (DataW H) → Nat
  | [] => 0
  | d :: r => uptoBulk d + uptoBulkAll r
def uptoBulkEntries {H : Type} : List (Lit × DataW H) → Nat
  | [] => 0
  | x :: r => uptoBulkEntry x + uptoBulkEntries r
def uptoBulkEntry {H : Type} : Lit × DataW H → Nat
  | (.string bytes, d) => bytes.length + uptoBulk d + 1
  | (_, d) => uptoBulk d + 1
 end
def uptoSmall : (H : Type) → List (DataW H) → Bool := fun _ ds => decide (uptoBulkAll ds ≤ 1048576)
def OpenSpec.upto (s : _root_.Go.ChangeSpec) : _root_.Go.OpenSpec := { _root_.Go.OpenSpec.ofChange s with cond := some uptoSmall }

/-- 'laws.FnExactIsTree', WHERE WHAT IT READS IS OF BULK AT MOST 1048576: true; the input reads as it did. -/
def fnExactIsTreeUptoRow : OpenClaim := { program := "ytnomgnjfamideaa", sum := "1eceb67e410e7a2d39e06eeb6ce1c3b5303433c3bf550a5f5df731819b42b82a", func := "loop.example/g01269/laws.FnExactIsTree", spec := "fnExactIsTree", unfollowed := true, recurses := true, apart := false, narrowed := true }
def FnExactIsTreeUptoSaid : Prop := fnExactIsTreeUptoRow.holds Try.pinned (OpenSpec.upto fnExactIsTreeSpec)

/-- 'laws.FnExactLeavesOf', WHERE WHAT IT READS IS OF BULK AT MOST 1048576: true; the input reads as it did. -/
def fnExactLeavesOfUptoRow : OpenClaim := { program := "ytnomgnjfamideaa", sum := "1eceb67e410e7a2d39e06eeb6ce1c3b5303433c3bf550a5f5df731819b42b82a", func := "loop.example/g01269/laws.FnExactLeavesOf", spec := "fnExactLeavesOf", unfollowed := true, recurses := true, apart := false, narrowed := true }
def FnExactLeavesOfUptoSaid : Prop := fnExactLeavesOfUptoRow.holds Try.pinned (OpenSpec.upto fnExactLeavesOfSpec)

/-- 'laws.FnExactDepthOf', WHERE WHAT IT READS IS OF BULK AT MOST 1048576: true; the input reads as it did. -/
def fnExactDepthOfUptoRow : OpenClaim := { program := "ytnomgnjfamideaa", sum := "1eceb67e410e7a2d39e06eeb6ce1c3b5303433c3bf550a5f5df731819b42b82a", func := "loop.example/g01269/laws.FnExactDepthOf", spec := "fnExactDepthOf", unfollowed := true, recurses := true, apart := false, narrowed := true }
def FnExactDepthOfUptoSaid : Prop := fnExactDepthOfUptoRow.holds Try.pinned (OpenSpec.upto fnExactDepthOfSpec)

/-- 'laws.FnExactWayTo', WHERE WHAT IT READS IS OF BULK AT MOST 1048576: true; the input reads as it did. -/
def fnExactWayToUptoRow : OpenClaim := { program := "ytnomgnjfamideaa", sum := "1eceb67e410e7a2d39e06eeb6ce1c3b5303433c3bf550a5f5df731819b42b82a", func := "loop.example/g01269/laws.FnExactWayTo", spec := "fnExactWayTo", unfollowed := true, recurses := true, apart := false, narrowed := true }
def FnExactWayToUptoSaid : Prop := fnExactWayToUptoRow.holds Try.pinned (OpenSpec.upto fnExactWayToSpec)

/-- 'laws.FnExactStateAt', WHERE WHAT IT READS IS OF BULK AT MOST 1048576: true; the input reads as it did. -/
def fnExactStateAtUptoRow : OpenClaim := { program := "ytnomgnjfamideaa", sum := "1eceb67e410e7a2d39e06eeb6ce1c3b5303433c3bf550a5f5df731819b42b82a", func := "loop.example/g01269/laws.FnExactStateAt", spec := "fnExactStateAt", unfollowed := true, recurses := true, apart := false, narrowed := true }
def FnExactStateAtUptoSaid : Prop := fnExactStateAtUptoRow.holds Try.pinned (OpenSpec.upto fnExactStateAtSpec)

/-- 'laws.FnExactPlayTree', WHERE WHAT IT READS IS OF BULK AT MOST 1048576: true; the input reads as it did. -/
def fnExactPlayTreeUptoRow : OpenClaim := { program := "ytnomgnjfamideaa", sum := "1eceb67e410e7a2d39e06eeb6ce1c3b5303433c3bf550a5f5df731819b42b82a", func := "loop.example/g01269/laws.FnExactPlayTree", spec := "fnExactPlayTree", unfollowed := true, recurses := true, apart := false, narrowed := true }
def FnExactPlayTreeUptoSaid : Prop := fnExactPlayTreeUptoRow.holds Try.pinned (OpenSpec.upto fnExactPlayTreeSpec)

/-- 'laws.FnExactTrueLeaf', WHERE WHAT IT READS IS OF BULK AT MOST 1048576: true; the input reads as it did. -/
def fnExactTrueLeafUptoRow : OpenClaim := { program := "ytnomgnjfamideaa", sum := "1eceb67e410e7a2d39e06eeb6ce1c3b5303433c3bf550a5f5df731819b42b82a", func := "loop.example/g01269/laws.FnExactTrueLeaf", spec := "fnExactTrueLeaf", unfollowed := true, recurses := true, apart := false, narrowed := true }
def FnExactTrueLeafUptoSaid : Prop := fnExactTrueLeafUptoRow.holds Try.pinned (OpenSpec.upto fnExactTrueLeafSpec)

/-- 'laws.FnExactIsGoodTree', WHERE WHAT IT READS IS OF BULK AT MOST 1048576: true; the input reads as it did. -/
def fnExactIsGoodTreeUptoRow : OpenClaim := { program := "ytnomgnjfamideaa", sum := "1eceb67e410e7a2d39e06eeb6ce1c3b5303433c3bf550a5f5df731819b42b82a", func := "loop.example/g01269/laws.FnExactIsGoodTree", spec := "fnExactIsGoodTree", unfollowed := true, recurses := true, apart := false, narrowed := true }
def FnExactIsGoodTreeUptoSaid : Prop := fnExactIsGoodTreeUptoRow.holds Try.pinned (OpenSpec.upto fnExactIsGoodTreeSpec)

/-- 'laws.FnExactMostAtLeaf', WHERE WHAT IT READS IS OF BULK AT MOST 1048576: true; the input reads as it did. -/
def fnExactMostAtLeafUptoRow : OpenClaim := { program := "ytnomgnjfamideaa", sum := "1eceb67e410e7a2d39e06eeb6ce1c3b5303433c3bf550a5f5df731819b42b82a", func := "loop.example/g01269/laws.FnExactMostAtLeaf", spec := "fnExactMostAtLeaf", unfollowed := true, recurses := true, apart := false, narrowed := true }
def FnExactMostAtLeafUptoSaid : Prop := fnExactMostAtLeafUptoRow.holds Try.pinned (OpenSpec.upto fnExactMostAtLeafSpec)

/-- 'laws.FnExactMeanQuestions', WHERE WHAT IT READS IS OF BULK AT MOST 1048576: true; the input reads as it did. -/
def fnExactMeanQuestionsUptoRow : OpenClaim := { program := "ytnomgnjfamideaa", sum := "1eceb67e410e7a2d39e06eeb6ce1c3b5303433c3bf550a5f5df731819b42b82a", func := "loop.example/g01269/laws.FnExactMeanQuestions", spec := "fnExactMeanQuestions", unfollowed := true, recurses := true, apart := false, narrowed := true }
def FnExactMeanQuestionsUptoSaid : Prop := fnExactMeanQuestionsUptoRow.holds Try.pinned (OpenSpec.upto fnExactMeanQuestionsSpec)

/-- 'laws.FnExactHalvingTree', WHERE WHAT IT READS IS OF BULK AT MOST 1048576: true; the input reads as it did. -/
def fnExactHalvingTreeUptoRow : OpenClaim := { program := "ytnomgnjfamideaa", sum := "1eceb67e410e7a2d39e06eeb6ce1c3b5303433c3bf550a5f5df731819b42b82a", func := "loop.example/g01269/laws.FnExactHalvingTree", spec := "fnExactHalvingTree", unfollowed := true, recurses := true, apart := false, narrowed := true }
def FnExactHalvingTreeUptoSaid : Prop := fnExactHalvingTreeUptoRow.holds Try.pinned (OpenSpec.upto fnExactHalvingTreeSpec)

/-- 'laws.FnExactRepeatTree', WHERE WHAT IT READS IS OF BULK AT MOST 1048576: true; the input reads as it did. -/
def fnExactRepeatTreeUptoRow : OpenClaim := { program := "ytnomgnjfamideaa", sum := "1eceb67e410e7a2d39e06eeb6ce1c3b5303433c3bf550a5f5df731819b42b82a", func := "loop.example/g01269/laws.FnExactRepeatTree", spec := "fnExactRepeatTree", unfollowed := true, recurses := true, apart := false, narrowed := true }
def FnExactRepeatTreeUptoSaid : Prop := fnExactRepeatTreeUptoRow.holds Try.pinned (OpenSpec.upto fnExactRepeatTreeSpec)

end Rows
end Go.Proofs.Ytnomgnjfamideaa
