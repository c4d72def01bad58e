/-
  No cell of these rows narrows 'for every input' (looked for: loops, veiled, ifaces, maps, wideKeys, modest, calm, conditions, laid).
  DERIVED. THE GIVEN ROWS OF THIS SEAT. 4 by the template 'for every input the law returns true; each argument reads behind the call as it read before'; 0 by the template 'total and deterministic' (their statements: YtnomgnjfamideabTotals.lean).
  GIVEN WITH THE SEED: the statements are not yours to turn. If you find one false, say at which input.
  Laid BY PROGRAM, IN A SANDBOX (cutbox-rows.mjs): the forced cells as the released guide's own fill.sh prints them over the translation d757cf71b0e0314d… (all of the seat's roots in one cut). By AI agents, Wed Nov 11 2026. No macro, syntax, notation, axiom, sorry.
-/
import Derived.Test.YtnomgnjfamideabChecked
import GoSem.Claim
import GoSem.ClaimJoined
import GoSem.ClaimMapViews
import Derived.JoinedTies
import Derived.KernelRfl
namespace Go.Proofs.Ytnomgnjfamideab
/- THE CELL 'sum', in the pinned program and in every row, IS THE sha256 OF THE DUMP (.gsa) THAT YtnomgnjfamideabProg.lean LOADS. Nothing in Lean hashes anything: it is a label: what it is worth is what the hold of that sum in a sandbox is worth. -/
noncomputable def Try.pinned : Pinned := { name := "ytnomgnjfamideab", sum := "d757cf71b0e0314d273682c6f3d31ba4df44bd4ff03931e1e7e6417fb064ca8c", checked := Try.checked }
namespace Rows
def none {H : Type} : Left H := { results := [], args := [] }

/-- 'laws.FnExactTurnTree': WHATEVER THE INPUT: true; the input reads as it did. -/
def fnExactTurnTreeSpec : ChangeSpec := { name := "fnExactTurnTree", fn := fun _ => fun
  | [d1, d2] => { results := [.lit (.bool true)], args := [d1, d2] }
  | _ => none }
def fnExactTurnTreeRow : OpenClaim := { program := "ytnomgnjfamideab", sum := "d757cf71b0e0314d273682c6f3d31ba4df44bd4ff03931e1e7e6417fb064ca8c", func := "loop.example/g01269/laws.FnExactTurnTree", spec := "fnExactTurnTree", unfollowed := true, recurses := true, apart := false }
def FnExactTurnTreeSaid : Prop := fnExactTurnTreeRow.holds Try.pinned (OpenSpec.ofChange fnExactTurnTreeSpec)

/-- ITS FALSE NEIGHBOUR: 'it returns false'. Refute it at one input. -/
def fnExactTurnTreeWrong : ChangeSpec := { name := "fnExactTurnTree", fn := fun _ => fun
  | [d1, d2] => { results := [.lit (.bool false)], args := [d1, d2] }
  | _ => none }
def FnExactTurnTreeWrongFalsely : Prop := fnExactTurnTreeRow.holds Try.pinned (OpenSpec.ofChange fnExactTurnTreeWrong)

/-- 'laws.FnExactCutTree': WHATEVER THE INPUT: true; the input reads as it did. -/
def fnExactCutTreeSpec : ChangeSpec := { name := "fnExactCutTree", fn := fun _ => fun
  | [d1, d2, d3] => { results := [.lit (.bool true)], args := [d1, d2, d3] }
  | _ => none }
def fnExactCutTreeRow : OpenClaim := { program := "ytnomgnjfamideab", sum := "d757cf71b0e0314d273682c6f3d31ba4df44bd4ff03931e1e7e6417fb064ca8c", func := "loop.example/g01269/laws.FnExactCutTree", spec := "fnExactCutTree", unfollowed := true, recurses := true, apart := false }
def FnExactCutTreeSaid : Prop := fnExactCutTreeRow.holds Try.pinned (OpenSpec.ofChange fnExactCutTreeSpec)

/-- ITS FALSE NEIGHBOUR: 'it returns false'. Refute it at one input. -/
def fnExactCutTreeWrong : ChangeSpec := { name := "fnExactCutTree", fn := fun _ => fun
  | [d1, d2, d3] => { results := [.lit (.bool false)], args := [d1, d2, d3] }
  | _ => none }
def FnExactCutTreeWrongFalsely : Prop := fnExactCutTreeRow.holds Try.pinned (OpenSpec.ofChange fnExactCutTreeWrong)

/-- 'laws.FnExactSubTree': WHATEVER THE INPUT: true; the input reads as it did. -/
def fnExactSubTreeSpec : ChangeSpec := { name := "fnExactSubTree", fn := fun _ => fun
  | [d1, d2, d3] => { results := [.lit (.bool true)], args := [d1, d2, d3] }
  | _ => none }
def fnExactSubTreeRow : OpenClaim := { program := "ytnomgnjfamideab", sum := "d757cf71b0e0314d273682c6f3d31ba4df44bd4ff03931e1e7e6417fb064ca8c", func := "loop.example/g01269/laws.FnExactSubTree", spec := "fnExactSubTree", unfollowed := true, recurses := true, apart := false }
def FnExactSubTreeSaid : Prop := fnExactSubTreeRow.holds Try.pinned (OpenSpec.ofChange fnExactSubTreeSpec)

/-- ITS FALSE NEIGHBOUR: 'it returns false'. Refute it at one input. -/
def fnExactSubTreeWrong : ChangeSpec := { name := "fnExactSubTree", fn := fun _ => fun
  | [d1, d2, d3] => { results := [.lit (.bool false)], args := [d1, d2, d3] }
  | _ => none }
def FnExactSubTreeWrongFalsely : Prop := fnExactSubTreeRow.holds Try.pinned (OpenSpec.ofChange fnExactSubTreeWrong)

/-- 'laws.FnExactLessPlay': WHATEVER THE INPUT: true; the input reads as it did. -/
def fnExactLessPlaySpec : ChangeSpec := { name := "fnExactLessPlay", fn := fun _ => fun
  | [d1, d2, d3] => { results := [.lit (.bool true)], args := [d1, d2, d3] }
  | _ => none }
def fnExactLessPlayRow : OpenClaim := { program := "ytnomgnjfamideab", sum := "d757cf71b0e0314d273682c6f3d31ba4df44bd4ff03931e1e7e6417fb064ca8c", func := "loop.example/g01269/laws.FnExactLessPlay", spec := "fnExactLessPlay", inPlace := ["internal/abi.NoEscape"], recurses := true, apart := false }
def FnExactLessPlaySaid : Prop := fnExactLessPlayRow.holds Try.pinned (OpenSpec.ofChange fnExactLessPlaySpec)

/-- ITS FALSE NEIGHBOUR: 'it returns false'. Refute it at one input. -/
def fnExactLessPlayWrong : ChangeSpec := { name := "fnExactLessPlay", fn := fun _ => fun
  | [d1, d2, d3] => { results := [.lit (.bool false)], args := [d1, d2, d3] }
  | _ => none }
def FnExactLessPlayWrongFalsely : Prop := fnExactLessPlayRow.holds Try.pinned (OpenSpec.ofChange fnExactLessPlayWrong)

/- THE SECOND FORM. 'bulk': how many values and letters a reading holds, each counted each time it is reached (what is shared counts as often as it is met; a slice's spare places count too). A statement '..UptoSaid' is the law's where the arguments, and the package variables that the reading takes, are together of bulk at most 1048576: NARROWER than '..Said'. Prove '..Said' where nothing that the law and all that it calls make is longer than what came in: it says more and counts as full. Else prove '..UptoSaid'. A law counts once. -/
mutual
def uptoBulk {H : Type} : DataW H → Nat
  | .lit (.string bytes) => bytes.length + 1
  | .lit _ => 1
  | .nil => 1
  | .ptr d => uptoBulk d + 1
  | .slice elems spare => uptoBulkAll elems + uptoBulkAll spare + 1
  | .agg parts => uptoBulkAll parts + 1
  | .iface _ d => uptoBulk d + 1
  | .map entries => uptoBulkEntries entries + 1
  | .held _ => 1
def uptoBulkAll {H : Type} : List (DataW H) → Nat
  | [] => 0
  | d :: r => uptoBulk d + uptoBulkAll r
def uptoBulkEntries {H : Type} : List (Lit × DataW H) → Nat
  | [] => 0
  | x :: r => uptoBulkEntry x + uptoBulkEntries r
def uptoBulkEntry {H : Type} : Lit × DataW H → Nat
  | (.string bytes, d) => bytes.length + uptoBulk d + 1
  | (_, d) => uptoBulk d + 1
 end
def uptoSmall : (H : Type) → List (DataW H) → Bool := fun _ ds => decide (uptoBulkAll ds ≤ 1048576)
def OpenSpec.upto (s : _root_.Go.ChangeSpec) : _root_.Go.OpenSpec := { _root_.Go.OpenSpec.ofChange s with cond := some uptoSmall }

/-- 'laws.FnExactTurnTree', WHERE WHAT IT READS IS OF BULK AT MOST 1048576: true; the input reads as it did. -/
def fnExactTurnTreeUptoRow : OpenClaim := { program := "ytnomgnjfamideab", sum := "d757cf71b0e0314d273682c6f3d31ba4df44bd4ff03931e1e7e6417fb064ca8c", func := "loop.example/g01269/laws.FnExactTurnTree", spec := "fnExactTurnTree", unfollowed := true, recurses := true, apart := false, narrowed := true }
def FnExactTurnTreeUptoSaid : Prop := fnExactTurnTreeUptoRow.holds Try.pinned (OpenSpec.upto fnExactTurnTreeSpec)

/-- 'laws.FnExactCutTree', WHERE WHAT IT READS IS OF BULK AT MOST 1048576: true; the input reads as it did. -/
def fnExactCutTreeUptoRow : OpenClaim := { program := "ytnomgnjfamideab", sum := "d757cf71b0e0314d273682c6f3d31ba4df44bd4ff03931e1e7e6417fb064ca8c", func := "loop.example/g01269/laws.FnExactCutTree", spec := "fnExactCutTree", unfollowed := true, recurses := true, apart := false, narrowed := true }
def FnExactCutTreeUptoSaid : Prop := fnExactCutTreeUptoRow.holds Try.pinned (OpenSpec.upto fnExactCutTreeSpec)

/-- 'laws.FnExactSubTree', WHERE WHAT IT READS IS OF BULK AT MOST 1048576: true; the input reads as it did. -/
def fnExactSubTreeUptoRow : OpenClaim := { program := "ytnomgnjfamideab", sum := "d757cf71b0e0314d273682c6f3d31ba4df44bd4ff03931e1e7e6417fb064ca8c", func := "loop.example/g01269/laws.FnExactSubTree", spec := "fnExactSubTree", unfollowed := true, recurses := true, apart := false, narrowed := true }
def FnExactSubTreeUptoSaid : Prop := fnExactSubTreeUptoRow.holds Try.pinned (OpenSpec.upto fnExactSubTreeSpec)

/-- 'laws.FnExactLessPlay', WHERE WHAT IT READS IS OF BULK AT MOST 1048576: true; the input reads as it did. -/
def fnExactLessPlayUptoRow : OpenClaim := { program := "ytnomgnjfamideab", sum := "d757cf71b0e0314d273682c6f3d31ba4df44bd4ff03931e1e7e6417fb064ca8c", func := "loop.example/g01269/laws.FnExactLessPlay", spec := "fnExactLessPlay", inPlace := ["internal/abi.NoEscape"], recurses := true, apart := false, narrowed := true }
def FnExactLessPlayUptoSaid : Prop := fnExactLessPlayUptoRow.holds Try.pinned (OpenSpec.upto fnExactLessPlaySpec)

end Rows
end Go.Proofs.Ytnomgnjfamideab
