/-
  No cell of these rows narrows 'for every input' (looked for: loops, veiled, ifaces, maps, wideKeys, modest, calm, conditions, laid).
  DERIVED. THE GIVEN ROWS OF THIS SEAT. 5 by the template 'for every input the law returns true; each argument reads behind the call as it read before'; 0 by the template 'total and deterministic' (their statements: YtdkffkgoalgjmacTotals.lean).
  GIVEN WITH THE SEED: the statements are not yours to turn. If you find one false, say at which input.
  Laid BY PROGRAM, IN A SANDBOX (cutbox-rows.mjs): the forced cells as the released guide's own fill.sh prints them over the translation a76ef2cc70bce1ff… (all of the seat's roots in one cut). By AI agents, Wed Nov 11 2026. No macro, syntax, notation, axiom, sorry.
-/
import Derived.Test.YtdkffkgoalgjmacChecked
import GoSem.Claim
import GoSem.ClaimJoined
import GoSem.ClaimMapViews
import Derived.JoinedTies
import Derived.KernelRfl
namespace Go.Proofs.Ytdkffkgoalgjmac
/- THE CELL 'sum', in the pinned program and in every row, IS THE sha256 OF THE DUMP (.gsa) THAT YtdkffkgoalgjmacProg.lean LOADS. Nothing in Lean hashes anything: it is a label: what it is worth is what the hold of that sum in a sandbox is worth. -/
noncomputable def Try.pinned : Pinned := { name := "ytdkffkgoalgjmac", sum := "a76ef2cc70bce1ff43b543a0fcb7bdb4cf6330452a66ffb3f628839c4925c413", checked := Try.checked }
namespace Rows
def none {H : Type} : Left H := { results := [], args := [] }

/-- 'laws.FnExactStateAt': WHATEVER THE INPUT: true; the input reads as it did. -/
def fnExactStateAtSpec : ChangeSpec := { name := "fnExactStateAt", fn := fun _ => fun
  | [d1, d2, d3, d4] => { results := [.lit (.bool true)], args := [d1, d2, d3, d4] }
  | _ => none }
def fnExactStateAtRow : OpenClaim := { program := "ytdkffkgoalgjmac", sum := "a76ef2cc70bce1ff43b543a0fcb7bdb4cf6330452a66ffb3f628839c4925c413", func := "loop.example/g01269/laws.FnExactStateAt", spec := "fnExactStateAt", unfollowed := true, recurses := true, plainKeys := false, apart := false }
def FnExactStateAtSaid : Prop := fnExactStateAtRow.holds Try.pinned (OpenSpec.ofChange fnExactStateAtSpec)

/-- ITS FALSE NEIGHBOUR: 'it returns false'. Refute it at one input. -/
def fnExactStateAtWrong : ChangeSpec := { name := "fnExactStateAt", fn := fun _ => fun
  | [d1, d2, d3, d4] => { results := [.lit (.bool false)], args := [d1, d2, d3, d4] }
  | _ => none }
def FnExactStateAtWrongFalsely : Prop := fnExactStateAtRow.holds Try.pinned (OpenSpec.ofChange fnExactStateAtWrong)

/-- 'laws.FnExactMostAtLeaf': WHATEVER THE INPUT: true; the input reads as it did. -/
def fnExactMostAtLeafSpec : ChangeSpec := { name := "fnExactMostAtLeaf", fn := fun _ => fun
  | [d1, d2, d3] => { results := [.lit (.bool true)], args := [d1, d2, d3] }
  | _ => none }
def fnExactMostAtLeafRow : OpenClaim := { program := "ytdkffkgoalgjmac", sum := "a76ef2cc70bce1ff43b543a0fcb7bdb4cf6330452a66ffb3f628839c4925c413", func := "loop.example/g01269/laws.FnExactMostAtLeaf", spec := "fnExactMostAtLeaf", unfollowed := true, recurses := true, plainKeys := false, apart := false }
def FnExactMostAtLeafSaid : Prop := fnExactMostAtLeafRow.holds Try.pinned (OpenSpec.ofChange fnExactMostAtLeafSpec)

/-- ITS FALSE NEIGHBOUR: 'it returns false'. Refute it at one input. -/
def fnExactMostAtLeafWrong : ChangeSpec := { name := "fnExactMostAtLeaf", fn := fun _ => fun
  | [d1, d2, d3] => { results := [.lit (.bool false)], args := [d1, d2, d3] }
  | _ => none }
def FnExactMostAtLeafWrongFalsely : Prop := fnExactMostAtLeafRow.holds Try.pinned (OpenSpec.ofChange fnExactMostAtLeafWrong)

/-- 'laws.FnExactIsGoodTree': WHATEVER THE INPUT: true; the input reads as it did. -/
def fnExactIsGoodTreeSpec : ChangeSpec := { name := "fnExactIsGoodTree", fn := fun _ => fun
  | [d1, d2, d3] => { results := [.lit (.bool true)], args := [d1, d2, d3] }
  | _ => none }
def fnExactIsGoodTreeRow : OpenClaim := { program := "ytdkffkgoalgjmac", sum := "a76ef2cc70bce1ff43b543a0fcb7bdb4cf6330452a66ffb3f628839c4925c413", func := "loop.example/g01269/laws.FnExactIsGoodTree", spec := "fnExactIsGoodTree", unfollowed := true, recurses := true, plainKeys := false, apart := false }
def FnExactIsGoodTreeSaid : Prop := fnExactIsGoodTreeRow.holds Try.pinned (OpenSpec.ofChange fnExactIsGoodTreeSpec)

/-- ITS FALSE NEIGHBOUR: 'it returns false'. Refute it at one input. -/
def fnExactIsGoodTreeWrong : ChangeSpec := { name := "fnExactIsGoodTree", fn := fun _ => fun
  | [d1, d2, d3] => { results := [.lit (.bool false)], args := [d1, d2, d3] }
  | _ => none }
def FnExactIsGoodTreeWrongFalsely : Prop := fnExactIsGoodTreeRow.holds Try.pinned (OpenSpec.ofChange fnExactIsGoodTreeWrong)

/-- 'laws.FnOneWays': WHATEVER THE INPUT: true; the input reads as it did. -/
def fnOneWaysSpec : ChangeSpec := { name := "fnOneWays", fn := fun _ => fun
  | [d] => { results := [.lit (.bool true)], args := [d] }
  | _ => none }
def fnOneWaysRow : OpenClaim := { program := "ytdkffkgoalgjmac", sum := "a76ef2cc70bce1ff43b543a0fcb7bdb4cf6330452a66ffb3f628839c4925c413", func := "loop.example/g01269/laws.FnOneWays", spec := "fnOneWays", unfollowed := true, recurses := true, plainKeys := false, apart := false }
def FnOneWaysSaid : Prop := fnOneWaysRow.holds Try.pinned (OpenSpec.ofChange fnOneWaysSpec)

/-- ITS FALSE NEIGHBOUR: 'it returns false'. Refute it at one input. -/
def fnOneWaysWrong : ChangeSpec := { name := "fnOneWays", fn := fun _ => fun
  | [d] => { results := [.lit (.bool false)], args := [d] }
  | _ => none }
def FnOneWaysWrongFalsely : Prop := fnOneWaysRow.holds Try.pinned (OpenSpec.ofChange fnOneWaysWrong)

/-- 'laws.FnOneWayNeeds': WHATEVER THE INPUT: true; the input reads as it did. -/
def fnOneWayNeedsSpec : ChangeSpec := { name := "fnOneWayNeeds", fn := fun _ => fun
  | [d] => { results := [.lit (.bool true)], args := [d] }
  | _ => none }
def fnOneWayNeedsRow : OpenClaim := { program := "ytdkffkgoalgjmac", sum := "a76ef2cc70bce1ff43b543a0fcb7bdb4cf6330452a66ffb3f628839c4925c413", func := "loop.example/g01269/laws.FnOneWayNeeds", spec := "fnOneWayNeeds", unfollowed := true, recurses := true, plainKeys := false, apart := false }
def FnOneWayNeedsSaid : Prop := fnOneWayNeedsRow.holds Try.pinned (OpenSpec.ofChange fnOneWayNeedsSpec)

/-- ITS FALSE NEIGHBOUR: 'it returns false'. Refute it at one input. -/
def fnOneWayNeedsWrong : ChangeSpec := { name := "fnOneWayNeeds", fn := fun _ => fun
  | [d] => { results := [.lit (.bool false)], args := [d] }
  | _ => none }
def FnOneWayNeedsWrongFalsely : Prop := fnOneWayNeedsRow.holds Try.pinned (OpenSpec.ofChange fnOneWayNeedsWrong)

/- THE SECOND FORM. 'bulk': how many values and letters a reading holds, each counted each time it is reached (what is shared counts as often as it is met; a slice's spare places count too). A statement '..UptoSaid' is the law's where the arguments, and the package variables that the reading takes, are together of bulk at most 1048576: NARROWER than '..Said'. Prove '..Said' where nothing that the law and all that it calls make is longer than what came in: it says more and counts as full. Else prove '..UptoSaid'. A law counts once. -/
mutual
def uptoBulk {H : Type} : DataW H → Nat
  | .lit (.string bytes) => bytes.length + 1
  | .lit _ => 1
  | .nil => 1
  | .ptr d => uptoBulk d + 1
  | .slice elems spare => uptoBulkAll elems + uptoBulkAll spare + 1
  | .agg parts => uptoBulkAll parts + 1
  | .iface _ d => uptoBulk d + 1
  | .map entries => uptoBulkEntries entries + 1
  | .held _ => 1
def uptoBulkAll {H : Type} : List (DataW H) → Nat
  | [] => 0
  | d :: r => uptoBulk d + uptoBulkAll r
def uptoBulkEntries {H : Type} : List (Lit × DataW H) → Nat
  | [] => 0
  | x :: r => uptoBulkEntry x + uptoBulkEntries r
def uptoBulkEntry {H : Type} : Lit × DataW H → Nat
  | (.string bytes, d) => bytes.length + uptoBulk d + 1
  | (_, d) => uptoBulk d + 1
 end
def uptoSmall : (H : Type) → List (DataW H) → Bool := fun _ ds => decide (uptoBulkAll ds ≤ 1048576)
def OpenSpec.upto (s : _root_.Go.ChangeSpec) : _root_.Go.OpenSpec := { _root_.Go.OpenSpec.ofChange s with cond := some uptoSmall }

/-- 'laws.FnExactStateAt', WHERE WHAT IT READS IS OF BULK AT MOST 1048576: true; the input reads as it did. -/
def fnExactStateAtUptoRow : OpenClaim := { program := "ytdkffkgoalgjmac", sum := "a76ef2cc70bce1ff43b543a0fcb7bdb4cf6330452a66ffb3f628839c4925c413", func := "loop.example/g01269/laws.FnExactStateAt", spec := "fnExactStateAt", unfollowed := true, recurses := true, plainKeys := false, apart := false, narrowed := true }
def FnExactStateAtUptoSaid : Prop := fnExactStateAtUptoRow.holds Try.pinned (OpenSpec.upto fnExactStateAtSpec)

/-- 'laws.FnExactMostAtLeaf', WHERE WHAT IT READS IS OF BULK AT MOST 1048576: true; the input reads as it did. -/
def fnExactMostAtLeafUptoRow : OpenClaim := { program := "ytdkffkgoalgjmac", sum := "a76ef2cc70bce1ff43b543a0fcb7bdb4cf6330452a66ffb3f628839c4925c413", func := "loop.example/g01269/laws.FnExactMostAtLeaf", spec := "fnExactMostAtLeaf", unfollowed := true, recurses := true, plainKeys := false, apart := false, narrowed := true }
def FnExactMostAtLeafUptoSaid : Prop := fnExactMostAtLeafUptoRow.holds Try.pinned (OpenSpec.upto fnExactMostAtLeafSpec)

/-- 'laws.FnExactIsGoodTree', WHERE WHAT IT READS IS OF BULK AT MOST 1048576: true; the input reads as it did. -/
def fnExactIsGoodTreeUptoRow : OpenClaim := { program := "ytdkffkgoalgjmac", sum := "a76ef2cc70bce1ff43b543a0fcb7bdb4cf6330452a66ffb3f628839c4925c413", func := "loop.example/g01269/laws.FnExactIsGoodTree", spec := "fnExactIsGoodTree", unfollowed := true, recurses := true, plainKeys := false, apart := false, narrowed := true }
def FnExactIsGoodTreeUptoSaid : Prop := fnExactIsGoodTreeUptoRow.holds Try.pinned (OpenSpec.upto fnExactIsGoodTreeSpec)

/-- 'laws.FnOneWays', WHERE WHAT IT READS IS OF BULK AT MOST 1048576: true; the input reads as it did. -/
def fnOneWaysUptoRow : OpenClaim := { program := "ytdkffkgoalgjmac", sum := "a76ef2cc70bce1ff43b543a0fcb7bdb4cf6330452a66ffb3f628839c4925c413", func := "loop.example/g01269/laws.FnOneWays", spec := "fnOneWays", unfollowed := true, recurses := true, plainKeys := false, apart := false, narrowed := true }
def FnOneWaysUptoSaid : Prop := fnOneWaysUptoRow.holds Try.pinned (OpenSpec.upto fnOneWaysSpec)

/-- 'laws.FnOneWayNeeds', WHERE WHAT IT READS IS OF BULK AT MOST 1048576: true; the input reads as it did. -/
def fnOneWayNeedsUptoRow : OpenClaim := { program := "ytdkffkgoalgjmac", sum := "a76ef2cc70bce1ff43b543a0fcb7bdb4cf6330452a66ffb3f628839c4925c413", func := "loop.example/g01269/laws.FnOneWayNeeds", spec := "fnOneWayNeeds", unfollowed := true, recurses := true, plainKeys := false, apart := false, narrowed := true }
def FnOneWayNeedsUptoSaid : Prop := fnOneWayNeedsUptoRow.holds Try.pinned (OpenSpec.upto fnOneWayNeedsSpec)

end Rows
end Go.Proofs.Ytdkffkgoalgjmac
