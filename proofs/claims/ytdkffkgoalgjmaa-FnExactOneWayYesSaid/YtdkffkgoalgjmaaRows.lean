/-
  No cell of these rows narrows 'for every input' (looked for: loops, veiled, ifaces, maps, wideKeys, modest, calm, conditions, laid).
  DERIVED. THE GIVEN ROWS OF THIS SEAT. 12 by the template 'for every input the law returns true; each argument reads behind the call as it read before'; 0 by the template 'total and deterministic' (their statements: YtdkffkgoalgjmaaTotals.lean).
  GIVEN WITH THE SEED: the statements are not yours to turn. If you find one false, say at which input.
  Laid BY PROGRAM, IN A SANDBOX (cutbox-rows.mjs): the forced cells as the released guide's own fill.sh prints them over the translation 8b988cadcb58ea29… (all of the seat's roots in one cut). By AI agents, Wed Nov 11 2026. No macro, syntax, notation, axiom, sorry.
-/
import Derived.Test.YtdkffkgoalgjmaaChecked
import GoSem.Claim
import GoSem.ClaimJoined
import GoSem.ClaimMapViews
import Derived.JoinedTies
import Derived.KernelRfl
namespace Go.Proofs.Ytdkffkgoalgjmaa
/- THE CELL 'sum', in the pinned program and in every row, IS THE sha256 OF THE DUMP (.gsa) THAT YtdkffkgoalgjmaaProg.lean LOADS. Nothing in Lean hashes anything: it is a label: what it is worth is what the hold of that sum in a sandbox is worth. -/
noncomputable def Try.pinned : Pinned := { name := "ytdkffkgoalgjmaa", sum := "8b988cadcb58ea2952e29f7e7196c72d2a5b22774734c48a468f1d469ed7dbcb", checked := Try.checked }
namespace Rows
def none {H : Type} : Left H := { results := [], args := [] }

/-- 'laws.FnExactOneWayState': WHATEVER THE INPUT: true; the input reads as it did. -/
def fnExactOneWayStateSpec : ChangeSpec := { name := "fnExactOneWayState", fn := fun _ => fun
  | [d1, d2] => { results := [.lit (.bool true)], args := [d1, d2] }
  | _ => none }
def fnExactOneWayStateRow : OpenClaim := { program := "ytdkffkgoalgjmaa", sum := "8b988cadcb58ea2952e29f7e7196c72d2a5b22774734c48a468f1d469ed7dbcb", func := "loop.example/g01269/laws.FnExactOneWayState", spec := "fnExactOneWayState", plainKeys := false, apart := false }
def FnExactOneWayStateSaid : Prop := fnExactOneWayStateRow.holds Try.pinned (OpenSpec.ofChange fnExactOneWayStateSpec)

/-- ITS FALSE NEIGHBOUR: 'it returns false'. Refute it at one input. -/
def fnExactOneWayStateWrong : ChangeSpec := { name := "fnExactOneWayState", fn := fun _ => fun
  | [d1, d2] => { results := [.lit (.bool false)], args := [d1, d2] }
  | _ => none }
def FnExactOneWayStateWrongFalsely : Prop := fnExactOneWayStateRow.holds Try.pinned (OpenSpec.ofChange fnExactOneWayStateWrong)

/-- 'laws.FnExactOneWayAll': WHATEVER THE INPUT: true; the input reads as it did. -/
def fnExactOneWayAllSpec : ChangeSpec := { name := "fnExactOneWayAll", fn := fun _ => fun
  | [d1, d2, d3] => { results := [.lit (.bool true)], args := [d1, d2, d3] }
  | _ => none }
def fnExactOneWayAllRow : OpenClaim := { program := "ytdkffkgoalgjmaa", sum := "8b988cadcb58ea2952e29f7e7196c72d2a5b22774734c48a468f1d469ed7dbcb", func := "loop.example/g01269/laws.FnExactOneWayAll", spec := "fnExactOneWayAll", unfollowed := true, recurses := true, plainKeys := false, apart := false }
def FnExactOneWayAllSaid : Prop := fnExactOneWayAllRow.holds Try.pinned (OpenSpec.ofChange fnExactOneWayAllSpec)

/-- ITS FALSE NEIGHBOUR: 'it returns false'. Refute it at one input. -/
def fnExactOneWayAllWrong : ChangeSpec := { name := "fnExactOneWayAll", fn := fun _ => fun
  | [d1, d2, d3] => { results := [.lit (.bool false)], args := [d1, d2, d3] }
  | _ => none }
def FnExactOneWayAllWrongFalsely : Prop := fnExactOneWayAllRow.holds Try.pinned (OpenSpec.ofChange fnExactOneWayAllWrong)

/-- 'laws.FnExactOneWayYes': WHATEVER THE INPUT: true; the input reads as it did. -/
def fnExactOneWayYesSpec : ChangeSpec := { name := "fnExactOneWayYes", fn := fun _ => fun
  | [d1, d2] => { results := [.lit (.bool true)], args := [d1, d2] }
  | _ => none }
def fnExactOneWayYesRow : OpenClaim := { program := "ytdkffkgoalgjmaa", sum := "8b988cadcb58ea2952e29f7e7196c72d2a5b22774734c48a468f1d469ed7dbcb", func := "loop.example/g01269/laws.FnExactOneWayYes", spec := "fnExactOneWayYes", plainKeys := false, apart := false }
def FnExactOneWayYesSaid : Prop := fnExactOneWayYesRow.holds Try.pinned (OpenSpec.ofChange fnExactOneWayYesSpec)

/-- ITS FALSE NEIGHBOUR: 'it returns false'. Refute it at one input. -/
def fnExactOneWayYesWrong : ChangeSpec := { name := "fnExactOneWayYes", fn := fun _ => fun
  | [d1, d2] => { results := [.lit (.bool false)], args := [d1, d2] }
  | _ => none }
def FnExactOneWayYesWrongFalsely : Prop := fnExactOneWayYesRow.holds Try.pinned (OpenSpec.ofChange fnExactOneWayYesWrong)

/-- 'laws.FnExactOneWayNo': WHATEVER THE INPUT: true; the input reads as it did. -/
def fnExactOneWayNoSpec : ChangeSpec := { name := "fnExactOneWayNo", fn := fun _ => fun
  | [d1, d2] => { results := [.lit (.bool true)], args := [d1, d2] }
  | _ => none }
def fnExactOneWayNoRow : OpenClaim := { program := "ytdkffkgoalgjmaa", sum := "8b988cadcb58ea2952e29f7e7196c72d2a5b22774734c48a468f1d469ed7dbcb", func := "loop.example/g01269/laws.FnExactOneWayNo", spec := "fnExactOneWayNo", plainKeys := false, apart := false }
def FnExactOneWayNoSaid : Prop := fnExactOneWayNoRow.holds Try.pinned (OpenSpec.ofChange fnExactOneWayNoSpec)

/-- ITS FALSE NEIGHBOUR: 'it returns false'. Refute it at one input. -/
def fnExactOneWayNoWrong : ChangeSpec := { name := "fnExactOneWayNo", fn := fun _ => fun
  | [d1, d2] => { results := [.lit (.bool false)], args := [d1, d2] }
  | _ => none }
def FnExactOneWayNoWrongFalsely : Prop := fnExactOneWayNoRow.holds Try.pinned (OpenSpec.ofChange fnExactOneWayNoWrong)

/-- 'laws.FnExactOneWayNeed': WHATEVER THE INPUT: true; the input reads as it did. -/
def fnExactOneWayNeedSpec : ChangeSpec := { name := "fnExactOneWayNeed", fn := fun _ => fun
  | [d] => { results := [.lit (.bool true)], args := [d] }
  | _ => none }
def fnExactOneWayNeedRow : OpenClaim := { program := "ytdkffkgoalgjmaa", sum := "8b988cadcb58ea2952e29f7e7196c72d2a5b22774734c48a468f1d469ed7dbcb", func := "loop.example/g01269/laws.FnExactOneWayNeed", spec := "fnExactOneWayNeed", recurses := true, plainKeys := false, apart := false }
def FnExactOneWayNeedSaid : Prop := fnExactOneWayNeedRow.holds Try.pinned (OpenSpec.ofChange fnExactOneWayNeedSpec)

/-- ITS FALSE NEIGHBOUR: 'it returns false'. Refute it at one input. -/
def fnExactOneWayNeedWrong : ChangeSpec := { name := "fnExactOneWayNeed", fn := fun _ => fun
  | [d] => { results := [.lit (.bool false)], args := [d] }
  | _ => none }
def FnExactOneWayNeedWrongFalsely : Prop := fnExactOneWayNeedRow.holds Try.pinned (OpenSpec.ofChange fnExactOneWayNeedWrong)

/-- 'laws.FnExactOneWaySplit': WHATEVER THE INPUT: true; the input reads as it did. -/
def fnExactOneWaySplitSpec : ChangeSpec := { name := "fnExactOneWaySplit", fn := fun _ => fun
  | [d] => { results := [.lit (.bool true)], args := [d] }
  | _ => none }
def fnExactOneWaySplitRow : OpenClaim := { program := "ytdkffkgoalgjmaa", sum := "8b988cadcb58ea2952e29f7e7196c72d2a5b22774734c48a468f1d469ed7dbcb", func := "loop.example/g01269/laws.FnExactOneWaySplit", spec := "fnExactOneWaySplit", recurses := true, plainKeys := false, apart := false }
def FnExactOneWaySplitSaid : Prop := fnExactOneWaySplitRow.holds Try.pinned (OpenSpec.ofChange fnExactOneWaySplitSpec)

/-- ITS FALSE NEIGHBOUR: 'it returns false'. Refute it at one input. -/
def fnExactOneWaySplitWrong : ChangeSpec := { name := "fnExactOneWaySplit", fn := fun _ => fun
  | [d] => { results := [.lit (.bool false)], args := [d] }
  | _ => none }
def FnExactOneWaySplitWrongFalsely : Prop := fnExactOneWaySplitRow.holds Try.pinned (OpenSpec.ofChange fnExactOneWaySplitWrong)

/-- 'laws.FnExactOneWayTable': WHATEVER THE INPUT: true; the input reads as it did. -/
def fnExactOneWayTableSpec : ChangeSpec := { name := "fnExactOneWayTable", fn := fun _ => fun
  | [d] => { results := [.lit (.bool true)], args := [d] }
  | _ => none }
def fnExactOneWayTableRow : OpenClaim := { program := "ytdkffkgoalgjmaa", sum := "8b988cadcb58ea2952e29f7e7196c72d2a5b22774734c48a468f1d469ed7dbcb", func := "loop.example/g01269/laws.FnExactOneWayTable", spec := "fnExactOneWayTable", unfollowed := true, recurses := true, plainKeys := false, apart := false }
def FnExactOneWayTableSaid : Prop := fnExactOneWayTableRow.holds Try.pinned (OpenSpec.ofChange fnExactOneWayTableSpec)

/-- ITS FALSE NEIGHBOUR: 'it returns false'. Refute it at one input. -/
def fnExactOneWayTableWrong : ChangeSpec := { name := "fnExactOneWayTable", fn := fun _ => fun
  | [d] => { results := [.lit (.bool false)], args := [d] }
  | _ => none }
def FnExactOneWayTableWrongFalsely : Prop := fnExactOneWayTableRow.holds Try.pinned (OpenSpec.ofChange fnExactOneWayTableWrong)

/-- 'laws.FnExactSavedOneWay': WHATEVER THE INPUT: true; the input reads as it did. -/
def fnExactSavedOneWaySpec : ChangeSpec := { name := "fnExactSavedOneWay", fn := fun _ => fun
  | [d] => { results := [.lit (.bool true)], args := [d] }
  | _ => none }
def fnExactSavedOneWayRow : OpenClaim := { program := "ytdkffkgoalgjmaa", sum := "8b988cadcb58ea2952e29f7e7196c72d2a5b22774734c48a468f1d469ed7dbcb", func := "loop.example/g01269/laws.FnExactSavedOneWay", spec := "fnExactSavedOneWay", recurses := true, plainKeys := false, apart := false }
def FnExactSavedOneWaySaid : Prop := fnExactSavedOneWayRow.holds Try.pinned (OpenSpec.ofChange fnExactSavedOneWaySpec)

/-- ITS FALSE NEIGHBOUR: 'it returns false'. Refute it at one input. -/
def fnExactSavedOneWayWrong : ChangeSpec := { name := "fnExactSavedOneWay", fn := fun _ => fun
  | [d] => { results := [.lit (.bool false)], args := [d] }
  | _ => none }
def FnExactSavedOneWayWrongFalsely : Prop := fnExactSavedOneWayRow.holds Try.pinned (OpenSpec.ofChange fnExactSavedOneWayWrong)

/-- 'laws.FnExactOneWayPaths': WHATEVER THE INPUT: true; the input reads as it did. -/
def fnExactOneWayPathsSpec : ChangeSpec := { name := "fnExactOneWayPaths", fn := fun _ => fun
  | [d] => { results := [.lit (.bool true)], args := [d] }
  | _ => none }
def fnExactOneWayPathsRow : OpenClaim := { program := "ytdkffkgoalgjmaa", sum := "8b988cadcb58ea2952e29f7e7196c72d2a5b22774734c48a468f1d469ed7dbcb", func := "loop.example/g01269/laws.FnExactOneWayPaths", spec := "fnExactOneWayPaths", recurses := true, plainKeys := false, apart := false }
def FnExactOneWayPathsSaid : Prop := fnExactOneWayPathsRow.holds Try.pinned (OpenSpec.ofChange fnExactOneWayPathsSpec)

/-- ITS FALSE NEIGHBOUR: 'it returns false'. Refute it at one input. -/
def fnExactOneWayPathsWrong : ChangeSpec := { name := "fnExactOneWayPaths", fn := fun _ => fun
  | [d] => { results := [.lit (.bool false)], args := [d] }
  | _ => none }
def FnExactOneWayPathsWrongFalsely : Prop := fnExactOneWayPathsRow.holds Try.pinned (OpenSpec.ofChange fnExactOneWayPathsWrong)

/-- 'laws.FnExactOneWayMost': WHATEVER THE INPUT: true; the input reads as it did. -/
def fnExactOneWayMostSpec : ChangeSpec := { name := "fnExactOneWayMost", fn := fun _ => fun
  | [d1, d2] => { results := [.lit (.bool true)], args := [d1, d2] }
  | _ => none }
def fnExactOneWayMostRow : OpenClaim := { program := "ytdkffkgoalgjmaa", sum := "8b988cadcb58ea2952e29f7e7196c72d2a5b22774734c48a468f1d469ed7dbcb", func := "loop.example/g01269/laws.FnExactOneWayMost", spec := "fnExactOneWayMost", unfollowed := true, recurses := true, plainKeys := false, apart := false }
def FnExactOneWayMostSaid : Prop := fnExactOneWayMostRow.holds Try.pinned (OpenSpec.ofChange fnExactOneWayMostSpec)

/-- ITS FALSE NEIGHBOUR: 'it returns false'. Refute it at one input. -/
def fnExactOneWayMostWrong : ChangeSpec := { name := "fnExactOneWayMost", fn := fun _ => fun
  | [d1, d2] => { results := [.lit (.bool false)], args := [d1, d2] }
  | _ => none }
def FnExactOneWayMostWrongFalsely : Prop := fnExactOneWayMostRow.holds Try.pinned (OpenSpec.ofChange fnExactOneWayMostWrong)

/-- 'laws.FnExactSameOneWay': WHATEVER THE INPUT: true; the input reads as it did. -/
def fnExactSameOneWaySpec : ChangeSpec := { name := "fnExactSameOneWay", fn := fun _ => fun
  | [d1, d2, d3] => { results := [.lit (.bool true)], args := [d1, d2, d3] }
  | _ => none }
def fnExactSameOneWayRow : OpenClaim := { program := "ytdkffkgoalgjmaa", sum := "8b988cadcb58ea2952e29f7e7196c72d2a5b22774734c48a468f1d469ed7dbcb", func := "loop.example/g01269/laws.FnExactSameOneWay", spec := "fnExactSameOneWay", unfollowed := true, recurses := true, plainKeys := false, apart := false }
def FnExactSameOneWaySaid : Prop := fnExactSameOneWayRow.holds Try.pinned (OpenSpec.ofChange fnExactSameOneWaySpec)

/-- ITS FALSE NEIGHBOUR: 'it returns false'. Refute it at one input. -/
def fnExactSameOneWayWrong : ChangeSpec := { name := "fnExactSameOneWay", fn := fun _ => fun
  | [d1, d2, d3] => { results := [.lit (.bool false)], args := [d1, d2, d3] }
  | _ => none }
def FnExactSameOneWayWrongFalsely : Prop := fnExactSameOneWayRow.holds Try.pinned (OpenSpec.ofChange fnExactSameOneWayWrong)

/-- 'laws.FnExactAnswerAll': WHATEVER THE INPUT: true; the input reads as it did. -/
def fnExactAnswerAllSpec : ChangeSpec := { name := "fnExactAnswerAll", fn := fun _ => fun
  | [d1, d2, d3] => { results := [.lit (.bool true)], args := [d1, d2, d3] }
  | _ => none }
def fnExactAnswerAllRow : OpenClaim := { program := "ytdkffkgoalgjmaa", sum := "8b988cadcb58ea2952e29f7e7196c72d2a5b22774734c48a468f1d469ed7dbcb", func := "loop.example/g01269/laws.FnExactAnswerAll", spec := "fnExactAnswerAll", unfollowed := true, recurses := true, plainKeys := false, apart := false }
def FnExactAnswerAllSaid : Prop := fnExactAnswerAllRow.holds Try.pinned (OpenSpec.ofChange fnExactAnswerAllSpec)

/-- ITS FALSE NEIGHBOUR: 'it returns false'. Refute it at one input. -/
def fnExactAnswerAllWrong : ChangeSpec := { name := "fnExactAnswerAll", fn := fun _ => fun
  | [d1, d2, d3] => { results := [.lit (.bool false)], args := [d1, d2, d3] }
  | _ => none }
def FnExactAnswerAllWrongFalsely : Prop := fnExactAnswerAllRow.holds Try.pinned (OpenSpec.ofChange fnExactAnswerAllWrong)

/- THE SECOND FORM. 'bulk': how many values and letters a reading holds, each counted each time it is reached (what is shared counts as often as it is met; a slice's spare places count too). A statement '..UptoSaid' is the law's where the arguments, and the package variables that the reading takes, are together of bulk at most 1048576: NARROWER than '..Said'. Prove '..Said' where nothing that the law and all that it calls make is longer than what came in: it says more and counts as full. Else prove '..UptoSaid'. A law counts once. -/
mutual
def uptoBulk {H : Type} : DataW H → Nat
  | .lit (.string bytes) => bytes.length + 1
  | .lit _ => 1
  | .nil => 1
  | .ptr d => uptoBulk d + 1
  | .slice elems spare => uptoBulkAll elems + uptoBulkAll spare + 1
  | .agg parts => uptoBulkAll parts + 1
  | .iface _ d => uptoBulk d + 1
  | .map entries => uptoBulkEntries entries + 1
  | .held _ => 1
def uptoBulkAll {H : Type} : List (DataW H) → Nat
  | [] => 0
  | d :: r => uptoBulk d + uptoBulkAll r
def uptoBulkEntries {H : Type} : List (Lit × DataW H) → Nat
  | [] => 0
  | x :: r => uptoBulkEntry x + uptoBulkEntries r
def uptoBulkEntry {H : Type} : Lit × DataW H → Nat
  | (.string bytes, d) => bytes.length + uptoBulk d + 1
  | (_, d) => uptoBulk d + 1
 end
def uptoSmall : (H : Type) → List (DataW H) → Bool := fun _ ds => decide (uptoBulkAll ds ≤ 1048576)
def OpenSpec.upto (s : _root_.Go.ChangeSpec) : _root_.Go.OpenSpec := { _root_.Go.OpenSpec.ofChange s with cond := some uptoSmall }

/-- 'laws.FnExactOneWayState', WHERE WHAT IT READS IS OF BULK AT MOST 1048576: true; the input reads as it did. -/
def fnExactOneWayStateUptoRow : OpenClaim := { program := "ytdkffkgoalgjmaa", sum := "8b988cadcb58ea2952e29f7e7196c72d2a5b22774734c48a468f1d469ed7dbcb", func := "loop.example/g01269/laws.FnExactOneWayState", spec := "fnExactOneWayState", plainKeys := false, apart := false, narrowed := true }
def FnExactOneWayStateUptoSaid : Prop := fnExactOneWayStateUptoRow.holds Try.pinned (OpenSpec.upto fnExactOneWayStateSpec)

/-- 'laws.FnExactOneWayAll', WHERE WHAT IT READS IS OF BULK AT MOST 1048576: true; the input reads as it did. -/
def fnExactOneWayAllUptoRow : OpenClaim := { program := "ytdkffkgoalgjmaa", sum := "8b988cadcb58ea2952e29f7e7196c72d2a5b22774734c48a468f1d469ed7dbcb", func := "loop.example/g01269/laws.FnExactOneWayAll", spec := "fnExactOneWayAll", unfollowed := true, recurses := true, plainKeys := false, apart := false, narrowed := true }
def FnExactOneWayAllUptoSaid : Prop := fnExactOneWayAllUptoRow.holds Try.pinned (OpenSpec.upto fnExactOneWayAllSpec)

/-- 'laws.FnExactOneWayYes', WHERE WHAT IT READS IS OF BULK AT MOST 1048576: true; the input reads as it did. -/
def fnExactOneWayYesUptoRow : OpenClaim := { program := "ytdkffkgoalgjmaa", sum := "8b988cadcb58ea2952e29f7e7196c72d2a5b22774734c48a468f1d469ed7dbcb", func := "loop.example/g01269/laws.FnExactOneWayYes", spec := "fnExactOneWayYes", plainKeys := false, apart := false, narrowed := true }
def FnExactOneWayYesUptoSaid : Prop := fnExactOneWayYesUptoRow.holds Try.pinned (OpenSpec.upto fnExactOneWayYesSpec)

/-- 'laws.FnExactOneWayNo', WHERE WHAT IT READS IS OF BULK AT MOST 1048576: true; the input reads as it did. -/
def fnExactOneWayNoUptoRow : OpenClaim := { program := "ytdkffkgoalgjmaa", sum := "8b988cadcb58ea2952e29f7e7196c72d2a5b22774734c48a468f1d469ed7dbcb", func := "loop.example/g01269/laws.FnExactOneWayNo", spec := "fnExactOneWayNo", plainKeys := false, apart := false, narrowed := true }
def FnExactOneWayNoUptoSaid : Prop := fnExactOneWayNoUptoRow.holds Try.pinned (OpenSpec.upto fnExactOneWayNoSpec)

/-- 'laws.FnExactOneWayNeed', WHERE WHAT IT READS IS OF BULK AT MOST 1048576: true; the input reads as it did. -/
def fnExactOneWayNeedUptoRow : OpenClaim := { program := "ytdkffkgoalgjmaa", sum := "8b988cadcb58ea2952e29f7e7196c72d2a5b22774734c48a468f1d469ed7dbcb", func := "loop.example/g01269/laws.FnExactOneWayNeed", spec := "fnExactOneWayNeed", recurses := true, plainKeys := false, apart := false, narrowed := true }
def FnExactOneWayNeedUptoSaid : Prop := fnExactOneWayNeedUptoRow.holds Try.pinned (OpenSpec.upto fnExactOneWayNeedSpec)

/-- 'laws.FnExactOneWaySplit', WHERE WHAT IT READS IS OF BULK AT MOST 1048576: true; the input reads as it did. -/
def fnExactOneWaySplitUptoRow : OpenClaim := { program := "ytdkffkgoalgjmaa", sum := "8b988cadcb58ea2952e29f7e7196c72d2a5b22774734c48a468f1d469ed7dbcb", func := "loop.example/g01269/laws.FnExactOneWaySplit", spec := "fnExactOneWaySplit", recurses := true, plainKeys := false, apart := false, narrowed := true }
def FnExactOneWaySplitUptoSaid : Prop := fnExactOneWaySplitUptoRow.holds Try.pinned (OpenSpec.upto fnExactOneWaySplitSpec)

/-- 'laws.FnExactOneWayTable', WHERE WHAT IT READS IS OF BULK AT MOST 1048576: true; the input reads as it did. -/
def fnExactOneWayTableUptoRow : OpenClaim := { program := "ytdkffkgoalgjmaa", sum := "8b988cadcb58ea2952e29f7e7196c72d2a5b22774734c48a468f1d469ed7dbcb", func := "loop.example/g01269/laws.FnExactOneWayTable", spec := "fnExactOneWayTable", unfollowed := true, recurses := true, plainKeys := false, apart := false, narrowed := true }
def FnExactOneWayTableUptoSaid : Prop := fnExactOneWayTableUptoRow.holds Try.pinned (OpenSpec.upto fnExactOneWayTableSpec)

/-- 'laws.FnExactSavedOneWay', WHERE WHAT IT READS IS OF BULK AT MOST 1048576: true; the input reads as it did. -/
def fnExactSavedOneWayUptoRow : OpenClaim := { program := "ytdkffkgoalgjmaa", sum := "8b988cadcb58ea2952e29f7e7196c72d2a5b22774734c48a468f1d469ed7dbcb", func := "loop.example/g01269/laws.FnExactSavedOneWay", spec := "fnExactSavedOneWay", recurses := true, plainKeys := false, apart := false, narrowed := true }
def FnExactSavedOneWayUptoSaid : Prop := fnExactSavedOneWayUptoRow.holds Try.pinned (OpenSpec.upto fnExactSavedOneWaySpec)

/-- 'laws.FnExactOneWayPaths', WHERE WHAT IT READS IS OF BULK AT MOST 1048576: true; the input reads as it did. -/
def fnExactOneWayPathsUptoRow : OpenClaim := { program := "ytdkffkgoalgjmaa", sum := "8b988cadcb58ea2952e29f7e7196c72d2a5b22774734c48a468f1d469ed7dbcb", func := "loop.example/g01269/laws.FnExactOneWayPaths", spec := "fnExactOneWayPaths", recurses := true, plainKeys := false, apart := false, narrowed := true }
def FnExactOneWayPathsUptoSaid : Prop := fnExactOneWayPathsUptoRow.holds Try.pinned (OpenSpec.upto fnExactOneWayPathsSpec)

/-- 'laws.FnExactOneWayMost', WHERE WHAT IT READS IS OF BULK AT MOST 1048576: true; the input reads as it did. -/
def fnExactOneWayMostUptoRow : OpenClaim := { program := "ytdkffkgoalgjmaa", sum := "8b988cadcb58ea2952e29f7e7196c72d2a5b22774734c48a468f1d469ed7dbcb", func := "loop.example/g01269/laws.FnExactOneWayMost", spec := "fnExactOneWayMost", unfollowed := true, recurses := true, plainKeys := false, apart := false, narrowed := true }
def FnExactOneWayMostUptoSaid : Prop := fnExactOneWayMostUptoRow.holds Try.pinned (OpenSpec.upto fnExactOneWayMostSpec)

/-- 'laws.FnExactSameOneWay', WHERE WHAT IT READS IS OF BULK AT MOST 1048576: true; the input reads as it did. -/
def fnExactSameOneWayUptoRow : OpenClaim := { program := "ytdkffkgoalgjmaa", sum := "8b988cadcb58ea2952e29f7e7196c72d2a5b22774734c48a468f1d469ed7dbcb", func := "loop.example/g01269/laws.FnExactSameOneWay", spec := "fnExactSameOneWay", unfollowed := true, recurses := true, plainKeys := false, apart := false, narrowed := true }
def FnExactSameOneWayUptoSaid : Prop := fnExactSameOneWayUptoRow.holds Try.pinned (OpenSpec.upto fnExactSameOneWaySpec)

/-- 'laws.FnExactAnswerAll', WHERE WHAT IT READS IS OF BULK AT MOST 1048576: true; the input reads as it did. -/
def fnExactAnswerAllUptoRow : OpenClaim := { program := "ytdkffkgoalgjmaa", sum := "8b988cadcb58ea2952e29f7e7196c72d2a5b22774734c48a468f1d469ed7dbcb", func := "loop.example/g01269/laws.FnExactAnswerAll", spec := "fnExactAnswerAll", unfollowed := true, recurses := true, plainKeys := false, apart := false, narrowed := true }
def FnExactAnswerAllUptoSaid : Prop := fnExactAnswerAllUptoRow.holds Try.pinned (OpenSpec.upto fnExactAnswerAllSpec)

end Rows
end Go.Proofs.Ytdkffkgoalgjmaa
