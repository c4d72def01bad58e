/-
  No cell of these rows narrows 'for every input' (looked for: loops, veiled, ifaces, maps, wideKeys, modest, calm, conditions, laid).
  DERIVED. THE GIVEN ROWS OF THIS SEAT. 12 by the template 'for every input the law returns true; each argument reads behind the call as it read before'; 0 by the template 'total and deterministic' (their statements: YtdkffkgoalgjmabTotals.lean).
  GIVEN WITH THE SEED: the statements are not yours to turn. If you find one false, say at which input.
  Laid BY PROGRAM, IN A SANDBOX (cutbox-rows.mjs): the forced cells as the released guide's own fill.sh prints them over the translation 9890f4626295934a… (all of the seat's roots in one cut). By AI agents, Wed Nov 11 2026. No macro, syntax, notation, axiom, sorry.
-/
import Derived.Test.YtdkffkgoalgjmabChecked
import GoSem.Claim
import GoSem.ClaimJoined
import GoSem.ClaimMapViews
import Derived.JoinedTies
import Derived.KernelRfl
namespace Go.Proofs.Ytdkffkgoalgjmab
/- THE CELL 'sum', in the pinned program and in every row, IS THE sha256 OF THE DUMP (.gsa) THAT YtdkffkgoalgjmabProg.lean LOADS. Nothing in Lean hashes anything: it is a label: what it is worth is what the hold of that sum in a sandbox is worth. -/
noncomputable def Try.pinned : Pinned := { name := "ytdkffkgoalgjmab", sum := "9890f4626295934a66c6341ead8ea63b35c86fcaf2bee1fa164c00157e6bbb24", checked := Try.checked }
namespace Rows
def none {H : Type} : Left H := { results := [], args := [] }

/-- 'laws.FnExactNeedOf': WHATEVER THE INPUT: true; the input reads as it did. -/
def fnExactNeedOfSpec : ChangeSpec := { name := "fnExactNeedOf", fn := fun _ => fun
  | [d] => { results := [.lit (.bool true)], args := [d] }
  | _ => none }
def fnExactNeedOfRow : OpenClaim := { program := "ytdkffkgoalgjmab", sum := "9890f4626295934a66c6341ead8ea63b35c86fcaf2bee1fa164c00157e6bbb24", func := "loop.example/g01269/laws.FnExactNeedOf", spec := "fnExactNeedOf", recurses := true, plainKeys := false, apart := false }
def FnExactNeedOfSaid : Prop := fnExactNeedOfRow.holds Try.pinned (OpenSpec.ofChange fnExactNeedOfSpec)

/-- ITS FALSE NEIGHBOUR: 'it returns false'. Refute it at one input. -/
def fnExactNeedOfWrong : ChangeSpec := { name := "fnExactNeedOf", fn := fun _ => fun
  | [d] => { results := [.lit (.bool false)], args := [d] }
  | _ => none }
def FnExactNeedOfWrongFalsely : Prop := fnExactNeedOfRow.holds Try.pinned (OpenSpec.ofChange fnExactNeedOfWrong)

/-- 'laws.FnExactSplitNeed': WHATEVER THE INPUT: true; the input reads as it did. -/
def fnExactSplitNeedSpec : ChangeSpec := { name := "fnExactSplitNeed", fn := fun _ => fun
  | [d1, d2] => { results := [.lit (.bool true)], args := [d1, d2] }
  | _ => none }
def fnExactSplitNeedRow : OpenClaim := { program := "ytdkffkgoalgjmab", sum := "9890f4626295934a66c6341ead8ea63b35c86fcaf2bee1fa164c00157e6bbb24", func := "loop.example/g01269/laws.FnExactSplitNeed", spec := "fnExactSplitNeed", recurses := true, plainKeys := false, apart := false }
def FnExactSplitNeedSaid : Prop := fnExactSplitNeedRow.holds Try.pinned (OpenSpec.ofChange fnExactSplitNeedSpec)

/-- ITS FALSE NEIGHBOUR: 'it returns false'. Refute it at one input. -/
def fnExactSplitNeedWrong : ChangeSpec := { name := "fnExactSplitNeed", fn := fun _ => fun
  | [d1, d2] => { results := [.lit (.bool false)], args := [d1, d2] }
  | _ => none }
def FnExactSplitNeedWrongFalsely : Prop := fnExactSplitNeedRow.holds Try.pinned (OpenSpec.ofChange fnExactSplitNeedWrong)

/-- 'laws.FnExactBestSplit': WHATEVER THE INPUT: true; the input reads as it did. -/
def fnExactBestSplitSpec : ChangeSpec := { name := "fnExactBestSplit", fn := fun _ => fun
  | [d] => { results := [.lit (.bool true)], args := [d] }
  | _ => none }
def fnExactBestSplitRow : OpenClaim := { program := "ytdkffkgoalgjmab", sum := "9890f4626295934a66c6341ead8ea63b35c86fcaf2bee1fa164c00157e6bbb24", func := "loop.example/g01269/laws.FnExactBestSplit", spec := "fnExactBestSplit", recurses := true, plainKeys := false, apart := false }
def FnExactBestSplitSaid : Prop := fnExactBestSplitRow.holds Try.pinned (OpenSpec.ofChange fnExactBestSplitSpec)

/-- ITS FALSE NEIGHBOUR: 'it returns false'. Refute it at one input. -/
def fnExactBestSplitWrong : ChangeSpec := { name := "fnExactBestSplit", fn := fun _ => fun
  | [d] => { results := [.lit (.bool false)], args := [d] }
  | _ => none }
def FnExactBestSplitWrongFalsely : Prop := fnExactBestSplitRow.holds Try.pinned (OpenSpec.ofChange fnExactBestSplitWrong)

/-- 'laws.FnExactCountBestSplits': WHATEVER THE INPUT: true; the input reads as it did. -/
def fnExactCountBestSplitsSpec : ChangeSpec := { name := "fnExactCountBestSplits", fn := fun _ => fun
  | [d] => { results := [.lit (.bool true)], args := [d] }
  | _ => none }
def fnExactCountBestSplitsRow : OpenClaim := { program := "ytdkffkgoalgjmab", sum := "9890f4626295934a66c6341ead8ea63b35c86fcaf2bee1fa164c00157e6bbb24", func := "loop.example/g01269/laws.FnExactCountBestSplits", spec := "fnExactCountBestSplits", recurses := true, plainKeys := false, apart := false }
def FnExactCountBestSplitsSaid : Prop := fnExactCountBestSplitsRow.holds Try.pinned (OpenSpec.ofChange fnExactCountBestSplitsSpec)

/-- ITS FALSE NEIGHBOUR: 'it returns false'. Refute it at one input. -/
def fnExactCountBestSplitsWrong : ChangeSpec := { name := "fnExactCountBestSplits", fn := fun _ => fun
  | [d] => { results := [.lit (.bool false)], args := [d] }
  | _ => none }
def FnExactCountBestSplitsWrongFalsely : Prop := fnExactCountBestSplitsRow.holds Try.pinned (OpenSpec.ofChange fnExactCountBestSplitsWrong)

/-- 'laws.FnExactBestQuestion': WHATEVER THE INPUT: true; the input reads as it did. -/
def fnExactBestQuestionSpec : ChangeSpec := { name := "fnExactBestQuestion", fn := fun _ => fun
  | [d] => { results := [.lit (.bool true)], args := [d] }
  | _ => none }
def fnExactBestQuestionRow : OpenClaim := { program := "ytdkffkgoalgjmab", sum := "9890f4626295934a66c6341ead8ea63b35c86fcaf2bee1fa164c00157e6bbb24", func := "loop.example/g01269/laws.FnExactBestQuestion", spec := "fnExactBestQuestion", recurses := true, plainKeys := false, apart := false }
def FnExactBestQuestionSaid : Prop := fnExactBestQuestionRow.holds Try.pinned (OpenSpec.ofChange fnExactBestQuestionSpec)

/-- ITS FALSE NEIGHBOUR: 'it returns false'. Refute it at one input. -/
def fnExactBestQuestionWrong : ChangeSpec := { name := "fnExactBestQuestion", fn := fun _ => fun
  | [d] => { results := [.lit (.bool false)], args := [d] }
  | _ => none }
def FnExactBestQuestionWrongFalsely : Prop := fnExactBestQuestionRow.holds Try.pinned (OpenSpec.ofChange fnExactBestQuestionWrong)

/-- 'laws.FnExactQuestionNeed': WHATEVER THE INPUT: true; the input reads as it did. -/
def fnExactQuestionNeedSpec : ChangeSpec := { name := "fnExactQuestionNeed", fn := fun _ => fun
  | [d1, d2] => { results := [.lit (.bool true)], args := [d1, d2] }
  | _ => none }
def fnExactQuestionNeedRow : OpenClaim := { program := "ytdkffkgoalgjmab", sum := "9890f4626295934a66c6341ead8ea63b35c86fcaf2bee1fa164c00157e6bbb24", func := "loop.example/g01269/laws.FnExactQuestionNeed", spec := "fnExactQuestionNeed", recurses := true, plainKeys := false, apart := false }
def FnExactQuestionNeedSaid : Prop := fnExactQuestionNeedRow.holds Try.pinned (OpenSpec.ofChange fnExactQuestionNeedSpec)

/-- ITS FALSE NEIGHBOUR: 'it returns false'. Refute it at one input. -/
def fnExactQuestionNeedWrong : ChangeSpec := { name := "fnExactQuestionNeed", fn := fun _ => fun
  | [d1, d2] => { results := [.lit (.bool false)], args := [d1, d2] }
  | _ => none }
def FnExactQuestionNeedWrongFalsely : Prop := fnExactQuestionNeedRow.holds Try.pinned (OpenSpec.ofChange fnExactQuestionNeedWrong)

/-- 'laws.FnExactMostByNeed': WHATEVER THE INPUT: true; the input reads as it did. -/
def fnExactMostByNeedSpec : ChangeSpec := { name := "fnExactMostByNeed", fn := fun _ => fun
  | [d1, d2] => { results := [.lit (.bool true)], args := [d1, d2] }
  | _ => none }
def fnExactMostByNeedRow : OpenClaim := { program := "ytdkffkgoalgjmab", sum := "9890f4626295934a66c6341ead8ea63b35c86fcaf2bee1fa164c00157e6bbb24", func := "loop.example/g01269/laws.FnExactMostByNeed", spec := "fnExactMostByNeed", unfollowed := true, recurses := true, plainKeys := false, apart := false }
def FnExactMostByNeedSaid : Prop := fnExactMostByNeedRow.holds Try.pinned (OpenSpec.ofChange fnExactMostByNeedSpec)

/-- ITS FALSE NEIGHBOUR: 'it returns false'. Refute it at one input. -/
def fnExactMostByNeedWrong : ChangeSpec := { name := "fnExactMostByNeed", fn := fun _ => fun
  | [d1, d2] => { results := [.lit (.bool false)], args := [d1, d2] }
  | _ => none }
def FnExactMostByNeedWrongFalsely : Prop := fnExactMostByNeedRow.holds Try.pinned (OpenSpec.ofChange fnExactMostByNeedWrong)

/-- 'laws.FnExactNeedTable': WHATEVER THE INPUT: true; the input reads as it did. -/
def fnExactNeedTableSpec : ChangeSpec := { name := "fnExactNeedTable", fn := fun _ => fun
  | [d] => { results := [.lit (.bool true)], args := [d] }
  | _ => none }
def fnExactNeedTableRow : OpenClaim := { program := "ytdkffkgoalgjmab", sum := "9890f4626295934a66c6341ead8ea63b35c86fcaf2bee1fa164c00157e6bbb24", func := "loop.example/g01269/laws.FnExactNeedTable", spec := "fnExactNeedTable", unfollowed := true, recurses := true, plainKeys := false, apart := false }
def FnExactNeedTableSaid : Prop := fnExactNeedTableRow.holds Try.pinned (OpenSpec.ofChange fnExactNeedTableSpec)

/-- ITS FALSE NEIGHBOUR: 'it returns false'. Refute it at one input. -/
def fnExactNeedTableWrong : ChangeSpec := { name := "fnExactNeedTable", fn := fun _ => fun
  | [d] => { results := [.lit (.bool false)], args := [d] }
  | _ => none }
def FnExactNeedTableWrongFalsely : Prop := fnExactNeedTableRow.holds Try.pinned (OpenSpec.ofChange fnExactNeedTableWrong)

/-- 'laws.FnNeeds': WHATEVER THE INPUT: true; the input reads as it did. -/
def fnNeedsSpec : ChangeSpec := { name := "fnNeeds", fn := fun _ => fun
  | [d] => { results := [.lit (.bool true)], args := [d] }
  | _ => none }
def fnNeedsRow : OpenClaim := { program := "ytdkffkgoalgjmab", sum := "9890f4626295934a66c6341ead8ea63b35c86fcaf2bee1fa164c00157e6bbb24", func := "loop.example/g01269/laws.FnNeeds", spec := "fnNeeds", recurses := true, plainKeys := false, apart := false }
def FnNeedsSaid : Prop := fnNeedsRow.holds Try.pinned (OpenSpec.ofChange fnNeedsSpec)

/-- ITS FALSE NEIGHBOUR: 'it returns false'. Refute it at one input. -/
def fnNeedsWrong : ChangeSpec := { name := "fnNeeds", fn := fun _ => fun
  | [d] => { results := [.lit (.bool false)], args := [d] }
  | _ => none }
def FnNeedsWrongFalsely : Prop := fnNeedsRow.holds Try.pinned (OpenSpec.ofChange fnNeedsWrong)

/-- 'laws.FnExactMoreThanSets': WHATEVER THE INPUT: true; the input reads as it did. -/
def fnExactMoreThanSetsSpec : ChangeSpec := { name := "fnExactMoreThanSets", fn := fun _ => fun
  | [d1, d2] => { results := [.lit (.bool true)], args := [d1, d2] }
  | _ => none }
def fnExactMoreThanSetsRow : OpenClaim := { program := "ytdkffkgoalgjmab", sum := "9890f4626295934a66c6341ead8ea63b35c86fcaf2bee1fa164c00157e6bbb24", func := "loop.example/g01269/laws.FnExactMoreThanSets", spec := "fnExactMoreThanSets", inPlace := ["internal/abi.NoEscape"], recurses := true, plainKeys := false, apart := false }
def FnExactMoreThanSetsSaid : Prop := fnExactMoreThanSetsRow.holds Try.pinned (OpenSpec.ofChange fnExactMoreThanSetsSpec)

/-- ITS FALSE NEIGHBOUR: 'it returns false'. Refute it at one input. -/
def fnExactMoreThanSetsWrong : ChangeSpec := { name := "fnExactMoreThanSets", fn := fun _ => fun
  | [d1, d2] => { results := [.lit (.bool false)], args := [d1, d2] }
  | _ => none }
def FnExactMoreThanSetsWrongFalsely : Prop := fnExactMoreThanSetsRow.holds Try.pinned (OpenSpec.ofChange fnExactMoreThanSetsWrong)

/-- 'laws.FnExactHoldAnswer': WHATEVER THE INPUT: true; the input reads as it did. -/
def fnExactHoldAnswerSpec : ChangeSpec := { name := "fnExactHoldAnswer", fn := fun _ => fun
  | [d1, d2] => { results := [.lit (.bool true)], args := [d1, d2] }
  | _ => none }
def fnExactHoldAnswerRow : OpenClaim := { program := "ytdkffkgoalgjmab", sum := "9890f4626295934a66c6341ead8ea63b35c86fcaf2bee1fa164c00157e6bbb24", func := "loop.example/g01269/laws.FnExactHoldAnswer", spec := "fnExactHoldAnswer", recurses := true, plainKeys := false, apart := false }
def FnExactHoldAnswerSaid : Prop := fnExactHoldAnswerRow.holds Try.pinned (OpenSpec.ofChange fnExactHoldAnswerSpec)

/-- ITS FALSE NEIGHBOUR: 'it returns false'. Refute it at one input. -/
def fnExactHoldAnswerWrong : ChangeSpec := { name := "fnExactHoldAnswer", fn := fun _ => fun
  | [d1, d2] => { results := [.lit (.bool false)], args := [d1, d2] }
  | _ => none }
def FnExactHoldAnswerWrongFalsely : Prop := fnExactHoldAnswerRow.holds Try.pinned (OpenSpec.ofChange fnExactHoldAnswerWrong)

/-- 'laws.FnExactHoldPlay': WHATEVER THE INPUT: true; the input reads as it did. -/
def fnExactHoldPlaySpec : ChangeSpec := { name := "fnExactHoldPlay", fn := fun _ => fun
  | [d1, d2] => { results := [.lit (.bool true)], args := [d1, d2] }
  | _ => none }
def fnExactHoldPlayRow : OpenClaim := { program := "ytdkffkgoalgjmab", sum := "9890f4626295934a66c6341ead8ea63b35c86fcaf2bee1fa164c00157e6bbb24", func := "loop.example/g01269/laws.FnExactHoldPlay", spec := "fnExactHoldPlay", recurses := true, plainKeys := false, apart := false }
def FnExactHoldPlaySaid : Prop := fnExactHoldPlayRow.holds Try.pinned (OpenSpec.ofChange fnExactHoldPlaySpec)

/-- ITS FALSE NEIGHBOUR: 'it returns false'. Refute it at one input. -/
def fnExactHoldPlayWrong : ChangeSpec := { name := "fnExactHoldPlay", fn := fun _ => fun
  | [d1, d2] => { results := [.lit (.bool false)], args := [d1, d2] }
  | _ => none }
def FnExactHoldPlayWrongFalsely : Prop := fnExactHoldPlayRow.holds Try.pinned (OpenSpec.ofChange fnExactHoldPlayWrong)

/- THE SECOND FORM. 'bulk': how many values and letters a reading holds, each counted each time it is reached (what is shared counts as often as it is met; a slice's spare places count too). A statement '..UptoSaid' is the law's where the arguments, and the package variables that the reading takes, are together of bulk at most 1048576: NARROWER than '..Said'. Prove '..Said' where nothing that the law and all that it calls make is longer than what came in: it says more and counts as full. Else prove '..UptoSaid'. A law counts once. -/
mutual
def uptoBulk {H : Type} : DataW H → Nat
  | .lit (.string bytes) => bytes.length + 1
  | .lit _ => 1
  | .nil => 1
  | .ptr d => uptoBulk d + 1
  | .slice elems spare => uptoBulkAll elems + uptoBulkAll spare + 1
  | .agg parts => uptoBulkAll parts + 1
  | .iface _ d => uptoBulk d + 1
  | .map entries => uptoBulkEntries entries + 1
  | .held _ => 1
def uptoBulkAll {H : Type} : List (DataW H) → Nat
  | [] => 0
  | d :: r => uptoBulk d + uptoBulkAll r
def uptoBulkEntries {H : Type} : List (Lit × DataW H) → Nat
  | [] => 0
  | x :: r => uptoBulkEntry x + uptoBulkEntries r
def uptoBulkEntry {H : Type} : Lit × DataW H → Nat
  | (.string bytes, d) => bytes.length + uptoBulk d + 1
  | (_, d) => uptoBulk d + 1
 end
def uptoSmall : (H : Type) → List (DataW H) → Bool := fun _ ds => decide (uptoBulkAll ds ≤ 1048576)
def OpenSpec.upto (s : _root_.Go.ChangeSpec) : _root_.Go.OpenSpec := { _root_.Go.OpenSpec.ofChange s with cond := some uptoSmall }

/-- 'laws.FnExactNeedOf', WHERE WHAT IT READS IS OF BULK AT MOST 1048576: true; the input reads as it did. -/
def fnExactNeedOfUptoRow : OpenClaim := { program := "ytdkffkgoalgjmab", sum := "9890f4626295934a66c6341ead8ea63b35c86fcaf2bee1fa164c00157e6bbb24", func := "loop.example/g01269/laws.FnExactNeedOf", spec := "fnExactNeedOf", recurses := true, plainKeys := false, apart := false, narrowed := true }
def FnExactNeedOfUptoSaid : Prop := fnExactNeedOfUptoRow.holds Try.pinned (OpenSpec.upto fnExactNeedOfSpec)

/-- 'laws.FnExactSplitNeed', WHERE WHAT IT READS IS OF BULK AT MOST 1048576: true; the input reads as it did. -/
def fnExactSplitNeedUptoRow : OpenClaim := { program := "ytdkffkgoalgjmab", sum := "9890f4626295934a66c6341ead8ea63b35c86fcaf2bee1fa164c00157e6bbb24", func := "loop.example/g01269/laws.FnExactSplitNeed", spec := "fnExactSplitNeed", recurses := true, plainKeys := false, apart := false, narrowed := true }
def FnExactSplitNeedUptoSaid : Prop := fnExactSplitNeedUptoRow.holds Try.pinned (OpenSpec.upto fnExactSplitNeedSpec)

/-- 'laws.FnExactBestSplit', WHERE WHAT IT READS IS OF BULK AT MOST 1048576: true; the input reads as it did. -/
def fnExactBestSplitUptoRow : OpenClaim := { program := "ytdkffkgoalgjmab", sum := "9890f4626295934a66c6341ead8ea63b35c86fcaf2bee1fa164c00157e6bbb24", func := "loop.example/g01269/laws.FnExactBestSplit", spec := "fnExactBestSplit", recurses := true, plainKeys := false, apart := false, narrowed := true }
def FnExactBestSplitUptoSaid : Prop := fnExactBestSplitUptoRow.holds Try.pinned (OpenSpec.upto fnExactBestSplitSpec)

/-- 'laws.FnExactCountBestSplits', WHERE WHAT IT READS IS OF BULK AT MOST 1048576: true; the input reads as it did. -/
def fnExactCountBestSplitsUptoRow : OpenClaim := { program := "ytdkffkgoalgjmab", sum := "9890f4626295934a66c6341ead8ea63b35c86fcaf2bee1fa164c00157e6bbb24", func := "loop.example/g01269/laws.FnExactCountBestSplits", spec := "fnExactCountBestSplits", recurses := true, plainKeys := false, apart := false, narrowed := true }
def FnExactCountBestSplitsUptoSaid : Prop := fnExactCountBestSplitsUptoRow.holds Try.pinned (OpenSpec.upto fnExactCountBestSplitsSpec)

/-- 'laws.FnExactBestQuestion', WHERE WHAT IT READS IS OF BULK AT MOST 1048576: true; the input reads as it did. -/
def fnExactBestQuestionUptoRow : OpenClaim := { program := "ytdkffkgoalgjmab", sum := "9890f4626295934a66c6341ead8ea63b35c86fcaf2bee1fa164c00157e6bbb24", func := "loop.example/g01269/laws.FnExactBestQuestion", spec := "fnExactBestQuestion", recurses := true, plainKeys := false, apart := false, narrowed := true }
def FnExactBestQuestionUptoSaid : Prop := fnExactBestQuestionUptoRow.holds Try.pinned (OpenSpec.upto fnExactBestQuestionSpec)

/-- 'laws.FnExactQuestionNeed', WHERE WHAT IT READS IS OF BULK AT MOST 1048576: true; the input reads as it did. -/
def fnExactQuestionNeedUptoRow : OpenClaim := { program := "ytdkffkgoalgjmab", sum := "9890f4626295934a66c6341ead8ea63b35c86fcaf2bee1fa164c00157e6bbb24", func := "loop.example/g01269/laws.FnExactQuestionNeed", spec := "fnExactQuestionNeed", recurses := true, plainKeys := false, apart := false, narrowed := true }
def FnExactQuestionNeedUptoSaid : Prop := fnExactQuestionNeedUptoRow.holds Try.pinned (OpenSpec.upto fnExactQuestionNeedSpec)

/-- 'laws.FnExactMostByNeed', WHERE WHAT IT READS IS OF BULK AT MOST 1048576: true; the input reads as it did. -/
def fnExactMostByNeedUptoRow : OpenClaim := { program := "ytdkffkgoalgjmab", sum := "9890f4626295934a66c6341ead8ea63b35c86fcaf2bee1fa164c00157e6bbb24", func := "loop.example/g01269/laws.FnExactMostByNeed", spec := "fnExactMostByNeed", unfollowed := true, recurses := true, plainKeys := false, apart := false, narrowed := true }
def FnExactMostByNeedUptoSaid : Prop := fnExactMostByNeedUptoRow.holds Try.pinned (OpenSpec.upto fnExactMostByNeedSpec)

/-- 'laws.FnExactNeedTable', WHERE WHAT IT READS IS OF BULK AT MOST 1048576: true; the input reads as it did. -/
def fnExactNeedTableUptoRow : OpenClaim := { program := "ytdkffkgoalgjmab", sum := "9890f4626295934a66c6341ead8ea63b35c86fcaf2bee1fa164c00157e6bbb24", func := "loop.example/g01269/laws.FnExactNeedTable", spec := "fnExactNeedTable", unfollowed := true, recurses := true, plainKeys := false, apart := false, narrowed := true }
def FnExactNeedTableUptoSaid : Prop := fnExactNeedTableUptoRow.holds Try.pinned (OpenSpec.upto fnExactNeedTableSpec)

/-- 'laws.FnNeeds', WHERE WHAT IT READS IS OF BULK AT MOST 1048576: true; the input reads as it did. -/
def fnNeedsUptoRow : OpenClaim := { program := "ytdkffkgoalgjmab", sum := "9890f4626295934a66c6341ead8ea63b35c86fcaf2bee1fa164c00157e6bbb24", func := "loop.example/g01269/laws.FnNeeds", spec := "fnNeeds", recurses := true, plainKeys := false, apart := false, narrowed := true }
def FnNeedsUptoSaid : Prop := fnNeedsUptoRow.holds Try.pinned (OpenSpec.upto fnNeedsSpec)

/-- 'laws.FnExactMoreThanSets', WHERE WHAT IT READS IS OF BULK AT MOST 1048576: true; the input reads as it did. -/
def fnExactMoreThanSetsUptoRow : OpenClaim := { program := "ytdkffkgoalgjmab", sum := "9890f4626295934a66c6341ead8ea63b35c86fcaf2bee1fa164c00157e6bbb24", func := "loop.example/g01269/laws.FnExactMoreThanSets", spec := "fnExactMoreThanSets", inPlace := ["internal/abi.NoEscape"], recurses := true, plainKeys := false, apart := false, narrowed := true }
def FnExactMoreThanSetsUptoSaid : Prop := fnExactMoreThanSetsUptoRow.holds Try.pinned (OpenSpec.upto fnExactMoreThanSetsSpec)

/-- 'laws.FnExactHoldAnswer', WHERE WHAT IT READS IS OF BULK AT MOST 1048576: true; the input reads as it did. -/
def fnExactHoldAnswerUptoRow : OpenClaim := { program := "ytdkffkgoalgjmab", sum := "9890f4626295934a66c6341ead8ea63b35c86fcaf2bee1fa164c00157e6bbb24", func := "loop.example/g01269/laws.FnExactHoldAnswer", spec := "fnExactHoldAnswer", recurses := true, plainKeys := false, apart := false, narrowed := true }
def FnExactHoldAnswerUptoSaid : Prop := fnExactHoldAnswerUptoRow.holds Try.pinned (OpenSpec.upto fnExactHoldAnswerSpec)

/-- 'laws.FnExactHoldPlay', WHERE WHAT IT READS IS OF BULK AT MOST 1048576: true; the input reads as it did. -/
def fnExactHoldPlayUptoRow : OpenClaim := { program := "ytdkffkgoalgjmab", sum := "9890f4626295934a66c6341ead8ea63b35c86fcaf2bee1fa164c00157e6bbb24", func := "loop.example/g01269/laws.FnExactHoldPlay", spec := "fnExactHoldPlay", recurses := true, plainKeys := false, apart := false, narrowed := true }
def FnExactHoldPlayUptoSaid : Prop := fnExactHoldPlayUptoRow.holds Try.pinned (OpenSpec.upto fnExactHoldPlaySpec)

end Rows
end Go.Proofs.Ytdkffkgoalgjmab
