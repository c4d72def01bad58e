/-
  No cell of these rows narrows 'for every input' (looked for: loops, veiled, ifaces, maps, wideKeys, modest, calm, conditions, laid).
  DERIVED. THE GIVEN ROWS OF THIS SEAT. 11 by the template 'for every input the law returns true; each argument reads behind the call as it read before'; 0 by the template 'total and deterministic' (their statements: YtmieognengfiiaaTotals.lean).
  GIVEN WITH THE SEED: the statements are not yours to turn. If you find one false, say at which input.
  Laid BY PROGRAM, IN A SANDBOX (cutbox-rows.mjs): the forced cells as the released guide's own fill.sh prints them over the translation e278976bc05d16c3… (all of the seat's roots in one cut). By AI agents, Wed Nov 11 2026. No macro, syntax, notation, axiom, sorry.
-/
import Derived.Test.YtmieognengfiiaaChecked
import GoSem.Claim
import GoSem.ClaimJoined
import GoSem.ClaimMapViews
import Derived.JoinedTies
import Derived.KernelRfl
namespace Go.Proofs.Ytmieognengfiiaa
/- THE CELL 'sum', in the pinned program and in every row, IS THE sha256 OF THE DUMP (.gsa) THAT YtmieognengfiiaaProg.lean LOADS. Nothing in Lean hashes anything: it is a label: what it is worth is what the hold of that sum in a sandbox is worth. -/
noncomputable def Try.pinned : Pinned := { name := "ytmieognengfiiaa", sum := "e278976bc05d16c374b1b5e2740c8b6aea774bf19f72c459c0e4f0db43a3fecf", checked := Try.checked }
namespace Rows
def none {H : Type} : Left H := { results := [], args := [] }

/-- 'laws.FnExactAreCounts': WHATEVER THE INPUT: true; the input reads as it did. -/
def fnExactAreCountsSpec : ChangeSpec := { name := "fnExactAreCounts", fn := fun _ => fun
  | [d] => { results := [.lit (.bool true)], args := [d] }
  | _ => none }
def fnExactAreCountsRow : OpenClaim := { program := "ytmieognengfiiaa", sum := "e278976bc05d16c374b1b5e2740c8b6aea774bf19f72c459c0e4f0db43a3fecf", func := "loop.example/g01269/laws.FnExactAreCounts", spec := "fnExactAreCounts", plainKeys := false, apart := false }
def FnExactAreCountsSaid : Prop := fnExactAreCountsRow.holds Try.pinned (OpenSpec.ofChange fnExactAreCountsSpec)

/-- ITS FALSE NEIGHBOUR: 'it returns false'. Refute it at one input. -/
def fnExactAreCountsWrong : ChangeSpec := { name := "fnExactAreCounts", fn := fun _ => fun
  | [d] => { results := [.lit (.bool false)], args := [d] }
  | _ => none }
def FnExactAreCountsWrongFalsely : Prop := fnExactAreCountsRow.holds Try.pinned (OpenSpec.ofChange fnExactAreCountsWrong)

/-- 'laws.FnExactYesCounts': WHATEVER THE INPUT: true; the input reads as it did. -/
def fnExactYesCountsSpec : ChangeSpec := { name := "fnExactYesCounts", fn := fun _ => fun
  | [d1, d2] => { results := [.lit (.bool true)], args := [d1, d2] }
  | _ => none }
def fnExactYesCountsRow : OpenClaim := { program := "ytmieognengfiiaa", sum := "e278976bc05d16c374b1b5e2740c8b6aea774bf19f72c459c0e4f0db43a3fecf", func := "loop.example/g01269/laws.FnExactYesCounts", spec := "fnExactYesCounts", plainKeys := false, apart := false }
def FnExactYesCountsSaid : Prop := fnExactYesCountsRow.holds Try.pinned (OpenSpec.ofChange fnExactYesCountsSpec)

/-- ITS FALSE NEIGHBOUR: 'it returns false'. Refute it at one input. -/
def fnExactYesCountsWrong : ChangeSpec := { name := "fnExactYesCounts", fn := fun _ => fun
  | [d1, d2] => { results := [.lit (.bool false)], args := [d1, d2] }
  | _ => none }
def FnExactYesCountsWrongFalsely : Prop := fnExactYesCountsRow.holds Try.pinned (OpenSpec.ofChange fnExactYesCountsWrong)

/-- 'laws.FnExactNoCounts': WHATEVER THE INPUT: true; the input reads as it did. -/
def fnExactNoCountsSpec : ChangeSpec := { name := "fnExactNoCounts", fn := fun _ => fun
  | [d1, d2] => { results := [.lit (.bool true)], args := [d1, d2] }
  | _ => none }
def fnExactNoCountsRow : OpenClaim := { program := "ytmieognengfiiaa", sum := "e278976bc05d16c374b1b5e2740c8b6aea774bf19f72c459c0e4f0db43a3fecf", func := "loop.example/g01269/laws.FnExactNoCounts", spec := "fnExactNoCounts", plainKeys := false, apart := false }
def FnExactNoCountsSaid : Prop := fnExactNoCountsRow.holds Try.pinned (OpenSpec.ofChange fnExactNoCountsSpec)

/-- ITS FALSE NEIGHBOUR: 'it returns false'. Refute it at one input. -/
def fnExactNoCountsWrong : ChangeSpec := { name := "fnExactNoCounts", fn := fun _ => fun
  | [d1, d2] => { results := [.lit (.bool false)], args := [d1, d2] }
  | _ => none }
def FnExactNoCountsWrongFalsely : Prop := fnExactNoCountsRow.holds Try.pinned (OpenSpec.ofChange fnExactNoCountsWrong)

/-- 'laws.FnExactNeedOf': WHATEVER THE INPUT: true; the input reads as it did. -/
def fnExactNeedOfSpec : ChangeSpec := { name := "fnExactNeedOf", fn := fun _ => fun
  | [d] => { results := [.lit (.bool true)], args := [d] }
  | _ => none }
def fnExactNeedOfRow : OpenClaim := { program := "ytmieognengfiiaa", sum := "e278976bc05d16c374b1b5e2740c8b6aea774bf19f72c459c0e4f0db43a3fecf", func := "loop.example/g01269/laws.FnExactNeedOf", spec := "fnExactNeedOf", recurses := true, plainKeys := false, apart := false }
def FnExactNeedOfSaid : Prop := fnExactNeedOfRow.holds Try.pinned (OpenSpec.ofChange fnExactNeedOfSpec)

/-- ITS FALSE NEIGHBOUR: 'it returns false'. Refute it at one input. -/
def fnExactNeedOfWrong : ChangeSpec := { name := "fnExactNeedOf", fn := fun _ => fun
  | [d] => { results := [.lit (.bool false)], args := [d] }
  | _ => none }
def FnExactNeedOfWrongFalsely : Prop := fnExactNeedOfRow.holds Try.pinned (OpenSpec.ofChange fnExactNeedOfWrong)

/-- 'laws.FnExactSplitNeed': WHATEVER THE INPUT: true; the input reads as it did. -/
def fnExactSplitNeedSpec : ChangeSpec := { name := "fnExactSplitNeed", fn := fun _ => fun
  | [d1, d2] => { results := [.lit (.bool true)], args := [d1, d2] }
  | _ => none }
def fnExactSplitNeedRow : OpenClaim := { program := "ytmieognengfiiaa", sum := "e278976bc05d16c374b1b5e2740c8b6aea774bf19f72c459c0e4f0db43a3fecf", func := "loop.example/g01269/laws.FnExactSplitNeed", spec := "fnExactSplitNeed", recurses := true, plainKeys := false, apart := false }
def FnExactSplitNeedSaid : Prop := fnExactSplitNeedRow.holds Try.pinned (OpenSpec.ofChange fnExactSplitNeedSpec)

/-- ITS FALSE NEIGHBOUR: 'it returns false'. Refute it at one input. -/
def fnExactSplitNeedWrong : ChangeSpec := { name := "fnExactSplitNeed", fn := fun _ => fun
  | [d1, d2] => { results := [.lit (.bool false)], args := [d1, d2] }
  | _ => none }
def FnExactSplitNeedWrongFalsely : Prop := fnExactSplitNeedRow.holds Try.pinned (OpenSpec.ofChange fnExactSplitNeedWrong)

/-- 'laws.FnExactBestSplit': WHATEVER THE INPUT: true; the input reads as it did. -/
def fnExactBestSplitSpec : ChangeSpec := { name := "fnExactBestSplit", fn := fun _ => fun
  | [d] => { results := [.lit (.bool true)], args := [d] }
  | _ => none }
def fnExactBestSplitRow : OpenClaim := { program := "ytmieognengfiiaa", sum := "e278976bc05d16c374b1b5e2740c8b6aea774bf19f72c459c0e4f0db43a3fecf", func := "loop.example/g01269/laws.FnExactBestSplit", spec := "fnExactBestSplit", recurses := true, plainKeys := false, apart := false }
def FnExactBestSplitSaid : Prop := fnExactBestSplitRow.holds Try.pinned (OpenSpec.ofChange fnExactBestSplitSpec)

/-- ITS FALSE NEIGHBOUR: 'it returns false'. Refute it at one input. -/
def fnExactBestSplitWrong : ChangeSpec := { name := "fnExactBestSplit", fn := fun _ => fun
  | [d] => { results := [.lit (.bool false)], args := [d] }
  | _ => none }
def FnExactBestSplitWrongFalsely : Prop := fnExactBestSplitRow.holds Try.pinned (OpenSpec.ofChange fnExactBestSplitWrong)

/-- 'laws.FnExactCountBestSplits': WHATEVER THE INPUT: true; the input reads as it did. -/
def fnExactCountBestSplitsSpec : ChangeSpec := { name := "fnExactCountBestSplits", fn := fun _ => fun
  | [d] => { results := [.lit (.bool true)], args := [d] }
  | _ => none }
def fnExactCountBestSplitsRow : OpenClaim := { program := "ytmieognengfiiaa", sum := "e278976bc05d16c374b1b5e2740c8b6aea774bf19f72c459c0e4f0db43a3fecf", func := "loop.example/g01269/laws.FnExactCountBestSplits", spec := "fnExactCountBestSplits", recurses := true, plainKeys := false, apart := false }
def FnExactCountBestSplitsSaid : Prop := fnExactCountBestSplitsRow.holds Try.pinned (OpenSpec.ofChange fnExactCountBestSplitsSpec)

/-- ITS FALSE NEIGHBOUR: 'it returns false'. Refute it at one input. -/
def fnExactCountBestSplitsWrong : ChangeSpec := { name := "fnExactCountBestSplits", fn := fun _ => fun
  | [d] => { results := [.lit (.bool false)], args := [d] }
  | _ => none }
def FnExactCountBestSplitsWrongFalsely : Prop := fnExactCountBestSplitsRow.holds Try.pinned (OpenSpec.ofChange fnExactCountBestSplitsWrong)

/-- 'laws.FnExactBestQuestion': WHATEVER THE INPUT: true; the input reads as it did. -/
def fnExactBestQuestionSpec : ChangeSpec := { name := "fnExactBestQuestion", fn := fun _ => fun
  | [d] => { results := [.lit (.bool true)], args := [d] }
  | _ => none }
def fnExactBestQuestionRow : OpenClaim := { program := "ytmieognengfiiaa", sum := "e278976bc05d16c374b1b5e2740c8b6aea774bf19f72c459c0e4f0db43a3fecf", func := "loop.example/g01269/laws.FnExactBestQuestion", spec := "fnExactBestQuestion", recurses := true, plainKeys := false, apart := false }
def FnExactBestQuestionSaid : Prop := fnExactBestQuestionRow.holds Try.pinned (OpenSpec.ofChange fnExactBestQuestionSpec)

/-- ITS FALSE NEIGHBOUR: 'it returns false'. Refute it at one input. -/
def fnExactBestQuestionWrong : ChangeSpec := { name := "fnExactBestQuestion", fn := fun _ => fun
  | [d] => { results := [.lit (.bool false)], args := [d] }
  | _ => none }
def FnExactBestQuestionWrongFalsely : Prop := fnExactBestQuestionRow.holds Try.pinned (OpenSpec.ofChange fnExactBestQuestionWrong)

/-- 'laws.FnExactQuestionNeed': WHATEVER THE INPUT: true; the input reads as it did. -/
def fnExactQuestionNeedSpec : ChangeSpec := { name := "fnExactQuestionNeed", fn := fun _ => fun
  | [d1, d2] => { results := [.lit (.bool true)], args := [d1, d2] }
  | _ => none }
def fnExactQuestionNeedRow : OpenClaim := { program := "ytmieognengfiiaa", sum := "e278976bc05d16c374b1b5e2740c8b6aea774bf19f72c459c0e4f0db43a3fecf", func := "loop.example/g01269/laws.FnExactQuestionNeed", spec := "fnExactQuestionNeed", recurses := true, plainKeys := false, apart := false }
def FnExactQuestionNeedSaid : Prop := fnExactQuestionNeedRow.holds Try.pinned (OpenSpec.ofChange fnExactQuestionNeedSpec)

/-- ITS FALSE NEIGHBOUR: 'it returns false'. Refute it at one input. -/
def fnExactQuestionNeedWrong : ChangeSpec := { name := "fnExactQuestionNeed", fn := fun _ => fun
  | [d1, d2] => { results := [.lit (.bool false)], args := [d1, d2] }
  | _ => none }
def FnExactQuestionNeedWrongFalsely : Prop := fnExactQuestionNeedRow.holds Try.pinned (OpenSpec.ofChange fnExactQuestionNeedWrong)

/-- 'laws.FnExactMostByNeed': WHATEVER THE INPUT: true; the input reads as it did. -/
def fnExactMostByNeedSpec : ChangeSpec := { name := "fnExactMostByNeed", fn := fun _ => fun
  | [d1, d2] => { results := [.lit (.bool true)], args := [d1, d2] }
  | _ => none }
def fnExactMostByNeedRow : OpenClaim := { program := "ytmieognengfiiaa", sum := "e278976bc05d16c374b1b5e2740c8b6aea774bf19f72c459c0e4f0db43a3fecf", func := "loop.example/g01269/laws.FnExactMostByNeed", spec := "fnExactMostByNeed", recurses := true, plainKeys := false, apart := false }
def FnExactMostByNeedSaid : Prop := fnExactMostByNeedRow.holds Try.pinned (OpenSpec.ofChange fnExactMostByNeedSpec)

/-- ITS FALSE NEIGHBOUR: 'it returns false'. Refute it at one input. -/
def fnExactMostByNeedWrong : ChangeSpec := { name := "fnExactMostByNeed", fn := fun _ => fun
  | [d1, d2] => { results := [.lit (.bool false)], args := [d1, d2] }
  | _ => none }
def FnExactMostByNeedWrongFalsely : Prop := fnExactMostByNeedRow.holds Try.pinned (OpenSpec.ofChange fnExactMostByNeedWrong)

/-- 'laws.FnExactNeedTable': WHATEVER THE INPUT: true; the input reads as it did. -/
def fnExactNeedTableSpec : ChangeSpec := { name := "fnExactNeedTable", fn := fun _ => fun
  | [d] => { results := [.lit (.bool true)], args := [d] }
  | _ => none }
def fnExactNeedTableRow : OpenClaim := { program := "ytmieognengfiiaa", sum := "e278976bc05d16c374b1b5e2740c8b6aea774bf19f72c459c0e4f0db43a3fecf", func := "loop.example/g01269/laws.FnExactNeedTable", spec := "fnExactNeedTable", recurses := true, plainKeys := false, apart := false }
def FnExactNeedTableSaid : Prop := fnExactNeedTableRow.holds Try.pinned (OpenSpec.ofChange fnExactNeedTableSpec)

/-- ITS FALSE NEIGHBOUR: 'it returns false'. Refute it at one input. -/
def fnExactNeedTableWrong : ChangeSpec := { name := "fnExactNeedTable", fn := fun _ => fun
  | [d] => { results := [.lit (.bool false)], args := [d] }
  | _ => none }
def FnExactNeedTableWrongFalsely : Prop := fnExactNeedTableRow.holds Try.pinned (OpenSpec.ofChange fnExactNeedTableWrong)

/- THE SECOND FORM. 'bulk': how many values and letters a reading holds, each counted each time it is reached (what is shared counts as often as it is met; a slice's spare places count too). A statement '..UptoSaid' is the law's where the arguments, and the package variables that the reading takes, are together of bulk at most 1048576: NARROWER than '..Said'. Prove '..Said' where nothing that the law and all that it calls make is longer than what came in: it says more and counts as full. Else prove '..UptoSaid'. A law counts once. -/
mutual
def uptoBulk {H : Type} : DataW H → Nat
  | .lit (.string bytes) => bytes.length + 1
  | .lit _ => 1
  | .nil => 1
  | .ptr d => uptoBulk d + 1
  | .slice elems spare => uptoBulkAll elems + uptoBulkAll spare + 1
  | .agg parts => uptoBulkAll parts + 1
  | .iface _ d => uptoBulk d + 1
  | .map entries => uptoBulkEntries entries + 1
  | .held _ => 1
def uptoBulkAll {H : Type} : List (DataW H) → Nat
  | [] => 0
  | d :: r => uptoBulk d + uptoBulkAll r
def uptoBulkEntries {H : Type} : List (Lit × DataW H) → Nat
  | [] => 0
  | x :: r => uptoBulkEntry x + uptoBulkEntries r
def uptoBulkEntry {H : Type} : Lit × DataW H → Nat
  | (.string bytes, d) => bytes.length + uptoBulk d + 1
  | (_, d) => uptoBulk d + 1
 end
def uptoSmall : (H : Type) → List (DataW H) → Bool := fun _ ds => decide (uptoBulkAll ds ≤ 1048576)
def OpenSpec.upto (s : _root_.Go.ChangeSpec) : _root_.Go.OpenSpec := { _root_.Go.OpenSpec.ofChange s with cond := some uptoSmall }

/-- 'laws.FnExactAreCounts', WHERE WHAT IT READS IS OF BULK AT MOST 1048576: true; the input reads as it did. -/
def fnExactAreCountsUptoRow : OpenClaim := { program := "ytmieognengfiiaa", sum := "e278976bc05d16c374b1b5e2740c8b6aea774bf19f72c459c0e4f0db43a3fecf", func := "loop.example/g01269/laws.FnExactAreCounts", spec := "fnExactAreCounts", plainKeys := false, apart := false, narrowed := true }
def FnExactAreCountsUptoSaid : Prop := fnExactAreCountsUptoRow.holds Try.pinned (OpenSpec.upto fnExactAreCountsSpec)

/-- 'laws.FnExactYesCounts', WHERE WHAT IT READS IS OF BULK AT MOST 1048576: true; the input reads as it did. -/
def fnExactYesCountsUptoRow : OpenClaim := { program := "ytmieognengfiiaa", sum := "e278976bc05d16c374b1b5e2740c8b6aea774bf19f72c459c0e4f0db43a3fecf", func := "loop.example/g01269/laws.FnExactYesCounts", spec := "fnExactYesCounts", plainKeys := false, apart := false, narrowed := true }
def FnExactYesCountsUptoSaid : Prop := fnExactYesCountsUptoRow.holds Try.pinned (OpenSpec.upto fnExactYesCountsSpec)

/-- 'laws.FnExactNoCounts', WHERE WHAT IT READS IS OF BULK AT MOST 1048576: true; the input reads as it did. -/
def fnExactNoCountsUptoRow : OpenClaim := { program := "ytmieognengfiiaa", sum := "e278976bc05d16c374b1b5e2740c8b6aea774bf19f72c459c0e4f0db43a3fecf", func := "loop.example/g01269/laws.FnExactNoCounts", spec := "fnExactNoCounts", plainKeys := false, apart := false, narrowed := true }
def FnExactNoCountsUptoSaid : Prop := fnExactNoCountsUptoRow.holds Try.pinned (OpenSpec.upto fnExactNoCountsSpec)

/-- 'laws.FnExactNeedOf', WHERE WHAT IT READS IS OF BULK AT MOST 1048576: true; the input reads as it did. -/
def fnExactNeedOfUptoRow : OpenClaim := { program := "ytmieognengfiiaa", sum := "e278976bc05d16c374b1b5e2740c8b6aea774bf19f72c459c0e4f0db43a3fecf", func := "loop.example/g01269/laws.FnExactNeedOf", spec := "fnExactNeedOf", recurses := true, plainKeys := false, apart := false, narrowed := true }
def FnExactNeedOfUptoSaid : Prop := fnExactNeedOfUptoRow.holds Try.pinned (OpenSpec.upto fnExactNeedOfSpec)

/-- 'laws.FnExactSplitNeed', WHERE WHAT IT READS IS OF BULK AT MOST 1048576: true; the input reads as it did. -/
def fnExactSplitNeedUptoRow : OpenClaim := { program := "ytmieognengfiiaa", sum := "e278976bc05d16c374b1b5e2740c8b6aea774bf19f72c459c0e4f0db43a3fecf", func := "loop.example/g01269/laws.FnExactSplitNeed", spec := "fnExactSplitNeed", recurses := true, plainKeys := false, apart := false, narrowed := true }
def FnExactSplitNeedUptoSaid : Prop := fnExactSplitNeedUptoRow.holds Try.pinned (OpenSpec.upto fnExactSplitNeedSpec)

/-- 'laws.FnExactBestSplit', WHERE WHAT IT READS IS OF BULK AT MOST 1048576: true; the input reads as it did. -/
def fnExactBestSplitUptoRow : OpenClaim := { program := "ytmieognengfiiaa", sum := "e278976bc05d16c374b1b5e2740c8b6aea774bf19f72c459c0e4f0db43a3fecf", func := "loop.example/g01269/laws.FnExactBestSplit", spec := "fnExactBestSplit", recurses := true, plainKeys := false, apart := false, narrowed := true }
def FnExactBestSplitUptoSaid : Prop := fnExactBestSplitUptoRow.holds Try.pinned (OpenSpec.upto fnExactBestSplitSpec)

/-- 'laws.FnExactCountBestSplits', WHERE WHAT IT READS IS OF BULK AT MOST 1048576: true; the input reads as it did. -/
def fnExactCountBestSplitsUptoRow : OpenClaim := { program := "ytmieognengfiiaa", sum := "e278976bc05d16c374b1b5e2740c8b6aea774bf19f72c459c0e4f0db43a3fecf", func := "loop.example/g01269/laws.FnExactCountBestSplits", spec := "fnExactCountBestSplits", recurses := true, plainKeys := false, apart := false, narrowed := true }
def FnExactCountBestSplitsUptoSaid : Prop := fnExactCountBestSplitsUptoRow.holds Try.pinned (OpenSpec.upto fnExactCountBestSplitsSpec)

/-- 'laws.FnExactBestQuestion', WHERE WHAT IT READS IS OF BULK AT MOST 1048576: true; the input reads as it did. -/
def fnExactBestQuestionUptoRow : OpenClaim := { program := "ytmieognengfiiaa", sum := "e278976bc05d16c374b1b5e2740c8b6aea774bf19f72c459c0e4f0db43a3fecf", func := "loop.example/g01269/laws.FnExactBestQuestion", spec := "fnExactBestQuestion", recurses := true, plainKeys := false, apart := false, narrowed := true }
def FnExactBestQuestionUptoSaid : Prop := fnExactBestQuestionUptoRow.holds Try.pinned (OpenSpec.upto fnExactBestQuestionSpec)

/-- 'laws.FnExactQuestionNeed', WHERE WHAT IT READS IS OF BULK AT MOST 1048576: true; the input reads as it did. -/
def fnExactQuestionNeedUptoRow : OpenClaim := { program := "ytmieognengfiiaa", sum := "e278976bc05d16c374b1b5e2740c8b6aea774bf19f72c459c0e4f0db43a3fecf", func := "loop.example/g01269/laws.FnExactQuestionNeed", spec := "fnExactQuestionNeed", recurses := true, plainKeys := false, apart := false, narrowed := true }
def FnExactQuestionNeedUptoSaid : Prop := fnExactQuestionNeedUptoRow.holds Try.pinned (OpenSpec.upto fnExactQuestionNeedSpec)

/-- 'laws.FnExactMostByNeed', WHERE WHAT IT READS IS OF BULK AT MOST 1048576: true; the input reads as it did. -/
def fnExactMostByNeedUptoRow : OpenClaim := { program := "ytmieognengfiiaa", sum := "e278976bc05d16c374b1b5e2740c8b6aea774bf19f72c459c0e4f0db43a3fecf", func := "loop.example/g01269/laws.FnExactMostByNeed", spec := "fnExactMostByNeed", recurses := true, plainKeys := false, apart := false, narrowed := true }
def FnExactMostByNeedUptoSaid : Prop := fnExactMostByNeedUptoRow.holds Try.pinned (OpenSpec.upto fnExactMostByNeedSpec)

/-- 'laws.FnExactNeedTable', WHERE WHAT IT READS IS OF BULK AT MOST 1048576: true; the input reads as it did. -/
def fnExactNeedTableUptoRow : OpenClaim := { program := "ytmieognengfiiaa", sum := "e278976bc05d16c374b1b5e2740c8b6aea774bf19f72c459c0e4f0db43a3fecf", func := "loop.example/g01269/laws.FnExactNeedTable", spec := "fnExactNeedTable", recurses := true, plainKeys := false, apart := false, narrowed := true }
def FnExactNeedTableUptoSaid : Prop := fnExactNeedTableUptoRow.holds Try.pinned (OpenSpec.upto fnExactNeedTableSpec)

end Rows
end Go.Proofs.Ytmieognengfiiaa
