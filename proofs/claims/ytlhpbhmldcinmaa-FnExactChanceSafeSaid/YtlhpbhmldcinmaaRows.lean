/-
  No cell of these rows narrows 'for every input' (looked for: loops, veiled, ifaces, maps, wideKeys, modest, calm, conditions, laid).
  DERIVED. THE GIVEN ROWS OF THIS SEAT. 12 by the template 'for every input the law returns true; each argument reads behind the call as it read before'; 0 by the template 'total and deterministic' (their statements: YtlhpbhmldcinmaaTotals.lean).
  GIVEN WITH THE SEED: the statements are not yours to turn. If you find one false, say at which input.
  Laid BY PROGRAM, IN A SANDBOX (cutbox-rows.mjs): the forced cells as the released guide's own fill.sh prints them over the translation df85ddcb18a248da… (all of the seat's roots in one cut). By AI agents, Wed Nov 11 2026. No macro, syntax, notation, axiom, sorry.
-/
import Derived.Test.YtlhpbhmldcinmaaChecked
import GoSem.Claim
import GoSem.ClaimJoined
import GoSem.ClaimMapViews
import Derived.JoinedTies
import Derived.KernelRfl
namespace Go.Proofs.Ytlhpbhmldcinmaa
/- THE CELL 'sum', in the pinned program and in every row, IS THE sha256 OF THE DUMP (.gsa) THAT YtlhpbhmldcinmaaProg.lean LOADS. Nothing in Lean hashes anything: it is a label: what it is worth is what the hold of that sum in a sandbox is worth. -/
noncomputable def Try.pinned : Pinned := { name := "ytlhpbhmldcinmaa", sum := "df85ddcb18a248dae32c9fcc1f50533d919c5cc6b8530b6e4ccb49710bf81150", checked := Try.checked }
namespace Rows
def none {H : Type} : Left H := { results := [], args := [] }

/-- 'laws.FnExactIsDoubt': WHATEVER THE INPUT: true; the input reads as it did. -/
def fnExactIsDoubtSpec : ChangeSpec := { name := "fnExactIsDoubt", fn := fun _ => fun
  | [d] => { results := [.lit (.bool true)], args := [d] }
  | _ => none }
def fnExactIsDoubtRow : OpenClaim := { program := "ytlhpbhmldcinmaa", sum := "df85ddcb18a248dae32c9fcc1f50533d919c5cc6b8530b6e4ccb49710bf81150", func := "loop.example/g01269/laws.FnExactIsDoubt", spec := "fnExactIsDoubt", plainKeys := false, apart := false }
def FnExactIsDoubtSaid : Prop := fnExactIsDoubtRow.holds Try.pinned (OpenSpec.ofChange fnExactIsDoubtSpec)

/-- ITS FALSE NEIGHBOUR: 'it returns false'. Refute it at one input. -/
def fnExactIsDoubtWrong : ChangeSpec := { name := "fnExactIsDoubt", fn := fun _ => fun
  | [d] => { results := [.lit (.bool false)], args := [d] }
  | _ => none }
def FnExactIsDoubtWrongFalsely : Prop := fnExactIsDoubtRow.holds Try.pinned (OpenSpec.ofChange fnExactIsDoubtWrong)

/-- 'laws.FnExactChanceFalse': WHATEVER THE INPUT: true; the input reads as it did. -/
def fnExactChanceFalseSpec : ChangeSpec := { name := "fnExactChanceFalse", fn := fun _ => fun
  | [d1, d2, d3] => { results := [.lit (.bool true)], args := [d1, d2, d3] }
  | _ => none }
def fnExactChanceFalseRow : OpenClaim := { program := "ytlhpbhmldcinmaa", sum := "df85ddcb18a248dae32c9fcc1f50533d919c5cc6b8530b6e4ccb49710bf81150", func := "loop.example/g01269/laws.FnExactChanceFalse", spec := "fnExactChanceFalse", unfollowed := true, recurses := true, plainKeys := false, apart := false }
def FnExactChanceFalseSaid : Prop := fnExactChanceFalseRow.holds Try.pinned (OpenSpec.ofChange fnExactChanceFalseSpec)

/-- ITS FALSE NEIGHBOUR: 'it returns false'. Refute it at one input. -/
def fnExactChanceFalseWrong : ChangeSpec := { name := "fnExactChanceFalse", fn := fun _ => fun
  | [d1, d2, d3] => { results := [.lit (.bool false)], args := [d1, d2, d3] }
  | _ => none }
def FnExactChanceFalseWrongFalsely : Prop := fnExactChanceFalseRow.holds Try.pinned (OpenSpec.ofChange fnExactChanceFalseWrong)

/-- 'laws.FnExactChanceWithin': WHATEVER THE INPUT: true; the input reads as it did. -/
def fnExactChanceWithinSpec : ChangeSpec := { name := "fnExactChanceWithin", fn := fun _ => fun
  | [d1, d2, d3] => { results := [.lit (.bool true)], args := [d1, d2, d3] }
  | _ => none }
def fnExactChanceWithinRow : OpenClaim := { program := "ytlhpbhmldcinmaa", sum := "df85ddcb18a248dae32c9fcc1f50533d919c5cc6b8530b6e4ccb49710bf81150", func := "loop.example/g01269/laws.FnExactChanceWithin", spec := "fnExactChanceWithin", unfollowed := true, recurses := true, plainKeys := false, apart := false }
def FnExactChanceWithinSaid : Prop := fnExactChanceWithinRow.holds Try.pinned (OpenSpec.ofChange fnExactChanceWithinSpec)

/-- ITS FALSE NEIGHBOUR: 'it returns false'. Refute it at one input. -/
def fnExactChanceWithinWrong : ChangeSpec := { name := "fnExactChanceWithin", fn := fun _ => fun
  | [d1, d2, d3] => { results := [.lit (.bool false)], args := [d1, d2, d3] }
  | _ => none }
def FnExactChanceWithinWrongFalsely : Prop := fnExactChanceWithinRow.holds Try.pinned (OpenSpec.ofChange fnExactChanceWithinWrong)

/-- 'laws.FnExactMeanFalse': WHATEVER THE INPUT: true; the input reads as it did. -/
def fnExactMeanFalseSpec : ChangeSpec := { name := "fnExactMeanFalse", fn := fun _ => fun
  | [d1, d2] => { results := [.lit (.bool true)], args := [d1, d2] }
  | _ => none }
def fnExactMeanFalseRow : OpenClaim := { program := "ytlhpbhmldcinmaa", sum := "df85ddcb18a248dae32c9fcc1f50533d919c5cc6b8530b6e4ccb49710bf81150", func := "loop.example/g01269/laws.FnExactMeanFalse", spec := "fnExactMeanFalse", unfollowed := true, recurses := true, plainKeys := false, apart := false }
def FnExactMeanFalseSaid : Prop := fnExactMeanFalseRow.holds Try.pinned (OpenSpec.ofChange fnExactMeanFalseSpec)

/-- ITS FALSE NEIGHBOUR: 'it returns false'. Refute it at one input. -/
def fnExactMeanFalseWrong : ChangeSpec := { name := "fnExactMeanFalse", fn := fun _ => fun
  | [d1, d2] => { results := [.lit (.bool false)], args := [d1, d2] }
  | _ => none }
def FnExactMeanFalseWrongFalsely : Prop := fnExactMeanFalseRow.holds Try.pinned (OpenSpec.ofChange fnExactMeanFalseWrong)

/-- 'laws.FnExactChancesAfter': WHATEVER THE INPUT: true; the input reads as it did. -/
def fnExactChancesAfterSpec : ChangeSpec := { name := "fnExactChancesAfter", fn := fun _ => fun
  | [d1, d2, d3] => { results := [.lit (.bool true)], args := [d1, d2, d3] }
  | _ => none }
def fnExactChancesAfterRow : OpenClaim := { program := "ytlhpbhmldcinmaa", sum := "df85ddcb18a248dae32c9fcc1f50533d919c5cc6b8530b6e4ccb49710bf81150", func := "loop.example/g01269/laws.FnExactChancesAfter", spec := "fnExactChancesAfter", unfollowed := true, recurses := true, plainKeys := false, apart := false }
def FnExactChancesAfterSaid : Prop := fnExactChancesAfterRow.holds Try.pinned (OpenSpec.ofChange fnExactChancesAfterSpec)

/-- ITS FALSE NEIGHBOUR: 'it returns false'. Refute it at one input. -/
def fnExactChancesAfterWrong : ChangeSpec := { name := "fnExactChancesAfter", fn := fun _ => fun
  | [d1, d2, d3] => { results := [.lit (.bool false)], args := [d1, d2, d3] }
  | _ => none }
def FnExactChancesAfterWrongFalsely : Prop := fnExactChancesAfterRow.holds Try.pinned (OpenSpec.ofChange fnExactChancesAfterWrong)

/-- 'laws.FnExactLikeliestAfter': WHATEVER THE INPUT: true; the input reads as it did. -/
def fnExactLikeliestAfterSpec : ChangeSpec := { name := "fnExactLikeliestAfter", fn := fun _ => fun
  | [d1, d2, d3] => { results := [.lit (.bool true)], args := [d1, d2, d3] }
  | _ => none }
def fnExactLikeliestAfterRow : OpenClaim := { program := "ytlhpbhmldcinmaa", sum := "df85ddcb18a248dae32c9fcc1f50533d919c5cc6b8530b6e4ccb49710bf81150", func := "loop.example/g01269/laws.FnExactLikeliestAfter", spec := "fnExactLikeliestAfter", unfollowed := true, recurses := true, plainKeys := false, apart := false }
def FnExactLikeliestAfterSaid : Prop := fnExactLikeliestAfterRow.holds Try.pinned (OpenSpec.ofChange fnExactLikeliestAfterSpec)

/-- ITS FALSE NEIGHBOUR: 'it returns false'. Refute it at one input. -/
def fnExactLikeliestAfterWrong : ChangeSpec := { name := "fnExactLikeliestAfter", fn := fun _ => fun
  | [d1, d2, d3] => { results := [.lit (.bool false)], args := [d1, d2, d3] }
  | _ => none }
def FnExactLikeliestAfterWrongFalsely : Prop := fnExactLikeliestAfterRow.holds Try.pinned (OpenSpec.ofChange fnExactLikeliestAfterWrong)

/-- 'laws.FnExactChanceYes': WHATEVER THE INPUT: true; the input reads as it did. -/
def fnExactChanceYesSpec : ChangeSpec := { name := "fnExactChanceYes", fn := fun _ => fun
  | [d1, d2, d3, d4] => { results := [.lit (.bool true)], args := [d1, d2, d3, d4] }
  | _ => none }
def fnExactChanceYesRow : OpenClaim := { program := "ytlhpbhmldcinmaa", sum := "df85ddcb18a248dae32c9fcc1f50533d919c5cc6b8530b6e4ccb49710bf81150", func := "loop.example/g01269/laws.FnExactChanceYes", spec := "fnExactChanceYes", unfollowed := true, recurses := true, plainKeys := false, apart := false }
def FnExactChanceYesSaid : Prop := fnExactChanceYesRow.holds Try.pinned (OpenSpec.ofChange fnExactChanceYesSpec)

/-- ITS FALSE NEIGHBOUR: 'it returns false'. Refute it at one input. -/
def fnExactChanceYesWrong : ChangeSpec := { name := "fnExactChanceYes", fn := fun _ => fun
  | [d1, d2, d3, d4] => { results := [.lit (.bool false)], args := [d1, d2, d3, d4] }
  | _ => none }
def FnExactChanceYesWrongFalsely : Prop := fnExactChanceYesRow.holds Try.pinned (OpenSpec.ofChange fnExactChanceYesWrong)

/-- 'laws.FnExactEvenAfter': WHATEVER THE INPUT: true; the input reads as it did. -/
def fnExactEvenAfterSpec : ChangeSpec := { name := "fnExactEvenAfter", fn := fun _ => fun
  | [d1, d2, d3] => { results := [.lit (.bool true)], args := [d1, d2, d3] }
  | _ => none }
def fnExactEvenAfterRow : OpenClaim := { program := "ytlhpbhmldcinmaa", sum := "df85ddcb18a248dae32c9fcc1f50533d919c5cc6b8530b6e4ccb49710bf81150", func := "loop.example/g01269/laws.FnExactEvenAfter", spec := "fnExactEvenAfter", unfollowed := true, recurses := true, plainKeys := false, apart := false }
def FnExactEvenAfterSaid : Prop := fnExactEvenAfterRow.holds Try.pinned (OpenSpec.ofChange fnExactEvenAfterSpec)

/-- ITS FALSE NEIGHBOUR: 'it returns false'. Refute it at one input. -/
def fnExactEvenAfterWrong : ChangeSpec := { name := "fnExactEvenAfter", fn := fun _ => fun
  | [d1, d2, d3] => { results := [.lit (.bool false)], args := [d1, d2, d3] }
  | _ => none }
def FnExactEvenAfterWrongFalsely : Prop := fnExactEvenAfterRow.holds Try.pinned (OpenSpec.ofChange fnExactEvenAfterWrong)

/-- 'laws.FnExactChanceMajority': WHATEVER THE INPUT: true; the input reads as it did. -/
def fnExactChanceMajoritySpec : ChangeSpec := { name := "fnExactChanceMajority", fn := fun _ => fun
  | [d1, d2] => { results := [.lit (.bool true)], args := [d1, d2] }
  | _ => none }
def fnExactChanceMajorityRow : OpenClaim := { program := "ytlhpbhmldcinmaa", sum := "df85ddcb18a248dae32c9fcc1f50533d919c5cc6b8530b6e4ccb49710bf81150", func := "loop.example/g01269/laws.FnExactChanceMajority", spec := "fnExactChanceMajority", unfollowed := true, recurses := true, plainKeys := false, apart := false }
def FnExactChanceMajoritySaid : Prop := fnExactChanceMajorityRow.holds Try.pinned (OpenSpec.ofChange fnExactChanceMajoritySpec)

/-- ITS FALSE NEIGHBOUR: 'it returns false'. Refute it at one input. -/
def fnExactChanceMajorityWrong : ChangeSpec := { name := "fnExactChanceMajority", fn := fun _ => fun
  | [d1, d2] => { results := [.lit (.bool false)], args := [d1, d2] }
  | _ => none }
def FnExactChanceMajorityWrongFalsely : Prop := fnExactChanceMajorityRow.holds Try.pinned (OpenSpec.ofChange fnExactChanceMajorityWrong)

/-- 'laws.FnExactRepeatsFor': WHATEVER THE INPUT: true; the input reads as it did. -/
def fnExactRepeatsForSpec : ChangeSpec := { name := "fnExactRepeatsFor", fn := fun _ => fun
  | [d1, d2] => { results := [.lit (.bool true)], args := [d1, d2] }
  | _ => none }
def fnExactRepeatsForRow : OpenClaim := { program := "ytlhpbhmldcinmaa", sum := "df85ddcb18a248dae32c9fcc1f50533d919c5cc6b8530b6e4ccb49710bf81150", func := "loop.example/g01269/laws.FnExactRepeatsFor", spec := "fnExactRepeatsFor", unfollowed := true, recurses := true, plainKeys := false, apart := false }
def FnExactRepeatsForSaid : Prop := fnExactRepeatsForRow.holds Try.pinned (OpenSpec.ofChange fnExactRepeatsForSpec)

/-- ITS FALSE NEIGHBOUR: 'it returns false'. Refute it at one input. -/
def fnExactRepeatsForWrong : ChangeSpec := { name := "fnExactRepeatsFor", fn := fun _ => fun
  | [d1, d2] => { results := [.lit (.bool false)], args := [d1, d2] }
  | _ => none }
def FnExactRepeatsForWrongFalsely : Prop := fnExactRepeatsForRow.holds Try.pinned (OpenSpec.ofChange fnExactRepeatsForWrong)

/-- 'laws.FnExactChanceDecoded': WHATEVER THE INPUT: true; the input reads as it did. -/
def fnExactChanceDecodedSpec : ChangeSpec := { name := "fnExactChanceDecoded", fn := fun _ => fun
  | [d1, d2, d3] => { results := [.lit (.bool true)], args := [d1, d2, d3] }
  | _ => none }
def fnExactChanceDecodedRow : OpenClaim := { program := "ytlhpbhmldcinmaa", sum := "df85ddcb18a248dae32c9fcc1f50533d919c5cc6b8530b6e4ccb49710bf81150", func := "loop.example/g01269/laws.FnExactChanceDecoded", spec := "fnExactChanceDecoded", plainKeys := false, apart := false }
def FnExactChanceDecodedSaid : Prop := fnExactChanceDecodedRow.holds Try.pinned (OpenSpec.ofChange fnExactChanceDecodedSpec)

/-- ITS FALSE NEIGHBOUR: 'it returns false'. Refute it at one input. -/
def fnExactChanceDecodedWrong : ChangeSpec := { name := "fnExactChanceDecoded", fn := fun _ => fun
  | [d1, d2, d3] => { results := [.lit (.bool false)], args := [d1, d2, d3] }
  | _ => none }
def FnExactChanceDecodedWrongFalsely : Prop := fnExactChanceDecodedRow.holds Try.pinned (OpenSpec.ofChange fnExactChanceDecodedWrong)

/-- 'laws.FnExactChanceSafe': WHATEVER THE INPUT: true; the input reads as it did. -/
def fnExactChanceSafeSpec : ChangeSpec := { name := "fnExactChanceSafe", fn := fun _ => fun
  | [d1, d2, d3] => { results := [.lit (.bool true)], args := [d1, d2, d3] }
  | _ => none }
def fnExactChanceSafeRow : OpenClaim := { program := "ytlhpbhmldcinmaa", sum := "df85ddcb18a248dae32c9fcc1f50533d919c5cc6b8530b6e4ccb49710bf81150", func := "loop.example/g01269/laws.FnExactChanceSafe", spec := "fnExactChanceSafe", unfollowed := true, recurses := true, plainKeys := false, apart := false }
def FnExactChanceSafeSaid : Prop := fnExactChanceSafeRow.holds Try.pinned (OpenSpec.ofChange fnExactChanceSafeSpec)

/-- ITS FALSE NEIGHBOUR: 'it returns false'. Refute it at one input. -/
def fnExactChanceSafeWrong : ChangeSpec := { name := "fnExactChanceSafe", fn := fun _ => fun
  | [d1, d2, d3] => { results := [.lit (.bool false)], args := [d1, d2, d3] }
  | _ => none }
def FnExactChanceSafeWrongFalsely : Prop := fnExactChanceSafeRow.holds Try.pinned (OpenSpec.ofChange fnExactChanceSafeWrong)

/- THE SECOND FORM. 'bulk': how many values and letters a reading holds, each counted each time it is reached (what is shared counts as often as it is met; a slice's spare places count too). A statement '..UptoSaid' is the law's where the arguments, and the package variables that the reading takes, are together of bulk at most 1048576: NARROWER than '..Said'. Prove '..Said' where nothing that the law and all that it calls make is longer than what came in: it says more and counts as full. Else prove '..UptoSaid'. A law counts once. -/
mutual
def uptoBulk {H : Type} : DataW H → Nat
  | .lit (.string bytes) => bytes.length + 1
  | .lit _ => 1
  | .nil => 1
  | .ptr d => uptoBulk d + 1
  | .slice elems spare => uptoBulkAll elems + uptoBulkAll spare + 1
  | .agg parts => uptoBulkAll parts + 1
  | .iface _ d => uptoBulk d + 1
  | .map entries => uptoBulkEntries entries + 1
  | .held _ => 1
def uptoBulkAll {H : Type} : List (DataW H) → Nat
  | [] => 0
  | d :: r => uptoBulk d + uptoBulkAll r
def uptoBulkEntries {H : Type} : List (Lit × DataW H) → Nat
  | [] => 0
  | x :: r => uptoBulkEntry x + uptoBulkEntries r
def uptoBulkEntry {H : Type} : Lit × DataW H → Nat
  | (.string bytes, d) => bytes.length + uptoBulk d + 1
  | (_, d) => uptoBulk d + 1
 end
def uptoSmall : (H : Type) → List (DataW H) → Bool := fun _ ds => decide (uptoBulkAll ds ≤ 1048576)
def OpenSpec.upto (s : _root_.Go.ChangeSpec) : _root_.Go.OpenSpec := { _root_.Go.OpenSpec.ofChange s with cond := some uptoSmall }

/-- 'laws.FnExactIsDoubt', WHERE WHAT IT READS IS OF BULK AT MOST 1048576: true; the input reads as it did. -/
def fnExactIsDoubtUptoRow : OpenClaim := { program := "ytlhpbhmldcinmaa", sum := "df85ddcb18a248dae32c9fcc1f50533d919c5cc6b8530b6e4ccb49710bf81150", func := "loop.example/g01269/laws.FnExactIsDoubt", spec := "fnExactIsDoubt", plainKeys := false, apart := false, narrowed := true }
def FnExactIsDoubtUptoSaid : Prop := fnExactIsDoubtUptoRow.holds Try.pinned (OpenSpec.upto fnExactIsDoubtSpec)

/-- 'laws.FnExactChanceFalse', WHERE WHAT IT READS IS OF BULK AT MOST 1048576: true; the input reads as it did. -/
def fnExactChanceFalseUptoRow : OpenClaim := { program := "ytlhpbhmldcinmaa", sum := "df85ddcb18a248dae32c9fcc1f50533d919c5cc6b8530b6e4ccb49710bf81150", func := "loop.example/g01269/laws.FnExactChanceFalse", spec := "fnExactChanceFalse", unfollowed := true, recurses := true, plainKeys := false, apart := false, narrowed := true }
def FnExactChanceFalseUptoSaid : Prop := fnExactChanceFalseUptoRow.holds Try.pinned (OpenSpec.upto fnExactChanceFalseSpec)

/-- 'laws.FnExactChanceWithin', WHERE WHAT IT READS IS OF BULK AT MOST 1048576: true; the input reads as it did. -/
def fnExactChanceWithinUptoRow : OpenClaim := { program := "ytlhpbhmldcinmaa", sum := "df85ddcb18a248dae32c9fcc1f50533d919c5cc6b8530b6e4ccb49710bf81150", func := "loop.example/g01269/laws.FnExactChanceWithin", spec := "fnExactChanceWithin", unfollowed := true, recurses := true, plainKeys := false, apart := false, narrowed := true }
def FnExactChanceWithinUptoSaid : Prop := fnExactChanceWithinUptoRow.holds Try.pinned (OpenSpec.upto fnExactChanceWithinSpec)

/-- 'laws.FnExactMeanFalse', WHERE WHAT IT READS IS OF BULK AT MOST 1048576: true; the input reads as it did. -/
def fnExactMeanFalseUptoRow : OpenClaim := { program := "ytlhpbhmldcinmaa", sum := "df85ddcb18a248dae32c9fcc1f50533d919c5cc6b8530b6e4ccb49710bf81150", func := "loop.example/g01269/laws.FnExactMeanFalse", spec := "fnExactMeanFalse", unfollowed := true, recurses := true, plainKeys := false, apart := false, narrowed := true }
def FnExactMeanFalseUptoSaid : Prop := fnExactMeanFalseUptoRow.holds Try.pinned (OpenSpec.upto fnExactMeanFalseSpec)

/-- 'laws.FnExactChancesAfter', WHERE WHAT IT READS IS OF BULK AT MOST 1048576: true; the input reads as it did. -/
def fnExactChancesAfterUptoRow : OpenClaim := { program := "ytlhpbhmldcinmaa", sum := "df85ddcb18a248dae32c9fcc1f50533d919c5cc6b8530b6e4ccb49710bf81150", func := "loop.example/g01269/laws.FnExactChancesAfter", spec := "fnExactChancesAfter", unfollowed := true, recurses := true, plainKeys := false, apart := false, narrowed := true }
def FnExactChancesAfterUptoSaid : Prop := fnExactChancesAfterUptoRow.holds Try.pinned (OpenSpec.upto fnExactChancesAfterSpec)

/-- 'laws.FnExactLikeliestAfter', WHERE WHAT IT READS IS OF BULK AT MOST 1048576: true; the input reads as it did. -/
def fnExactLikeliestAfterUptoRow : OpenClaim := { program := "ytlhpbhmldcinmaa", sum := "df85ddcb18a248dae32c9fcc1f50533d919c5cc6b8530b6e4ccb49710bf81150", func := "loop.example/g01269/laws.FnExactLikeliestAfter", spec := "fnExactLikeliestAfter", unfollowed := true, recurses := true, plainKeys := false, apart := false, narrowed := true }
def FnExactLikeliestAfterUptoSaid : Prop := fnExactLikeliestAfterUptoRow.holds Try.pinned (OpenSpec.upto fnExactLikeliestAfterSpec)

/-- 'laws.FnExactChanceYes', WHERE WHAT IT READS IS OF BULK AT MOST 1048576: true; the input reads as it did. -/
def fnExactChanceYesUptoRow : OpenClaim := { program := "ytlhpbhmldcinmaa", sum := "df85ddcb18a248dae32c9fcc1f50533d919c5cc6b8530b6e4ccb49710bf81150", func := "loop.example/g01269/laws.FnExactChanceYes", spec := "fnExactChanceYes", unfollowed := true, recurses := true, plainKeys := false, apart := false, narrowed := true }
def FnExactChanceYesUptoSaid : Prop := fnExactChanceYesUptoRow.holds Try.pinned (OpenSpec.upto fnExactChanceYesSpec)

/-- 'laws.FnExactEvenAfter', WHERE WHAT IT READS IS OF BULK AT MOST 1048576: true; the input reads as it did. -/
def fnExactEvenAfterUptoRow : OpenClaim := { program := "ytlhpbhmldcinmaa", sum := "df85ddcb18a248dae32c9fcc1f50533d919c5cc6b8530b6e4ccb49710bf81150", func := "loop.example/g01269/laws.FnExactEvenAfter", spec := "fnExactEvenAfter", unfollowed := true, recurses := true, plainKeys := false, apart := false, narrowed := true }
def FnExactEvenAfterUptoSaid : Prop := fnExactEvenAfterUptoRow.holds Try.pinned (OpenSpec.upto fnExactEvenAfterSpec)

/-- 'laws.FnExactChanceMajority', WHERE WHAT IT READS IS OF BULK AT MOST 1048576: true; the input reads as it did. -/
def fnExactChanceMajorityUptoRow : OpenClaim := { program := "ytlhpbhmldcinmaa", sum := "df85ddcb18a248dae32c9fcc1f50533d919c5cc6b8530b6e4ccb49710bf81150", func := "loop.example/g01269/laws.FnExactChanceMajority", spec := "fnExactChanceMajority", unfollowed := true, recurses := true, plainKeys := false, apart := false, narrowed := true }
def FnExactChanceMajorityUptoSaid : Prop := fnExactChanceMajorityUptoRow.holds Try.pinned (OpenSpec.upto fnExactChanceMajoritySpec)

/-- 'laws.FnExactRepeatsFor', WHERE WHAT IT READS IS OF BULK AT MOST 1048576: true; the input reads as it did. -/
def fnExactRepeatsForUptoRow : OpenClaim := { program := "ytlhpbhmldcinmaa", sum := "df85ddcb18a248dae32c9fcc1f50533d919c5cc6b8530b6e4ccb49710bf81150", func := "loop.example/g01269/laws.FnExactRepeatsFor", spec := "fnExactRepeatsFor", unfollowed := true, recurses := true, plainKeys := false, apart := false, narrowed := true }
def FnExactRepeatsForUptoSaid : Prop := fnExactRepeatsForUptoRow.holds Try.pinned (OpenSpec.upto fnExactRepeatsForSpec)

/-- 'laws.FnExactChanceDecoded', WHERE WHAT IT READS IS OF BULK AT MOST 1048576: true; the input reads as it did. -/
def fnExactChanceDecodedUptoRow : OpenClaim := { program := "ytlhpbhmldcinmaa", sum := "df85ddcb18a248dae32c9fcc1f50533d919c5cc6b8530b6e4ccb49710bf81150", func := "loop.example/g01269/laws.FnExactChanceDecoded", spec := "fnExactChanceDecoded", plainKeys := false, apart := false, narrowed := true }
def FnExactChanceDecodedUptoSaid : Prop := fnExactChanceDecodedUptoRow.holds Try.pinned (OpenSpec.upto fnExactChanceDecodedSpec)

/-- 'laws.FnExactChanceSafe', WHERE WHAT IT READS IS OF BULK AT MOST 1048576: true; the input reads as it did. -/
def fnExactChanceSafeUptoRow : OpenClaim := { program := "ytlhpbhmldcinmaa", sum := "df85ddcb18a248dae32c9fcc1f50533d919c5cc6b8530b6e4ccb49710bf81150", func := "loop.example/g01269/laws.FnExactChanceSafe", spec := "fnExactChanceSafe", unfollowed := true, recurses := true, plainKeys := false, apart := false, narrowed := true }
def FnExactChanceSafeUptoSaid : Prop := fnExactChanceSafeUptoRow.holds Try.pinned (OpenSpec.upto fnExactChanceSafeSpec)

end Rows
end Go.Proofs.Ytlhpbhmldcinmaa
