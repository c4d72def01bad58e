/-
  No cell of these rows narrows 'for every input' (looked for: loops, veiled, ifaces, maps, wideKeys, modest, calm, conditions, laid).
  DERIVED. THE GIVEN ROWS OF THIS SEAT. 9 by the template 'for every input the law returns true; each argument reads behind the call as it read before'; 0 by the template 'total and deterministic' (their statements: YthjkmfjhcohhbabTotals.lean).
  GIVEN WITH THE SEED: the statements are not yours to turn. If you find one false, say at which input.
  Laid BY PROGRAM, IN A SANDBOX (cutbox-rows.mjs): the forced cells as the released guide's own fill.sh prints them over the translation 17aa31d530eebde2… (all of the seat's roots in one cut). By AI agents, Wed Nov 11 2026. No macro, syntax, notation, axiom, sorry.
-/
import Derived.Test.YthjkmfjhcohhbabChecked
import GoSem.Claim
import GoSem.ClaimJoined
import GoSem.ClaimMapViews
import Derived.JoinedTies
import Derived.KernelRfl
namespace Go.Proofs.Ythjkmfjhcohhbab
/- THE CELL 'sum', in the pinned program and in every row, IS THE sha256 OF THE DUMP (.gsa) THAT YthjkmfjhcohhbabProg.lean LOADS. Nothing in Lean hashes anything: it is a label: what it is worth is what the hold of that sum in a sandbox is worth. -/
noncomputable def Try.pinned : Pinned := { name := "ythjkmfjhcohhbab", sum := "17aa31d530eebde2ebba20fadafa7c60a3cd5aab220df6b2e1801597897c992e", checked := Try.checked }
namespace Rows
def none {H : Type} : Left H := { results := [], args := [] }

/-- 'laws.FnExactRepeatScheme': WHATEVER THE INPUT: true; the input reads as it did. -/
def fnExactRepeatSchemeSpec : ChangeSpec := { name := "fnExactRepeatScheme", fn := fun _ => fun
  | [d1, d2, d3] => { results := [.lit (.bool true)], args := [d1, d2, d3] }
  | _ => none }
def fnExactRepeatSchemeRow : OpenClaim := { program := "ythjkmfjhcohhbab", sum := "17aa31d530eebde2ebba20fadafa7c60a3cd5aab220df6b2e1801597897c992e", func := "loop.example/g01269/laws.FnExactRepeatScheme", spec := "fnExactRepeatScheme", plainKeys := false, apart := false }
def FnExactRepeatSchemeSaid : Prop := fnExactRepeatSchemeRow.holds Try.pinned (OpenSpec.ofChange fnExactRepeatSchemeSpec)

/-- ITS FALSE NEIGHBOUR: 'it returns false'. Refute it at one input. -/
def fnExactRepeatSchemeWrong : ChangeSpec := { name := "fnExactRepeatScheme", fn := fun _ => fun
  | [d1, d2, d3] => { results := [.lit (.bool false)], args := [d1, d2, d3] }
  | _ => none }
def FnExactRepeatSchemeWrongFalsely : Prop := fnExactRepeatSchemeRow.holds Try.pinned (OpenSpec.ofChange fnExactRepeatSchemeWrong)

/-- 'laws.FnExactDropFixed': WHATEVER THE INPUT: true; the input reads as it did. -/
def fnExactDropFixedSpec : ChangeSpec := { name := "fnExactDropFixed", fn := fun _ => fun
  | [d1, d2, d3] => { results := [.lit (.bool true)], args := [d1, d2, d3] }
  | _ => none }
def fnExactDropFixedRow : OpenClaim := { program := "ythjkmfjhcohhbab", sum := "17aa31d530eebde2ebba20fadafa7c60a3cd5aab220df6b2e1801597897c992e", func := "loop.example/g01269/laws.FnExactDropFixed", spec := "fnExactDropFixed", plainKeys := false, apart := false }
def FnExactDropFixedSaid : Prop := fnExactDropFixedRow.holds Try.pinned (OpenSpec.ofChange fnExactDropFixedSpec)

/-- ITS FALSE NEIGHBOUR: 'it returns false'. Refute it at one input. -/
def fnExactDropFixedWrong : ChangeSpec := { name := "fnExactDropFixed", fn := fun _ => fun
  | [d1, d2, d3] => { results := [.lit (.bool false)], args := [d1, d2, d3] }
  | _ => none }
def FnExactDropFixedWrongFalsely : Prop := fnExactDropFixedRow.holds Try.pinned (OpenSpec.ofChange fnExactDropFixedWrong)

/-- 'laws.FnSchemes': WHATEVER THE INPUT: true; the input reads as it did. -/
def fnSchemesSpec : ChangeSpec := { name := "fnSchemes", fn := fun _ => fun
  | [d] => { results := [.lit (.bool true)], args := [d] }
  | _ => none }
def fnSchemesRow : OpenClaim := { program := "ythjkmfjhcohhbab", sum := "17aa31d530eebde2ebba20fadafa7c60a3cd5aab220df6b2e1801597897c992e", func := "loop.example/g01269/laws.FnSchemes", spec := "fnSchemes", recurses := true, plainKeys := false, apart := false }
def FnSchemesSaid : Prop := fnSchemesRow.holds Try.pinned (OpenSpec.ofChange fnSchemesSpec)

/-- ITS FALSE NEIGHBOUR: 'it returns false'. Refute it at one input. -/
def fnSchemesWrong : ChangeSpec := { name := "fnSchemes", fn := fun _ => fun
  | [d] => { results := [.lit (.bool false)], args := [d] }
  | _ => none }
def FnSchemesWrongFalsely : Prop := fnSchemesRow.holds Try.pinned (OpenSpec.ofChange fnSchemesWrong)

/-- 'laws.FnNearNumbers': WHATEVER THE INPUT: true; the input reads as it did. -/
def fnNearNumbersSpec : ChangeSpec := { name := "fnNearNumbers", fn := fun _ => fun
  | [d] => { results := [.lit (.bool true)], args := [d] }
  | _ => none }
def fnNearNumbersRow : OpenClaim := { program := "ythjkmfjhcohhbab", sum := "17aa31d530eebde2ebba20fadafa7c60a3cd5aab220df6b2e1801597897c992e", func := "loop.example/g01269/laws.FnNearNumbers", spec := "fnNearNumbers", recurses := true, plainKeys := false, apart := false }
def FnNearNumbersSaid : Prop := fnNearNumbersRow.holds Try.pinned (OpenSpec.ofChange fnNearNumbersSpec)

/-- ITS FALSE NEIGHBOUR: 'it returns false'. Refute it at one input. -/
def fnNearNumbersWrong : ChangeSpec := { name := "fnNearNumbers", fn := fun _ => fun
  | [d] => { results := [.lit (.bool false)], args := [d] }
  | _ => none }
def FnNearNumbersWrongFalsely : Prop := fnNearNumbersRow.holds Try.pinned (OpenSpec.ofChange fnNearNumbersWrong)

/-- 'laws.FnMadeSchemes': WHATEVER THE INPUT: true; the input reads as it did. -/
def fnMadeSchemesSpec : ChangeSpec := { name := "fnMadeSchemes", fn := fun _ => fun
  | [d] => { results := [.lit (.bool true)], args := [d] }
  | _ => none }
def fnMadeSchemesRow : OpenClaim := { program := "ythjkmfjhcohhbab", sum := "17aa31d530eebde2ebba20fadafa7c60a3cd5aab220df6b2e1801597897c992e", func := "loop.example/g01269/laws.FnMadeSchemes", spec := "fnMadeSchemes", plainKeys := false, apart := false }
def FnMadeSchemesSaid : Prop := fnMadeSchemesRow.holds Try.pinned (OpenSpec.ofChange fnMadeSchemesSpec)

/-- ITS FALSE NEIGHBOUR: 'it returns false'. Refute it at one input. -/
def fnMadeSchemesWrong : ChangeSpec := { name := "fnMadeSchemes", fn := fun _ => fun
  | [d] => { results := [.lit (.bool false)], args := [d] }
  | _ => none }
def FnMadeSchemesWrongFalsely : Prop := fnMadeSchemesRow.holds Try.pinned (OpenSpec.ofChange fnMadeSchemesWrong)

/-- 'laws.FnNeeds': WHATEVER THE INPUT: true; the input reads as it did. -/
def fnNeedsSpec : ChangeSpec := { name := "fnNeeds", fn := fun _ => fun
  | [d] => { results := [.lit (.bool true)], args := [d] }
  | _ => none }
def fnNeedsRow : OpenClaim := { program := "ythjkmfjhcohhbab", sum := "17aa31d530eebde2ebba20fadafa7c60a3cd5aab220df6b2e1801597897c992e", func := "loop.example/g01269/laws.FnNeeds", spec := "fnNeeds", recurses := true, plainKeys := false, apart := false }
def FnNeedsSaid : Prop := fnNeedsRow.holds Try.pinned (OpenSpec.ofChange fnNeedsSpec)

/-- ITS FALSE NEIGHBOUR: 'it returns false'. Refute it at one input. -/
def fnNeedsWrong : ChangeSpec := { name := "fnNeeds", fn := fun _ => fun
  | [d] => { results := [.lit (.bool false)], args := [d] }
  | _ => none }
def FnNeedsWrongFalsely : Prop := fnNeedsRow.holds Try.pinned (OpenSpec.ofChange fnNeedsWrong)

/-- 'laws.FnBestQuestions': WHATEVER THE INPUT: true; the input reads as it did. -/
def fnBestQuestionsSpec : ChangeSpec := { name := "fnBestQuestions", fn := fun _ => fun
  | [d] => { results := [.lit (.bool true)], args := [d] }
  | _ => none }
def fnBestQuestionsRow : OpenClaim := { program := "ythjkmfjhcohhbab", sum := "17aa31d530eebde2ebba20fadafa7c60a3cd5aab220df6b2e1801597897c992e", func := "loop.example/g01269/laws.FnBestQuestions", spec := "fnBestQuestions", recurses := true, plainKeys := false, apart := false }
def FnBestQuestionsSaid : Prop := fnBestQuestionsRow.holds Try.pinned (OpenSpec.ofChange fnBestQuestionsSpec)

/-- ITS FALSE NEIGHBOUR: 'it returns false'. Refute it at one input. -/
def fnBestQuestionsWrong : ChangeSpec := { name := "fnBestQuestions", fn := fun _ => fun
  | [d] => { results := [.lit (.bool false)], args := [d] }
  | _ => none }
def FnBestQuestionsWrongFalsely : Prop := fnBestQuestionsRow.holds Try.pinned (OpenSpec.ofChange fnBestQuestionsWrong)

/-- 'laws.FnWeights': WHATEVER THE INPUT: true; the input reads as it did. -/
def fnWeightsSpec : ChangeSpec := { name := "fnWeights", fn := fun _ => fun
  | [d] => { results := [.lit (.bool true)], args := [d] }
  | _ => none }
def fnWeightsRow : OpenClaim := { program := "ythjkmfjhcohhbab", sum := "17aa31d530eebde2ebba20fadafa7c60a3cd5aab220df6b2e1801597897c992e", func := "loop.example/g01269/laws.FnWeights", spec := "fnWeights", plainKeys := false, apart := false }
def FnWeightsSaid : Prop := fnWeightsRow.holds Try.pinned (OpenSpec.ofChange fnWeightsSpec)

/-- ITS FALSE NEIGHBOUR: 'it returns false'. Refute it at one input. -/
def fnWeightsWrong : ChangeSpec := { name := "fnWeights", fn := fun _ => fun
  | [d] => { results := [.lit (.bool false)], args := [d] }
  | _ => none }
def FnWeightsWrongFalsely : Prop := fnWeightsRow.holds Try.pinned (OpenSpec.ofChange fnWeightsWrong)

/-- 'laws.FnQuestions': WHATEVER THE INPUT: true; the input reads as it did. -/
def fnQuestionsSpec : ChangeSpec := { name := "fnQuestions", fn := fun _ => fun
  | [d] => { results := [.lit (.bool true)], args := [d] }
  | _ => none }
def fnQuestionsRow : OpenClaim := { program := "ythjkmfjhcohhbab", sum := "17aa31d530eebde2ebba20fadafa7c60a3cd5aab220df6b2e1801597897c992e", func := "loop.example/g01269/laws.FnQuestions", spec := "fnQuestions", plainKeys := false, apart := false }
def FnQuestionsSaid : Prop := fnQuestionsRow.holds Try.pinned (OpenSpec.ofChange fnQuestionsSpec)

/-- ITS FALSE NEIGHBOUR: 'it returns false'. Refute it at one input. -/
def fnQuestionsWrong : ChangeSpec := { name := "fnQuestions", fn := fun _ => fun
  | [d] => { results := [.lit (.bool false)], args := [d] }
  | _ => none }
def FnQuestionsWrongFalsely : Prop := fnQuestionsRow.holds Try.pinned (OpenSpec.ofChange fnQuestionsWrong)

/- THE SECOND FORM. 'bulk': how many values and letters a reading holds, each counted each time it is reached (what is shared counts as often as it is met; a slice's spare places count too). A statement '..UptoSaid' is the law's where the arguments, and the package variables that the reading takes, are together of bulk at most 1048576: NARROWER than '..Said'. Prove '..Said' where nothing that the law and all that it calls make is longer than what came in: it says more and counts as full. Else prove '..UptoSaid'. A law counts once. -/
mutual
def uptoBulk {H : Type} : DataW H → Nat
  | .lit (.string bytes) => bytes.length + 1
  | .lit _ => 1
  | .nil => 1
  | .ptr d => uptoBulk d + 1
  | .slice elems spare => uptoBulkAll elems + uptoBulkAll spare + 1
  | .agg parts => uptoBulkAll parts + 1
  | .iface _ d => uptoBulk d + 1
  | .map entries => uptoBulkEntries entries + 1
  | .held _ => 1
def uptoBulkAll {H : Type} : List (DataW H) → Nat
  | [] => 0
  | d :: r => uptoBulk d + uptoBulkAll r
def uptoBulkEntries {H : Type} : List (Lit × DataW H) → Nat
  | [] => 0
  | x :: r => uptoBulkEntry x + uptoBulkEntries r
def uptoBulkEntry {H : Type} : Lit × DataW H → Nat
  | (.string bytes, d) => bytes.length + uptoBulk d + 1
  | (_, d) => uptoBulk d + 1
 end
def uptoSmall : (H : Type) → List (DataW H) → Bool := fun _ ds => decide (uptoBulkAll ds ≤ 1048576)
def OpenSpec.upto (s : _root_.Go.ChangeSpec) : _root_.Go.OpenSpec := { _root_.Go.OpenSpec.ofChange s with cond := some uptoSmall }

/-- 'laws.FnExactRepeatScheme', WHERE WHAT IT READS IS OF BULK AT MOST 1048576: true; the input reads as it did. -/
def fnExactRepeatSchemeUptoRow : OpenClaim := { program := "ythjkmfjhcohhbab", sum := "17aa31d530eebde2ebba20fadafa7c60a3cd5aab220df6b2e1801597897c992e", func := "loop.example/g01269/laws.FnExactRepeatScheme", spec := "fnExactRepeatScheme", plainKeys := false, apart := false, narrowed := true }
def FnExactRepeatSchemeUptoSaid : Prop := fnExactRepeatSchemeUptoRow.holds Try.pinned (OpenSpec.upto fnExactRepeatSchemeSpec)

/-- 'laws.FnExactDropFixed', WHERE WHAT IT READS IS OF BULK AT MOST 1048576: true; the input reads as it did. -/
def fnExactDropFixedUptoRow : OpenClaim := { program := "ythjkmfjhcohhbab", sum := "17aa31d530eebde2ebba20fadafa7c60a3cd5aab220df6b2e1801597897c992e", func := "loop.example/g01269/laws.FnExactDropFixed", spec := "fnExactDropFixed", plainKeys := false, apart := false, narrowed := true }
def FnExactDropFixedUptoSaid : Prop := fnExactDropFixedUptoRow.holds Try.pinned (OpenSpec.upto fnExactDropFixedSpec)

/-- 'laws.FnSchemes', WHERE WHAT IT READS IS OF BULK AT MOST 1048576: true; the input reads as it did. -/
def fnSchemesUptoRow : OpenClaim := { program := "ythjkmfjhcohhbab", sum := "17aa31d530eebde2ebba20fadafa7c60a3cd5aab220df6b2e1801597897c992e", func := "loop.example/g01269/laws.FnSchemes", spec := "fnSchemes", recurses := true, plainKeys := false, apart := false, narrowed := true }
def FnSchemesUptoSaid : Prop := fnSchemesUptoRow.holds Try.pinned (OpenSpec.upto fnSchemesSpec)

/-- 'laws.FnNearNumbers', WHERE WHAT IT READS IS OF BULK AT MOST 1048576: true; the input reads as it did. -/
def fnNearNumbersUptoRow : OpenClaim := { program := "ythjkmfjhcohhbab", sum := "17aa31d530eebde2ebba20fadafa7c60a3cd5aab220df6b2e1801597897c992e", func := "loop.example/g01269/laws.FnNearNumbers", spec := "fnNearNumbers", recurses := true, plainKeys := false, apart := false, narrowed := true }
def FnNearNumbersUptoSaid : Prop := fnNearNumbersUptoRow.holds Try.pinned (OpenSpec.upto fnNearNumbersSpec)

/-- 'laws.FnMadeSchemes', WHERE WHAT IT READS IS OF BULK AT MOST 1048576: true; the input reads as it did. -/
def fnMadeSchemesUptoRow : OpenClaim := { program := "ythjkmfjhcohhbab", sum := "17aa31d530eebde2ebba20fadafa7c60a3cd5aab220df6b2e1801597897c992e", func := "loop.example/g01269/laws.FnMadeSchemes", spec := "fnMadeSchemes", plainKeys := false, apart := false, narrowed := true }
def FnMadeSchemesUptoSaid : Prop := fnMadeSchemesUptoRow.holds Try.pinned (OpenSpec.upto fnMadeSchemesSpec)

/-- 'laws.FnNeeds', WHERE WHAT IT READS IS OF BULK AT MOST 1048576: true; the input reads as it did. -/
def fnNeedsUptoRow : OpenClaim := { program := "ythjkmfjhcohhbab", sum := "17aa31d530eebde2ebba20fadafa7c60a3cd5aab220df6b2e1801597897c992e", func := "loop.example/g01269/laws.FnNeeds", spec := "fnNeeds", recurses := true, plainKeys := false, apart := false, narrowed := true }
def FnNeedsUptoSaid : Prop := fnNeedsUptoRow.holds Try.pinned (OpenSpec.upto fnNeedsSpec)

/-- 'laws.FnBestQuestions', WHERE WHAT IT READS IS OF BULK AT MOST 1048576: true; the input reads as it did. -/
def fnBestQuestionsUptoRow : OpenClaim := { program := "ythjkmfjhcohhbab", sum := "17aa31d530eebde2ebba20fadafa7c60a3cd5aab220df6b2e1801597897c992e", func := "loop.example/g01269/laws.FnBestQuestions", spec := "fnBestQuestions", recurses := true, plainKeys := false, apart := false, narrowed := true }
def FnBestQuestionsUptoSaid : Prop := fnBestQuestionsUptoRow.holds Try.pinned (OpenSpec.upto fnBestQuestionsSpec)

/-- 'laws.FnWeights', WHERE WHAT IT READS IS OF BULK AT MOST 1048576: true; the input reads as it did. -/
def fnWeightsUptoRow : OpenClaim := { program := "ythjkmfjhcohhbab", sum := "17aa31d530eebde2ebba20fadafa7c60a3cd5aab220df6b2e1801597897c992e", func := "loop.example/g01269/laws.FnWeights", spec := "fnWeights", plainKeys := false, apart := false, narrowed := true }
def FnWeightsUptoSaid : Prop := fnWeightsUptoRow.holds Try.pinned (OpenSpec.upto fnWeightsSpec)

/-- 'laws.FnQuestions', WHERE WHAT IT READS IS OF BULK AT MOST 1048576: true; the input reads as it did. -/
def fnQuestionsUptoRow : OpenClaim := { program := "ythjkmfjhcohhbab", sum := "17aa31d530eebde2ebba20fadafa7c60a3cd5aab220df6b2e1801597897c992e", func := "loop.example/g01269/laws.FnQuestions", spec := "fnQuestions", plainKeys := false, apart := false, narrowed := true }
def FnQuestionsUptoSaid : Prop := fnQuestionsUptoRow.holds Try.pinned (OpenSpec.upto fnQuestionsSpec)

end Rows
end Go.Proofs.Ythjkmfjhcohhbab
