/-
  No cell of these rows narrows 'for every input' (looked for: loops, veiled, ifaces, maps, wideKeys, modest, calm, conditions, laid).
  DERIVED. THE GIVEN ROWS OF THIS SEAT. 5 by the template 'for every input the law returns true; each argument reads behind the call as it read before'; 0 by the template 'total and deterministic' (their statements: YtbgdnidbdfhgjabTotals.lean).
  GIVEN WITH THE SEED: the statements are not yours to turn. If you find one false, say at which input.
  Laid BY PROGRAM, IN A SANDBOX (cutbox-rows.mjs): the forced cells as the released guide's own fill.sh prints them over the translation e8d064cdaf4f78b4… (all of the seat's roots in one cut). By AI agents, Wed Nov 11 2026. No macro, syntax, notation, axiom, sorry.
-/
import Derived.Test.YtbgdnidbdfhgjabChecked
import GoSem.Claim
import GoSem.ClaimJoined
import GoSem.ClaimMapViews
import Derived.JoinedTies
import Derived.KernelRfl
namespace Go.Proofs.Ytbgdnidbdfhgjab
/- THE CELL 'sum', in the pinned program and in every row, IS THE sha256 OF THE DUMP (.gsa) THAT YtbgdnidbdfhgjabProg.lean LOADS. Nothing in Lean hashes anything: it is a label: what it is worth is what the hold of that sum in a sandbox is worth. -/
noncomputable def Try.pinned : Pinned := { name := "ytbgdnidbdfhgjab", sum := "e8d064cdaf4f78b4c6cddcdad5358b44917e5ab2aed54110d3d5a813d7058c8d", checked := Try.checked }
namespace Rows
def none {H : Type} : Left H := { results := [], args := [] }

/-- 'laws.FnExactChancesAfter': WHATEVER THE INPUT: true; the input reads as it did. -/
def fnExactChancesAfterSpec : ChangeSpec := { name := "fnExactChancesAfter", fn := fun _ => fun
  | [d1, d2, d3] => { results := [.lit (.bool true)], args := [d1, d2, d3] }
  | _ => none }
def fnExactChancesAfterRow : OpenClaim := { program := "ytbgdnidbdfhgjab", sum := "e8d064cdaf4f78b4c6cddcdad5358b44917e5ab2aed54110d3d5a813d7058c8d", func := "loop.example/g01269/laws.FnExactChancesAfter", spec := "fnExactChancesAfter", unfollowed := true, recurses := true, plainKeys := false, apart := false }
def FnExactChancesAfterSaid : Prop := fnExactChancesAfterRow.holds Try.pinned (OpenSpec.ofChange fnExactChancesAfterSpec)

/-- ITS FALSE NEIGHBOUR: 'it returns false'. Refute it at one input. -/
def fnExactChancesAfterWrong : ChangeSpec := { name := "fnExactChancesAfter", fn := fun _ => fun
  | [d1, d2, d3] => { results := [.lit (.bool false)], args := [d1, d2, d3] }
  | _ => none }
def FnExactChancesAfterWrongFalsely : Prop := fnExactChancesAfterRow.holds Try.pinned (OpenSpec.ofChange fnExactChancesAfterWrong)

/-- 'laws.FnExactLikeliestAfter': WHATEVER THE INPUT: true; the input reads as it did. -/
def fnExactLikeliestAfterSpec : ChangeSpec := { name := "fnExactLikeliestAfter", fn := fun _ => fun
  | [d1, d2, d3] => { results := [.lit (.bool true)], args := [d1, d2, d3] }
  | _ => none }
def fnExactLikeliestAfterRow : OpenClaim := { program := "ytbgdnidbdfhgjab", sum := "e8d064cdaf4f78b4c6cddcdad5358b44917e5ab2aed54110d3d5a813d7058c8d", func := "loop.example/g01269/laws.FnExactLikeliestAfter", spec := "fnExactLikeliestAfter", unfollowed := true, recurses := true, plainKeys := false, apart := false }
def FnExactLikeliestAfterSaid : Prop := fnExactLikeliestAfterRow.holds Try.pinned (OpenSpec.ofChange fnExactLikeliestAfterSpec)

/-- ITS FALSE NEIGHBOUR: 'it returns false'. Refute it at one input. -/
def fnExactLikeliestAfterWrong : ChangeSpec := { name := "fnExactLikeliestAfter", fn := fun _ => fun
  | [d1, d2, d3] => { results := [.lit (.bool false)], args := [d1, d2, d3] }
  | _ => none }
def FnExactLikeliestAfterWrongFalsely : Prop := fnExactLikeliestAfterRow.holds Try.pinned (OpenSpec.ofChange fnExactLikeliestAfterWrong)

/-- 'laws.FnExactLessPlay': WHATEVER THE INPUT: true; the input reads as it did. -/
def fnExactLessPlaySpec : ChangeSpec := { name := "fnExactLessPlay", fn := fun _ => fun
  | [d1, d2, d3] => { results := [.lit (.bool true)], args := [d1, d2, d3] }
  | _ => none }
def fnExactLessPlayRow : OpenClaim := { program := "ytbgdnidbdfhgjab", sum := "e8d064cdaf4f78b4c6cddcdad5358b44917e5ab2aed54110d3d5a813d7058c8d", func := "loop.example/g01269/laws.FnExactLessPlay", spec := "fnExactLessPlay", inPlace := ["internal/abi.NoEscape"], recurses := true, plainKeys := false, apart := false }
def FnExactLessPlaySaid : Prop := fnExactLessPlayRow.holds Try.pinned (OpenSpec.ofChange fnExactLessPlaySpec)

/-- ITS FALSE NEIGHBOUR: 'it returns false'. Refute it at one input. -/
def fnExactLessPlayWrong : ChangeSpec := { name := "fnExactLessPlay", fn := fun _ => fun
  | [d1, d2, d3] => { results := [.lit (.bool false)], args := [d1, d2, d3] }
  | _ => none }
def FnExactLessPlayWrongFalsely : Prop := fnExactLessPlayRow.holds Try.pinned (OpenSpec.ofChange fnExactLessPlayWrong)

/-- 'laws.FnHolding': WHATEVER THE INPUT: true; the input reads as it did. -/
def fnHoldingSpec : ChangeSpec := { name := "fnHolding", fn := fun _ => fun
  | [d] => { results := [.lit (.bool true)], args := [d] }
  | _ => none }
def fnHoldingRow : OpenClaim := { program := "ytbgdnidbdfhgjab", sum := "e8d064cdaf4f78b4c6cddcdad5358b44917e5ab2aed54110d3d5a813d7058c8d", func := "loop.example/g01269/laws.FnHolding", spec := "fnHolding", plainKeys := false, apart := false }
def FnHoldingSaid : Prop := fnHoldingRow.holds Try.pinned (OpenSpec.ofChange fnHoldingSpec)

/-- ITS FALSE NEIGHBOUR: 'it returns false'. Refute it at one input. -/
def fnHoldingWrong : ChangeSpec := { name := "fnHolding", fn := fun _ => fun
  | [d] => { results := [.lit (.bool false)], args := [d] }
  | _ => none }
def FnHoldingWrongFalsely : Prop := fnHoldingRow.holds Try.pinned (OpenSpec.ofChange fnHoldingWrong)

/-- 'laws.FnAnswerers': WHATEVER THE INPUT: true; the input reads as it did. -/
def fnAnswerersSpec : ChangeSpec := { name := "fnAnswerers", fn := fun _ => fun
  | [d] => { results := [.lit (.bool true)], args := [d] }
  | _ => none }
def fnAnswerersRow : OpenClaim := { program := "ytbgdnidbdfhgjab", sum := "e8d064cdaf4f78b4c6cddcdad5358b44917e5ab2aed54110d3d5a813d7058c8d", func := "loop.example/g01269/laws.FnAnswerers", spec := "fnAnswerers", recurses := true, plainKeys := false, apart := false }
def FnAnswerersSaid : Prop := fnAnswerersRow.holds Try.pinned (OpenSpec.ofChange fnAnswerersSpec)

/-- ITS FALSE NEIGHBOUR: 'it returns false'. Refute it at one input. -/
def fnAnswerersWrong : ChangeSpec := { name := "fnAnswerers", fn := fun _ => fun
  | [d] => { results := [.lit (.bool false)], args := [d] }
  | _ => none }
def FnAnswerersWrongFalsely : Prop := fnAnswerersRow.holds Try.pinned (OpenSpec.ofChange fnAnswerersWrong)

/- THE SECOND FORM. 'bulk': how many values and letters a reading holds, each counted each time it is reached (what is shared counts as often as it is met; a slice's spare places count too). A statement '..UptoSaid' is the law's where the arguments, and the package variables that the reading takes, are together of bulk at most 1048576: NARROWER than '..Said'. Prove '..Said' where nothing that the law and all that it calls make is longer than what came in: it says more and counts as full. Else prove '..UptoSaid'. A law counts once. -/
mutual
def uptoBulk {H : Type} : DataW H → Nat
  | .lit (.string bytes) => bytes.length + 1
  | .lit _ => 1
  | .nil => 1
  | .ptr d => uptoBulk d + 1
  | .slice elems spare => uptoBulkAll elems + uptoBulkAll spare + 1
  | .agg parts => uptoBulkAll parts + 1
  | .iface _ d => uptoBulk d + 1
  | .map entries => uptoBulkEntries entries + 1
  | .held _ => 1
def uptoBulkAll {H : Type} : List (DataW H) → Nat
  | [] => 0
  | d :: r => uptoBulk d + uptoBulkAll r
def uptoBulkEntries {H : Type} : List (Lit × DataW H) → Nat
  | [] => 0
  | x :: r => uptoBulkEntry x + uptoBulkEntries r
def uptoBulkEntry {H : Type} : Lit × DataW H → Nat
  | (.string bytes, d) => bytes.length + uptoBulk d + 1
  | (_, d) => uptoBulk d + 1
 end
def uptoSmall : (H : Type) → List (DataW H) → Bool := fun _ ds => decide (uptoBulkAll ds ≤ 1048576)
def OpenSpec.upto (s : _root_.Go.ChangeSpec) : _root_.Go.OpenSpec := { _root_.Go.OpenSpec.ofChange s with cond := some uptoSmall }

/-- 'laws.FnExactChancesAfter', WHERE WHAT IT READS IS OF BULK AT MOST 1048576: true; the input reads as it did. -/
def fnExactChancesAfterUptoRow : OpenClaim := { program := "ytbgdnidbdfhgjab", sum := "e8d064cdaf4f78b4c6cddcdad5358b44917e5ab2aed54110d3d5a813d7058c8d", func := "loop.example/g01269/laws.FnExactChancesAfter", spec := "fnExactChancesAfter", unfollowed := true, recurses := true, plainKeys := false, apart := false, narrowed := true }
def FnExactChancesAfterUptoSaid : Prop := fnExactChancesAfterUptoRow.holds Try.pinned (OpenSpec.upto fnExactChancesAfterSpec)

/-- 'laws.FnExactLikeliestAfter', WHERE WHAT IT READS IS OF BULK AT MOST 1048576: true; the input reads as it did. -/
def fnExactLikeliestAfterUptoRow : OpenClaim := { program := "ytbgdnidbdfhgjab", sum := "e8d064cdaf4f78b4c6cddcdad5358b44917e5ab2aed54110d3d5a813d7058c8d", func := "loop.example/g01269/laws.FnExactLikeliestAfter", spec := "fnExactLikeliestAfter", unfollowed := true, recurses := true, plainKeys := false, apart := false, narrowed := true }
def FnExactLikeliestAfterUptoSaid : Prop := fnExactLikeliestAfterUptoRow.holds Try.pinned (OpenSpec.upto fnExactLikeliestAfterSpec)

/-- 'laws.FnExactLessPlay', WHERE WHAT IT READS IS OF BULK AT MOST 1048576: true; the input reads as it did. -/
def fnExactLessPlayUptoRow : OpenClaim := { program := "ytbgdnidbdfhgjab", sum := "e8d064cdaf4f78b4c6cddcdad5358b44917e5ab2aed54110d3d5a813d7058c8d", func := "loop.example/g01269/laws.FnExactLessPlay", spec := "fnExactLessPlay", inPlace := ["internal/abi.NoEscape"], recurses := true, plainKeys := false, apart := false, narrowed := true }
def FnExactLessPlayUptoSaid : Prop := fnExactLessPlayUptoRow.holds Try.pinned (OpenSpec.upto fnExactLessPlaySpec)

/-- 'laws.FnHolding', WHERE WHAT IT READS IS OF BULK AT MOST 1048576: true; the input reads as it did. -/
def fnHoldingUptoRow : OpenClaim := { program := "ytbgdnidbdfhgjab", sum := "e8d064cdaf4f78b4c6cddcdad5358b44917e5ab2aed54110d3d5a813d7058c8d", func := "loop.example/g01269/laws.FnHolding", spec := "fnHolding", plainKeys := false, apart := false, narrowed := true }
def FnHoldingUptoSaid : Prop := fnHoldingUptoRow.holds Try.pinned (OpenSpec.upto fnHoldingSpec)

/-- 'laws.FnAnswerers', WHERE WHAT IT READS IS OF BULK AT MOST 1048576: true; the input reads as it did. -/
def fnAnswerersUptoRow : OpenClaim := { program := "ytbgdnidbdfhgjab", sum := "e8d064cdaf4f78b4c6cddcdad5358b44917e5ab2aed54110d3d5a813d7058c8d", func := "loop.example/g01269/laws.FnAnswerers", spec := "fnAnswerers", recurses := true, plainKeys := false, apart := false, narrowed := true }
def FnAnswerersUptoSaid : Prop := fnAnswerersUptoRow.holds Try.pinned (OpenSpec.upto fnAnswerersSpec)

end Rows
end Go.Proofs.Ytbgdnidbdfhgjab
