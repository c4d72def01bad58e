/- TrueWords: both. -/
import Derived.Test.YtlhpbhmldcinmaaWords
import Derived.Test.YtlhpbhmldcinmaaNums
namespace Go.Proofs.Ytlhpbhmldcinmaa
open Go.RowKit Go.ChangeShapes Go.WideShapes
set_option linter.unusedVariables false

/-- A list and whether it is one, handed back in memory of the call's own. -/
def LAns (w : World) (l : List Int) (b : Bool) (e : Ending) (w' : World) : Prop :=
  ∃ B c', e = .returned (.tuple #[.slice B l.length c', .bool b]) ∧ Res w' w.heap.size w'.heap.size B l ∧ Below w.heap.size w w'
theorem lans_row {w w' : World} {g c' p : Nat} {l : List Int} {e : Ending} (hl : l.length = p) (he : e = .returned (.tuple #[.slice (some ⟨g, 0, none⟩) p c', .bool true])) (hg : w.heap.size ≤ g) (hr : w'.heap[g]? = some (.cells (l.map (Value.int .i64)).toArray 3 (0, 0))) (hb : Below w.heap.size w w') : LAns w l true e w' :=
  ⟨_, c', by rw [he, hl], ⟨.inr ⟨g, _, rfl, hg, row_ltI hr, hr, by simp, fun j x hx => by simp [hx]⟩, Nat.le_refl _⟩, hb⟩
theorem lans_own {w w' : World} {v : Value} {zs : List Int} {b : Bool} {e : Ending} (he : e = .returned (.tuple #[v, .bool b])) (ho : w'.ownsRow w.heap.size 3 1 v zs.length (zs.map (Value.int .i64))) (hb : Below w.heap.size w w') : LAns w zs b e w' := own_ans0 he ho hb
theorem lans_nil {w w1 : World} (hb : Below w.heap.size w w1) : LAns w [] false (.returned (.tuple #[.slice (some ⟨w1.heap.size, 0, none⟩) 0 0, .bool false])) (w1.alloc (.cells #[] 3)) :=
  ⟨_, 0, rfl, empty_res w1 w.heap.size hb.size, hb.alloc hb.size _⟩
/-- The true words as integers. -/
def twI (qs : List Int) (n : Nat) : List Int := (twL qs n).map Int.ofNat
theorem twI_len (qs : List Int) (n : Nat) : (twI qs n).length = n := by simp [twI, twL_len]
theorem twI_at {qs : List Int} {n k : Nat} (h : k < (twI qs n).length) : (twI qs n)[k] = (twN qs k : Int) := by simp [twI, twL]
theorem W14.new0 (w : World) : W14 (w.alloc (.cells #[.bool false, .bool false, .bool false, .bool false, .bool false, .bool false, .bool false, .bool false, .bool false, .bool false, .bool false, .bool false, .bool false, .bool false] 102)) w.heap.size (fun _ => false) := by
  have := W14.new w (fun _ => false) w.heap.size rfl
  rwa [bwv_zero] at this
/-- A word laid into a block of its own. -/
theorem below_new14 (w : World) (p : Nat → Bool) : Below w.heap.size w ((w.alloc (.cells #[.bool false, .bool false, .bool false, .bool false, .bool false, .bool false, .bool false, .bool false, .bool false, .bool false, .bool false, .bool false, .bool false, .bool false] 102)).setRow w.heap.size (bwv p)) :=
  below_setRow ((Below.refl _ _).alloc (Nat.le_refl _) _) (Nat.le_refl _) _

end Go.Proofs.Ytlhpbhmldcinmaa
