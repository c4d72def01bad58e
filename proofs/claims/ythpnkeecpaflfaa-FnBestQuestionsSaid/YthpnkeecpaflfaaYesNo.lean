/- YesCounts, NoCounts: both. -/
import Derived.Test.YthpnkeecpaflfaaSp4b
import Derived.Test.YthpnkeecpaflfaaRow5
import Derived.Test.YthpnkeecpaflfaaConv
import Derived.Test.YthpnkeecpaflfaaStates
namespace Go.Proofs.Ythpnkeecpaflfaa
open Go.RowKit Go.ChangeShapes Go.WideShapes
set_option linter.unusedVariables false

set_option maxRecDepth 100000 in
set_option maxHeartbeats 4000000 in
theorem l4No_any (A : Option Addr) (c lo hi : Nat) (A2 : Option Addr) (c2 lo2 hi2 : Nat) (p : Nat) (r s : Row) (w : World) (hS : Ins w lo hi A (lstR p r)) (hS2 : Ins w lo2 hi2 A2 (lstR p s)) (hw : Wide p r) (h8 : rsum r ≤ 8) (hf : Fits s r) :
    Calls Try.prog 60 #[.slice A p c, .slice A2 p c2] w fun e w' => ∃ g c', e = .returned (.slice (some ⟨g, 0, none⟩) p c') ∧ w.heap.size ≤ g ∧ Own w' g (g + 1) (some ⟨g, 0, none⟩) (lstR p (noR r s)) ∧ Below w.heap.size w w' := by
  have hp := hw.le
  have HL := Lib.hid (lst_len hp (leftR r s))
  have HS := Lib.hid hS
  have HC := Lib.hid (fun W h h2 => l4Rest_any A c lo hi A2 c2 lo2 hi2 p r s W h h2 hp h8 hf)
  have HY := Lib.hid (fun B cB loB hiB W h h2 => l4Yes_any A c lo hi B cB loB hiB p r (leftR r s) W h h2 hw h8 left_fits)
  rw [show yesR r (leftR r s) = noR r s from rfl] at HY
  go_enter Try.func60, Try.ntmps60
  go_wp2_with fail
  refine (HC.out w hS hS2).mono ?_
  rintro e w1 ⟨v1, rfl, ho, hb⟩
  obtain ⟨B, cB, rfl, _, hres⟩ := own_res (zs := lstR p (leftR r s)) (n := p) ho HL.out.symm
  have HR := Lib.hid hres.ins
  have HB1 := Lib.hid hb
  have HS1 := Lib.hid (HS.out.step hb)
  clear hS hS2 ho hb hres HC
  rw [HL.out]
  go_wp2_with fail
  refine (HY.out B cB _ _ w1 HS1.out HR.out).mono ?_
  rintro e w2 ⟨g, cg, rfl, hg, ho, hb⟩
  have hsz := HB1.out.size
  have HO := Lib.hid ho
  have HB2 := Lib.hid (below_trans HB1.out hb)
  clear ho hb
  go_wp2
  go_ret
  exact ⟨g, cg, rfl, by omega, HO.out, HB2.out⟩

theorem own_ansR {w w' : World} {g c' p : Nat} {l : List Int} {e : Ending} (hl : l.length = p) (he : e = .returned (.tuple #[.slice (some ⟨g, 0, none⟩) p c', .bool true])) (hg : w.heap.size ≤ g) (hr : Own w' g (g + 1) (some ⟨g, 0, none⟩) l) (hb : Below w.heap.size w w') :
    ∃ B c', e = .returned (.tuple #[.slice B l.length c', .bool true]) ∧ Res w' w.heap.size w'.heap.size B l ∧ Below w.heap.size w w' :=
  ⟨_, c', by rw [he, hl], ⟨hr.wide hg (own_lt hr), Nat.le_refl _⟩, hb⟩
theorem row_own {w : World} {g : Nat} {l : List Int} (h : w.heap[g]? = some (.cells (l.map (Value.int .i64)).toArray 3 (0, 0))) : Own w g (g + 1) (some ⟨g, 0, none⟩) l :=
  .inr ⟨g, _, rfl, Nat.le_refl _, Nat.lt_succ_self _, h, by simp, fun j x hx => by simp [hx]⟩

/-- The row of a list. -/
def rowL : List Int → Row
  | [c] => (0, 0, c.toNat)
  | [b, c] => (0, b.toNat, c.toNat)
  | [a, b, c] => (a.toNat, b.toNat, c.toNat)
  | _ => (0, 0, 0)
theorem rowL_lst {p : Nat} {r : Row} (hw : Wide p r) : rowL (lstR p r) = r := by
  obtain ⟨a, b, c⟩ := r
  rcases hw with ⟨h1, h2, h3⟩ | ⟨h1, h2⟩ | h1 <;> subst h1 <;> simp_all [lstR, rowL]
theorem rowL_eq {p : Nat} {l : List Int} {r : Row} (h : l = lstR p r) (hw : Wide p r) : rowL l = r := by rw [h]; exact rowL_lst hw
theorem lst_short (p : Nat) (r : Row) : (lstR p r).length ≤ 3 := by simp [lstR]
theorem rows_len (q : Bool) (zs ss : List Int) (f : Nat → Row → Row → List Int) (hf : ∀ p r s, (f p r s).length ≤ 3) : (if q then f zs.length (rowL zs) (rowL ss) else []).length ≤ 1048576 := by
  cases q
  · simp
  · simp only [if_true]
    have := hf zs.length (rowL zs) (rowL ss)
    omega
/-- What the two functions answer. -/
def RowAns (w : World) (r0 : List Int) (r1 : Bool) (e : Ending) (w' : World) : Prop := ∃ B c', e = .returned (.tuple #[.slice B r0.length c', .bool r1]) ∧ Res w' w.heap.size w'.heap.size B r0 ∧ Below w.heap.size w w'
end Go.Proofs.Ythpnkeecpaflfaa
