/- The specification's counts: yes, no, told, key, same. -/
import Derived.Test.YthpnkeecpaflfaaSp4a
import Derived.Test.YthpnkeecpaflfaaUpd
namespace Go.Proofs.Ythpnkeecpaflfaa
open Go.RowKit Go.ChangeShapes Go.WideShapes
set_option linter.unusedVariables false

/-- The list while yes is being told: the first k places are. -/
def yTo (p : Nat) (r s : Row) (k : Nat) : List Int := (List.range p).map fun j => if j < k then ((compR (yesR r s) (3 - p + j) : Nat) : Int) else ((compR s (3 - p + j) : Nat) : Int)
theorem yTo_len (p : Nat) (r s : Row) (k : Nat) : (yTo p r s k).length = p := by simp [yTo]
theorem yTo_one {p : Nat} {r s : Row} (hw : Wide p r) (hf : Fits s r) : yTo p r s 1 = lstR p s := by
  rw [lst_comp hw.le]
  apply List.ext_getElem
  · simp [yTo]
  · intro j h1 h2
    simp only [yTo, List.getElem_map, List.getElem_range]
    split
    · have hj : j = 0 := by omega
      subst hj
      have hp := hw.le
      obtain rfl | rfl | rfl : p = 1 ∨ p = 2 ∨ p = 3 := by omega
      · show ((compR (yesR r s) (1 + 1) : Nat) : Int) = _
        rw [comp_yes (by omega), wide_comp (fits_wide hw (left_fits (s := s))) (by omega)]
        rfl
      · show ((compR (yesR r s) (0 + 1) : Nat) : Int) = _
        rw [comp_yes (by omega), wide_comp (fits_wide hw (left_fits (s := s))) (by omega)]
        rfl
      · rfl
    · rfl
theorem yTo_full {p : Nat} {r s : Row} (hp : 1 ≤ p ∧ p ≤ 3) : yTo p r s p = lstR p (yesR r s) := by
  rw [lst_comp hp]
  apply List.ext_getElem
  · simp [yTo]
  · intro j h1 h2
    have : j < p := by simpa [yTo] using h1
    simp [yTo, this]
theorem yTo_set {p : Nat} {r s : Row} (k : Nat) : (yTo p r s k).set k ((compR (yesR r s) (3 - p + k) : Nat) : Int) = yTo p r s (k + 1) := by
  apply List.ext_getElem
  · simp [yTo]
  · intro j h1 h2
    rw [List.getElem_set]
    by_cases h : k = j
    · subst h; simp [yTo]
    · rw [if_neg h]
      simp only [yTo, List.getElem_map, List.getElem_range]
      by_cases h3 : j < k
      · rw [if_pos h3, if_pos (by omega)]
      · rw [if_neg h3, if_neg (by omega)]
theorem yTo_at {p : Nat} {r s : Row} {k : Nat} (hk : k < p) : (yTo p r s k).getD k 0 = ((compR s (3 - p + k) : Nat) : Int) := by
  simp [yTo, List.getD, hk]

set_option maxRecDepth 100000 in
set_option maxHeartbeats 4000000 in
theorem l4Yes_any (A : Option Addr) (c lo hi : Nat) (A2 : Option Addr) (c2 lo2 hi2 : Nat) (p : Nat) (r s : Row) (w : World) (hS : Ins w lo hi A (lstR p r)) (hS2 : Ins w lo2 hi2 A2 (lstR p s)) (hw : Wide p r) (h8 : rsum r ≤ 8) (hf : Fits s r) :
    Calls Try.prog 59 #[.slice A p c, .slice A2 p c2] w fun e w' => ∃ g c', e = .returned (.slice (some ⟨g, 0, none⟩) p c') ∧ w.heap.size ≤ g ∧ Own w' g (g + 1) (some ⟨g, 0, none⟩) (lstR p (yesR r s)) ∧ Below w.heap.size w w' := by
  have hp := hw.le
  have HL := Lib.hid (lst_len hp (leftR r s))
  have HL2 := Lib.hid (lst_len hp s)
  have HS2 := Lib.hid hS2
  have HC := Lib.hid (fun W h h2 => l4Rest_any A c lo hi A2 c2 lo2 hi2 p r s W h h2 hp h8 hf)
  have HO := Lib.hid (fun W h => l1Own_row A2 c2 lo2 hi2 (lstR p s) W h (by rw [lst_len hp]; omega) (by rw [lst_len hp]; omega))
  rw [HL2.out] at HO
  have H1 := Lib.hid (yTo_one hw hf)
  have HF := Lib.hid (@yTo_full p r s hp)
  have HSt := Lib.hid (@yTo_set p r s)
  have HAt := Lib.hid (fun k h => @yTo_at p r s k h)
  have HLa := Lib.hid (fun k (h : k < p) => lst_at hp (leftR r s) h (by rw [lst_len hp]; exact h))
  have HC8 := Lib.hid (fun i => comp_le h8 i)
  have HCF := Lib.hid (fun i => comp_fit hf i)
  have HCL := Lib.hid (fun i => @comp_left r s i)
  have HCY := Lib.hid (fun i h => @comp_yes r s i h)
  go_enter Try.func59, Try.ntmps59
  go_wp2_with fail
  refine (HC.out w hS hS2).mono ?_
  rintro e w1 ⟨v1, rfl, ho, hb⟩
  obtain ⟨B, cB, rfl, _, hres⟩ := own_res (zs := lstR p (leftR r s)) (n := p) ho HL.out.symm
  have HR := Lib.hid hres.ins
  have HB1 := Lib.hid hb
  have HS21 := Lib.hid (HS2.out.step hb)
  clear hS hS2 ho hb hres HC
  rw [HL.out]
  go_wp2_with fail
  refine (HO.out w1 HS21.out).mono ?_
  rintro e w2 ⟨g, cg, rfl, hg, ho, hb⟩
  have HR2 := Lib.hid (HR.out.step hb)
  have HB2 := Lib.hid (below_trans HB1.out hb)
  have hsz1 := HB1.out.size
  rw [← H1.out] at ho
  have HP := Lib.hid ho
  have hrt := HR.out.top
  clear hb ho HO HR HB1 HS21
  go_wp2_with fail
  go_loopw [7] (fun i wr => ∃ (k : Nat), 1 ≤ k ∧ k ≤ p ∧ i = .int .i64 k ∧ Hid (Own wr g (g + 1) (some ⟨g, 0, none⟩) (yTo p r s k)) ∧ Hid (Within g (g + 1) w2 wr)) (fun i _ => p - (intOf i).toNat)
  case atStart => exact ⟨1, by omega, by omega, rfl, HP, Lib.hid (Within.refl _ _ _)⟩
  case round =>
    clear HP
    obtain ⟨k, hk1, hk, rfl, HP, HW⟩ := hrel
    by_cases hlt : k < p
    · obtain ⟨m, rfl⟩ : ∃ m, k = m + 1 := ⟨k - 1, by omega⟩
      obtain ⟨b, o, rfl, _, hb, hc⟩ := (HR2.out.within HW.out (.inl (by omega))).ints.at_ (k := m) (by rw [HL.out]; omega)
      rw [HLa.out m (by omega)] at hc
      have hcell := own_cell HP.out (k := m + 1) (by rw [yTo_len]; exact hlt)
      have hfr := own_free HP.out (m + 1)
      rw [HAt.out (m + 1) hlt] at hcell
      have hy := HCY.out (3 - p + m) (by omega)
      have h1 := HC8.out (3 - p + m)
      have h2 := HCL.out (3 - p + m)
      have h3 := HC8.out (3 - p + (m + 1))
      have h4 := HCF.out (3 - p + (m + 1))
      have HP2 := Lib.hid (own_set HP.out (k := m + 1) (by rw [yTo_len]; exact hlt) ((compR (yesR r s) (3 - p + (m + 1)) : Nat) : Int))
      rw [HSt.out (m + 1), show 3 - p + (m + 1) = 3 - p + m + 1 from rfl, hy] at HP2
      rw [show 3 - p + (m + 1) = 3 - p + m + 1 from rfl] at h3 h4 hcell
      clear hy
      generalize compR (leftR r s) (3 - p + m) = x at hc h2 HP2
      generalize compR s (3 - p + m + 1) = y at hcell h4 HP2
      rw [show (((y + x : Nat)) : Int) = (y : Int) + (x : Int) from by omega] at HP2
      have hx8 : x ≤ 8 := by omega
      have hy8 : y ≤ 8 := by omega
      have hwm : IntKind.i64.wrap (m : Int) = (m : Int) := IntWalk.i64_in _ (by omega)
      have hmI : (m : Int) < (p : Int) := by omega
      have hmI1 : (m : Int) + 1 < (p : Int) := by omega
      have hws : IntKind.i64.wrap ((y : Int) + (x : Int)) = (y : Int) + (x : Int) := IntWalk.i64_in _ (by omega)
      clear h1 h2 h3 h4
      go_wp2_with fail
      go_region_with (fail)
      all_goals
        go_wp2
        go_roundw
        case rel => exact ⟨m + 1 + 1, by omega, by omega, by go_num, Lib.hid (own_same HP2.out rfl), Lib.hid ((HW.out.trans (within_set (Within.refl g (g + 1) wr) (Nat.le_refl _) (Nat.lt_succ_self _) (m + 1) _)).drewN 1)⟩
        case measure => simp [intOf]; omega
    · obtain rfl : k = p := by omega
      rw [HF.out] at HP
      go_wp2
      go_ret
      exact ⟨g, cg, rfl, by omega, HP.out, HB2.out.trans (HW.out.below (by omega) HB2.out.size)⟩
end Go.Proofs.Ythpnkeecpaflfaa
