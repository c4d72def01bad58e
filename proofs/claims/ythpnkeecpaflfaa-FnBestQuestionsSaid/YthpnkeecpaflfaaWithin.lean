/- l4Within, l4SplitNeed. -/
import Derived.Test.YthpnkeecpaflfaaSplits
import Derived.Test.YthpnkeecpaflfaaYesNo
import Derived.Test.YthpnkeecpaflfaaTold
namespace Go.Proofs.Ythpnkeecpaflfaa
open Go.RowKit Go.ChangeShapes Go.WideShapes
set_option linter.unusedVariables false

/-- The needs that are found behind so many rounds, by key. -/
def foundL (p rd : Nat) : List Int := (List.range (9 ^ p)).map fun k => foundAt rd k
theorem foundL_len (p rd : Nat) : (foundL p rd).length = 9 ^ p := by simp [foundL]
theorem foundL_at {p rd k : Nat} (h : k < (foundL p rd).length) : (foundL p rd)[k] = foundAt rd k := by simp [foundL]
theorem pow9 {p : Nat} (hp : 1 ≤ p ∧ p ≤ 3) : 9 ≤ 9 ^ p ∧ 9 ^ p ≤ 729 := by
  obtain rfl | rfl | rfl : p = 1 ∨ p = 2 ∨ p = 3 := by omega
  all_goals decide
theorem found_key {rd : Nat} {r : Row} (h8 : rsum r ≤ 8) : foundAt rd (keyR r) = if needR r < rd then ((needR r : Nat) : Int) else -1 := by
  unfold foundAt
  rw [rowK_key h8]
  simp [h8]
theorem found_pos {rd : Nat} {r : Row} (h8 : rsum r ≤ 8) : 0 ≤ foundAt rd (keyR r) ↔ needR r < rd := by
  rw [found_key h8]
  split
  · constructor
    · intro _; assumption
    · intro _; omega
  · constructor
    · intro h; omega
    · intro h; contradiction
theorem cnt_le {r : Row} (h8 : rsum r ≤ 8) : cntR r ≤ 48 := by
  have h := spl_ok (p := 3) (r := r) (.inr (.inr rfl)) h8
  have h2 := h.2 3 (Nat.le_refl _)
  rw [h.1, splAll_len] at h2
  exact h2

set_option maxRecDepth 100000 in
set_option maxHeartbeats 8000000 in
theorem l4Within_any (A : Option Addr) (c lo hi_ : Nat) (A2 : Option Addr) (c2 lo2 hi2 : Nat) (p rd : Nat) (r : Row) (w : World) (hS : Ins w lo hi_ A (lstR p r)) (hS2 : Ins w lo2 hi2 A2 (foundL p rd)) (hw : Wide p r) (h8 : rsum r ≤ 8) (h1 : 1 < rsum r) (hrd : 1 ≤ rd) :
    Calls Try.prog 65 #[.slice A p c, .slice A2 (9 ^ p) c2] w fun e w' => e = .returned (.bool (decide (needR r ≤ rd))) ∧ Below w.heap.size w w' := by
  have hp := hw.le
  have hp9 := pow9 hp
  have hcnt := cnt_le h8
  have HS := Lib.hid hS
  have HS2 := Lib.hid hS2
  have htop := hS.top
  have htop2 := hS2.top
  have HC := Lib.hid (fun W h => l4Splits_any A c lo hi_ p r W h hw h8)
  have HY := Lib.hid (fun i (hi : i < cntR r) B cB loB hiB W h h2 => l4Yes_any A c lo hi_ B cB loB hiB p r (splitR r i) W h h2 hw h8 (split_fits h8 hi))
  have HN := Lib.hid (fun i (hi : i < cntR r) B cB loB hiB W h h2 => l4No_any A c lo hi_ B cB loB hiB p r (splitR r i) W h h2 hw h8 (split_fits h8 hi))
  have HYK := Lib.hid (fun i (hi : i < cntR r) B cB loB hiB W h => l4Key_any B cB loB hiB p (yesR r (splitR r i)) W h (yes_wide hw (split_fits h8 hi)).1 (yes_sum h8 (split_fits h8 hi)).1)
  have HNK := Lib.hid (fun i (hi : i < cntR r) B cB loB hiB W h => l4Key_any B cB loB hiB p (noR r (splitR r i)) W h (yes_wide hw (split_fits h8 hi)).2 (yes_sum h8 (split_fits h8 hi)).2)
  have HYP := Lib.hid (fun i (hi : i < cntR r) => And.intro (found_pos (rd := rd) (yes_sum h8 (split_fits h8 hi)).1) (key_lt (yes_wide hw (split_fits h8 hi)).1 (yes_sum h8 (split_fits h8 hi)).1))
  have HNP := Lib.hid (fun i (hi : i < cntR r) => And.intro (found_pos (rd := rd) (yes_sum h8 (split_fits h8 hi)).2) (key_lt (yes_wide hw (split_fits h8 hi)).2 (yes_sum h8 (split_fits h8 hi)).2))
  have HW := Lib.hid (within_iff h8 h1 hrd)
  have HAL := Lib.hid (splAll_len p r)
  have HFL := Lib.hid (foundL_len p rd)
  have HLW := Lib.hid (fun i (hi : i < cntR r) => And.intro (lst_len hp (yesR r (splitR r i))) (lst_len hp (noR r (splitR r i))))
  have HLS := Lib.hid (fun i => lst_len hp (splitR r i))
  clear hS hS2 hw
  go_enter Try.func65, Try.ntmps65
  go_wp2_with fail
  refine (HC.out w HS.out).mono ?_
  rintro e w1 ⟨v1, rfl, hrows, hb⟩
  have HB1 := Lib.hid hb
  obtain ⟨Ao, co, rfl⟩ := hrows.slice
  have HR := Lib.hid hrows
  rw [HAL.out]
  clear hb hrows HC
  go_wp2_with fail
  go_loopw [6] (fun i wr => ∃ (x : Nat), x ≤ cntR r ∧ i = .int .i64 x ∧ Hid (∀ j, j < x → ¬ (needR (yesR r (splitR r j)) < rd ∧ needR (noR r (splitR r j)) < rd)) ∧ Hid (Below w1.heap.size w1 wr)) (fun i _ => cntR r - (intOf i).toNat)
  case atStart => exact ⟨0, Nat.zero_le _, rfl, Lib.hid (fun j h => absurd h (by omega)), Lib.hid (Below.refl _ _)⟩
  case round =>
    obtain ⟨x, hx, rfl, HF, HB⟩ := hrel
    rename World => w2
    have HB2 := Lib.hid (below_trans HB1.out HB.out)
    have hs2 := HB2.out.size
    by_cases hlt : x < cntR r
    · have HRx := HR.out.past (Past.of_below HB.out)
      obtain ⟨gb, cap, ge, ce, hve, hcell, hge, hOw⟩ := HRx.at_ (i := x) (by rw [HAL.out]; exact hlt)
      injection hve with hA hl hcap
      subst hA hcap
      rw [splAll_at, HLS.out] at hcell
      rw [splAll_at] at hOw
      clear hl
      have HOw := Lib.hid (Ins.mk hOw.ints (own_lt hOw))
      have HS_ := Lib.hid (HS.out.step HB2.out)
      have HS2_ := Lib.hid (HS2.out.step HB2.out)
      have hYP := HYP.out x hlt
      have hNP := HNP.out x hlt
      have HYx := Lib.hid (HY.out x hlt)
      have HNx := Lib.hid (HN.out x hlt)
      have HYKx := Lib.hid (HYK.out x hlt)
      have HNKx := Lib.hid (HNK.out x hlt)
      have HL1 := Lib.hid (HLW.out x hlt).1
      have HL2 := Lib.hid (HLW.out x hlt).2
      have HF2 : Hid (¬ (needR (yesR r (splitR r x)) < rd ∧ needR (noR r (splitR r x)) < rd) → ∀ j, j < x + 1 → ¬ (needR (yesR r (splitR r j)) < rd ∧ needR (noR r (splitR r j)) < rd)) := Lib.hid (fun h j hj => by
        by_cases e : j = x
        · subst e; exact h
        · exact HF.out j (by omega))
      have HWx : Hid (needR (yesR r (splitR r x)) < rd ∧ needR (noR r (splitR r x)) < rd → decide (needR r ≤ rd) = true) := Lib.hid (fun h => decide_eq_true (HW.out.1 ⟨x, hlt, h.1, h.2⟩))
      generalize hyk : keyR (yesR r (splitR r x)) = ky at hYP HYKx
      generalize hnk : keyR (noR r (splitR r x)) = kn at hNP HNKx
      generalize yesR r (splitR r x) = Y at HYx HYKx HL1 HF2 HWx hYP
      generalize noR r (splitR r x) = N at HNx HNKx HL2 HF2 HWx hNP
      generalize needR Y = ny at HF2 HWx hYP
      generalize needR N = nn at HF2 HWx hNP
      clear hyk hnk HRx hOw HF HY HN HYK HNK HYP HNP
      go_wp2_with fail
      refine (HYx.out (some ⟨ge, 0, none⟩) ce ge (ge + 1) w2 HS_.out HOw.out).mono ?_
      rintro e w3 ⟨g3, c3, rfl, hg3, ho3, hb3⟩
      have HO3 := Lib.hid (Ins.mk ho3.ints (own_lt ho3))
      have HB3 := Lib.hid hb3
      have HS3 := Lib.hid (HS_.out.step hb3)
      have HS23 := Lib.hid (HS2_.out.step hb3)
      have HOw3 := Lib.hid (HOw.out.step hb3)
      obtain ⟨b2, o2, hA2, _, hbb, hc2⟩ := HS23.out.ints.at_ (k := ky) (by rw [HFL.out]; exact hYP.2)
      subst hA2
      rw [foundL_at] at hc2
      obtain ⟨b2', o2', hA2', _, hbb', hc2'⟩ := HS23.out.ints.at_ (k := kn) (by rw [HFL.out]; exact hNP.2)
      injection hA2' with hA2'
      injection hA2' with e1 e2
      subst e1 e2
      rw [foundL_at] at hc2'
      have HCb := Lib.hid hc2'
      have hcell3 := (hb3.cell (p := ⟨gb, x, none⟩) (by
        have := hcell
        simp only [World.cell?] at this
        rcases Nat.lt_or_ge gb w2.heap.size with h1 | h1
        · exact h1
        · simp [Array.getElem?_eq_none h1] at this)).trans hcell
      clear ho3 hb3 HYx hc2'
      generalize foundAt rd ky = fy at hc2 hYP
      generalize foundAt rd kn = fn at HCb hNP
      go_wp2_with fail
      refine (HYKx.out (some ⟨g3, 0, none⟩) c3 g3 (g3 + 1) w3 HO3.out).mono ?_
      rintro e w4 ⟨rfl, rfl⟩
      have hkyI : (ky : Int) < ((9 ^ p : Nat) : Int) := by have := hYP.2; omega
      have hknI : (kn : Int) < ((9 ^ p : Nat) : Int) := by have := hNP.2; omega
      by_cases hfy : 0 ≤ fy
      · have hny := hYP.1.1 hfy
        go_wp2_with fail
        refine (HNx.out (some ⟨ge, 0, none⟩) ce ge (ge + 1) w4 HS3.out HOw3.out).mono ?_
        rintro e w5 ⟨g5, c5, rfl, hg5, ho5, hb5⟩
        have HO5 := Lib.hid (Ins.mk ho5.ints (own_lt ho5))
        have hc5 := (hb5.cell (p := ⟨b2, o2 + kn, none⟩) (by have := HS23.out.top; show b2 < _; omega)).trans HCb.out
        have HB5 := Lib.hid (below_trans HB3.out hb5)
        clear ho5 hb5 HNx
        go_wp2_with fail
        refine (HNKx.out (some ⟨g5, 0, none⟩) c5 g5 (g5 + 1) w5 HO5.out).mono ?_
        rintro e w6 ⟨rfl, rfl⟩
        by_cases hfn : 0 ≤ fn
        · have E := Lib.hid (HWx.out ⟨hny, hNP.1.1 hfn⟩)
          go_wp2
          go_ret
          exact ⟨by rw [E.out]; rfl, below_trans HB2.out HB5.out⟩
        · have HF3 := Lib.hid (HF2.out (fun h => hfn (hNP.1.2 h.2)))
          go_wp2
          go_roundw
          case rel => exact ⟨x + 1, by omega, by go_num, HF3, Lib.hid (below_trans HB.out HB5.out)⟩
          case measure => simp [intOf]; omega
      · have HF3 := Lib.hid (HF2.out (fun h => hfy (hYP.1.2 h.1)))
        go_wp2
        go_roundw
        case rel => exact ⟨x + 1, by omega, by go_num, HF3, Lib.hid (below_trans HB.out HB3.out)⟩
        case measure => simp [intOf]; omega
    · obtain rfl : x = cntR r := by omega
      have E : Hid (decide (needR r ≤ rd) = false) := Lib.hid (decide_eq_false (fun h => by
        obtain ⟨i, hi, h2⟩ := HW.out.2 h
        exact HF.out i hi h2))
      go_wp2
      go_ret
      exact ⟨by rw [E.out]; rfl, HB2.out⟩
end Go.Proofs.Ythpnkeecpaflfaa
