/- One-way needs, splits, paths of the specification; both. -/
import Derived.Test.YtdkffkgoalgjmaaL10Y
import Derived.Test.YtdkffkgoalgjmaaL10R
import Derived.Test.YtdkffkgoalgjmaaTold
namespace Go.Proofs.Ytdkffkgoalgjmaa
open Go.RowKit Go.ChangeShapes Go.WideShapes Go.Maps
set_option linter.unusedVariables false

theorem l1LeastO_any (x y : Int) (w : World) :
    Calls Try.prog 110 #[.int .i64 x, .int .i64 y] w fun e w' => e = .returned (.int .i64 (if x ≤ y then x else y)) ∧ w' = w := by
  by_cases h : x < y
  · rw [if_pos (by omega)]
    go_enter Try.func110, Try.ntmps110
    go_wp2
    go_ret
    exact ⟨rfl, rfl⟩
  · by_cases h2 : x = y
    · subst h2
      rw [if_pos (by omega)]
      go_enter Try.func110, Try.ntmps110
      go_wp2
      go_ret
      exact ⟨rfl, rfl⟩
    · have h3 : y < x := by omega
      rw [if_neg (by omega)]
      go_enter Try.func110, Try.ntmps110
      go_wp2
      go_ret
      exact ⟨rfl, rfl⟩
theorem l10First_any (A : Option Addr) (c lo hi_ : Nat) (A2 : Option Addr) (c2 lo2 hi2 : Nat) (p : Nat) (r : Row) (w : World) (hS : Ins w lo hi_ A (lstR p r)) (hS2 : Ins w lo2 hi2 A2 (foundLO p 10)) (hw : Wide p r) (h8 : rsum r ≤ 8) (h1 : 1 < rsum r) :
    Calls Try.prog 75 #[.slice A p c, .slice A2 (9 ^ p) c2, .int .i64 ((needO r : Nat) : Int)] w fun e w' => ∃ g cap, e = .returned (.slice (some ⟨g, 0, none⟩) p cap) ∧ w.heap.size ≤ g ∧ Own w' g (g + 1) (some ⟨g, 0, none⟩) (lstR p (planO r).first) ∧ Below w.heap.size w w' := by
  have hm : min 10 (needO r) = needO r := by have := needO_le h8; omega
  have h := l10Best_any A c lo hi_ A2 c2 lo2 hi2 p 10 (needO r) r w hS hS2 hw h8
  rw [hm] at h
  refine h.mono ?_
  rintro e w' ⟨hb, v, rfl, hv⟩
  obtain ⟨f1, f2, f3, f4⟩ := first_at h8 h1
  rcases hv with ⟨i, g, cap, hi, hl, hno, rfl, hg, ho⟩ | ⟨hno, _⟩
  · have e : i = firstI r := by
      rcases Nat.lt_trichotomy i (firstI r) with h2 | h2 | h2
      · rw [f4 i h2] at hl; cases hl
      · exact h2
      · have h3 := hno _ h2
        rw [f2, f3] at h3
        cases h3
    subst e
    rw [f2] at ho
    exact ⟨g, cap, rfl, hg, ho, hb⟩
  · have h3 := hno _ f1
    rw [f2, f3] at h3
    cases h3
/-- What a row of the needs holds. -/
theorem foundO_cell {w : World} {lo hi : Nat} {A : Option Addr} {p : Nat} {r : Row} (hS : Ins w lo hi A (foundLO p 10)) (hw : Wide p r) (h8 : rsum r ≤ 8) : ∃ b o, A = some ⟨b, o, none⟩ ∧ b < w.heap.size ∧ w.cell? ⟨b, o + keyR r, none⟩ = some (.int .i64 ((needO r : Nat) : Int)) := by
  have hkl := key_lt hw h8
  obtain ⟨b, o, e, _, hb, hc⟩ := hS.ints.at_ (k := keyR r) (by rw [foundL_lenO]; exact hkl)
  rw [foundL_atO, foundO_all h8] at hc
  have := hS.top
  exact ⟨b, o, e, by omega, hc⟩
def PathsLess (m : Nat) : Prop := ∀ (p : Nat) (r : Row), massR r < m → Wide p r → rsum r ≤ 8 → ∀ (A : Option Addr) (c lo hi : Nat) (A2 : Option Addr) (c2 lo2 hi2 : Nat) (w : World), Ins w lo hi A (lstR p r) → Ins w lo2 hi2 A2 (foundLO p 10) →
  Calls Try.prog 82 #[.slice A p c, .slice A2 (9 ^ p) c2] w fun e w' => e = .returned (.tuple #[.int .i64 ((fewO r : Nat) : Int), .int .i64 ((needO r : Nat) : Int)]) ∧ Below w.heap.size w w'
set_option maxRecDepth 100000 in
set_option maxHeartbeats 4000000 in
theorem paths_step (m : Nat) (HP : PathsLess m) (p : Nat) (r : Row) (hr : massR r < m + 1) (hw : Wide p r) (h8 : rsum r ≤ 8) (A : Option Addr) (c lo hi : Nat) (A2 : Option Addr) (c2 lo2 hi2 : Nat) (w : World) (hS : Ins w lo hi A (lstR p r)) (hS2 : Ins w lo2 hi2 A2 (foundLO p 10)) :
    Calls Try.prog 82 #[.slice A p c, .slice A2 (9 ^ p) c2] w fun e w' => e = .returned (.tuple #[.int .i64 ((fewO r : Nat) : Int), .int .i64 ((needO r : Nat) : Int)]) ∧ Below w.heap.size w w' := by
  have hp := hw.le
  have hp9 := pow9 hp
  have HTd := Lib.hid (fun W h => l4Told_any A c lo hi p r W h hw (fun i => comp_le h8 i))
  have HS := Lib.hid hS
  have HS2 := Lib.hid hS2
  by_cases hT : rsum r ≤ 1
  · rw [decide_eq_true hT] at HTd
    have e1 := needO_told hT
    have e2 : fewO r = 0 := by rw [← planO_few h8, planO_told hT]
    rw [e1, e2]
    clear hS hS2 HP
    go_enter Try.func82, Try.ntmps82
    go_wp2_with fail
    refine (HTd.out w HS.out).mono ?_
    rintro e w1 ⟨rfl, rfl⟩
    go_wp2
    go_ret2
    exact ⟨rfl, Below.refl _ _⟩
  · rw [decide_eq_false hT] at HTd
    have h1 : 1 < rsum r := by omega
    obtain ⟨n1, n2⟩ := first_ne h8 h1
    have hf := planO_fits h8
    have hm1 := massO_yes hf n2
    have hm2 := massO_no hf n1
    have hws := fits_wide hw hf
    have hwn := (yes_wide hw hf).2
    have hs8 := fit_sum h8 hf
    have hn8 := (yes_sum h8 hf).2
    have HK := Lib.hid (fun W h => l4Key_any A c lo hi p r W h hw h8)
    have HB := Lib.hid (fun W h h2 => l10First_any A c lo hi A2 c2 lo2 hi2 p r W h h2 hw h8 h1)
    have HPs := Lib.hid (fun B cB lB hB W h h2 => HP p (planO r).first (by omega) hws hs8 B cB lB hB A2 c2 lo2 hi2 W h h2)
    have HPn := Lib.hid (fun B cB lB hB W h h2 => HP p (noR r (planO r).first) (by omega) hwn hn8 B cB lB hB A2 c2 lo2 hi2 W h h2)
    have HN := Lib.hid (fun B cB lB hB W h h2 => l4No_any A c lo hi B cB lB hB p r (planO r).first W h h2 hw h8 hf)
    obtain ⟨v1, v2⟩ := first_val h8 h1
    have V1 : Hid (needO r = 1 + max (needO (planO r).first) (needO (noR r (planO r).first))) := Lib.hid v1
    have V2 : Hid (fewO r = 1 + min (fewO (planO r).first) (fewO (noR r (planO r).first))) := Lib.hid v2
    have b1 := needO_le hs8
    have b2 := needO_le hn8
    have b3 := fewO_le hs8
    have b4 := fewO_le hn8
    have hkl := key_lt hw h8
    obtain ⟨bq, oq, hAq, hbq, hcq⟩ := foundO_cell hS2 hw h8
    subst hAq
    have HLe := Lib.hid (fun x y W => l1LeastO_any x y W)
    have HMo := Lib.hid (fun x y W => l1Most_any x y W)
    clear hS hS2 HP v1 v2 hm1 hm2 hws hwn hs8 hn8 n1 n2
    generalize keyR r = ky at HK hkl hcq
    generalize needO r = nd at hcq V1 HB ⊢
    generalize fewO r = fw at V2 ⊢
    generalize noR r (planO r).first = N at HPn HN V1 V2 b2 b4
    generalize (planO r).first = F at HPs HN HB V1 V2 b1 b3
    generalize needO F = nf at V1 b1 HPs
    generalize needO N = nn at V1 b2 HPn
    generalize fewO F = ff at V2 b3 HPs
    generalize fewO N = fn at V2 b4 HPn
    generalize 9 ^ p = top at hkl hp9 HB HPs HPn ⊢
    have hkI : (ky : Int) < (top : Int) := by omega
    go_enter Try.func82, Try.ntmps82
    go_wp2_with fail
    refine (HTd.out w HS.out).mono ?_
    rintro e w1 ⟨rfl, rfl⟩
    go_wp2_with fail
    refine (HK.out w1 HS.out).mono ?_
    rintro e w2 ⟨rfl, rfl⟩
    go_wp2_with fail
    refine (HB.out w2 HS.out HS2.out).mono ?_
    rintro e w3 ⟨gs, cs, rfl, hgs, hos, hb3⟩
    have HB3 := Lib.hid hb3
    have HO3 := Lib.hid hos
    have HS3 := Lib.hid (HS.out.step hb3)
    have HS23 := Lib.hid (HS2.out.step hb3)
    clear hb3 hos hcq HK HB HTd
    go_wp2_with fail
    refine (HPs.out (some ⟨gs, 0, none⟩) cs gs (gs + 1) w3 ⟨HO3.out.ints, own_lt HO3.out⟩ HS23.out).mono ?_
    rintro e w4 ⟨rfl, hb4⟩
    have HB4 := Lib.hid (below_trans HB3.out hb4)
    have HO4 := Lib.hid (own_same HO3.out (hb4.block gs (own_lt HO3.out)))
    have HS4 := Lib.hid (HS3.out.step hb4)
    have HS24 := Lib.hid (HS23.out.step hb4)
    clear hb4 HPs
    go_wp2_with fail
    refine (HN.out (some ⟨gs, 0, none⟩) cs gs (gs + 1) w4 HS4.out ⟨HO4.out.ints, own_lt HO4.out⟩).mono ?_
    rintro e w5 ⟨gn, cn, rfl, hgn, hon, hb5⟩
    have HB5 := Lib.hid (below_trans HB4.out hb5)
    have HO5 := Lib.hid hon
    have HS25 := Lib.hid (HS24.out.step hb5)
    clear hb5 hon HN
    go_wp2_with fail
    refine (HPn.out (some ⟨gn, 0, none⟩) cn gn (gn + 1) w5 ⟨HO5.out.ints, own_lt HO5.out⟩ HS25.out).mono ?_
    rintro e w6 ⟨rfl, hb6⟩
    have HB6 := Lib.hid (below_trans HB5.out hb6)
    clear hb6 HPn
    go_wp2_with fail
    refine (HLe.out _ _ w6).mono ?_
    rintro e w7 ⟨rfl, rfl⟩
    rw [show (if (ff : Int) ≤ (fn : Int) then (ff : Int) else (fn : Int)) = ((min ff fn : Nat) : Int) from by split <;> omega]
    have e1 : 1 + ((min ff fn : Nat) : Int) = (fw : Int) := by have := V2.out; omega
    generalize min ff fn = mn at e1 ⊢
    have hmn : mn ≤ 20 := by have := V2.out; omega
    have E1 := Lib.hid e1
    clear e1
    go_wp2_with fail
    refine (HMo.out _ _ w7).mono ?_
    rintro e w8 ⟨rfl, rfl⟩
    rw [show (if (nn : Int) ≤ (nf : Int) then (nf : Int) else (nn : Int)) = ((max nf nn : Nat) : Int) from by split <;> omega]
    have e2 : 1 + ((max nf nn : Nat) : Int) = (nd : Int) := by have := V1.out; omega
    generalize max nf nn = mx at e2 ⊢
    have hmx : mx ≤ 20 := by have := V1.out; omega
    have E2 := Lib.hid e2
    clear e2
    go_wp2
    go_ret2
    exact ⟨by simp [E1.out, E2.out], HB6.out⟩
theorem pathsLess : ∀ m, PathsLess m
  | 0 => fun p r h => absurd h (by omega)
  | m + 1 => fun p r h hw h8 A c lo hi A2 c2 lo2 hi2 w hS hS2 => paths_step m (pathsLess m) p r h hw h8 A c lo hi A2 c2 lo2 hi2 w hS hS2
end Go.Proofs.Ytdkffkgoalgjmaa
