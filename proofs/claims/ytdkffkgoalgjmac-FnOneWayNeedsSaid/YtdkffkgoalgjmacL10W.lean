/- l10Best: the first split of which both behind it want fewer. -/
import Derived.Test.YtdkffkgoalgjmacL10X
namespace Go.Proofs.Ytdkffkgoalgjmac
open Go.RowKit Go.ChangeShapes Go.WideShapes
set_option linter.unusedVariables false

theorem own_insO {w : World} {g : Nat} {l : List Int} (h : Own w g (g + 1) (some ⟨g, 0, none⟩) l) : Ins w g (g + 1) (some ⟨g, 0, none⟩) l := ⟨h.ints, own_lt h⟩
set_option maxRecDepth 100000 in
set_option maxHeartbeats 8000000 in
theorem l10Best_any (A : Option Addr) (c lo hi_ : Nat) (A2 : Option Addr) (c2 lo2 hi2 : Nat) (p rd nv : Nat) (r : Row) (w : World) (hS : Ins w lo hi_ A (lstR p r)) (hS2 : Ins w lo2 hi2 A2 (foundLO p rd)) (hw : Wide p r) (h8 : rsum r ≤ 8) :
    Calls Try.prog 98 #[.slice A p c, .slice A2 (9 ^ p) c2, .int .i64 (nv : Int)] w fun e w' => Below w.heap.size w w' ∧ ∃ v, e = .returned v ∧
      ((∃ i g cap, i < cntR r ∧ lessO r (splitR r i) (min rd nv) = true ∧ (∀ j, j < i → lessO r (splitR r j) (min rd nv) = false) ∧ v = .slice (some ⟨g, 0, none⟩) p cap ∧ w.heap.size ≤ g ∧ Own w' g (g + 1) (some ⟨g, 0, none⟩) (lstR p (splitR r i))) ∨
       ((∀ j, j < cntR r → lessO r (splitR r j) (min rd nv) = false) ∧ ∃ A3 c3, v = .slice A3 0 c3)) := by
  have hp := hw.le
  have hp9 := pow9 hp
  have hcnt := cnt_le h8
  have HS := Lib.hid hS
  have HS2 := Lib.hid hS2
  have htop := hS.top
  have htop2 := hS2.top
  have HC := Lib.hid (fun W h => l4Splits_any A c lo hi_ p r W h hw h8)
  have HN := Lib.hid (fun i (hi : i < cntR r) B cB loB hiB W h h2 => l4No_any A c lo hi_ B cB loB hiB p r (splitR r i) W h h2 hw h8 (split_fits h8 hi))
  have HYK := Lib.hid (fun i (hi : i < cntR r) B cB loB hiB W h => l4Key_any B cB loB hiB p (splitR r i) W h (fits_wide hw (split_fits h8 hi)) (fit_sum h8 (split_fits h8 hi)))
  have HNK := Lib.hid (fun i (hi : i < cntR r) B cB loB hiB W h => l4Key_any B cB loB hiB p (noR r (splitR r i)) W h (yes_wide hw (split_fits h8 hi)).2 (yes_sum h8 (split_fits h8 hi)).2)
  have HYP := Lib.hid (fun i (hi : i < cntR r) => And.intro (found_keyO (rd := rd) (fit_sum h8 (split_fits h8 hi))) (key_lt (fits_wide hw (split_fits h8 hi)) (fit_sum h8 (split_fits h8 hi))))
  have HNP := Lib.hid (fun i (hi : i < cntR r) => And.intro (found_keyO (rd := rd) (yes_sum h8 (split_fits h8 hi)).2) (key_lt (yes_wide hw (split_fits h8 hi)).2 (yes_sum h8 (split_fits h8 hi)).2))
  have HAL := Lib.hid (splAll_len p r)
  have HFL := Lib.hid (foundL_lenO p rd)
  have HLW := Lib.hid (fun i (hi : i < cntR r) => lst_len hp (noR r (splitR r i)))
  have HLS := Lib.hid (fun i => lst_len hp (splitR r i))
  clear hS hS2 hw
  generalize 9 ^ p = top at hp9 HFL HYP HNP ⊢
  go_enter Try.func98, Try.ntmps98
  go_wp2_with fail
  refine (HC.out w HS.out).mono ?_
  rintro e w1 ⟨v1, rfl, hrows, hb⟩
  have HB1 := Lib.hid hb
  obtain ⟨Ao, co, rfl⟩ := hrows.slice
  have HR := Lib.hid hrows
  rw [HAL.out]
  clear hb hrows HC
  go_wp2_with fail
  go_loopw [8] (fun i wr => ∃ (x : Nat), x ≤ cntR r ∧ i = .int .i64 x ∧ Hid (∀ j, j < x → lessO r (splitR r j) (min rd nv) = false) ∧ Hid (Below w1.heap.size w1 wr)) (fun i _ => cntR r - (intOf i).toNat)
  case atStart => exact ⟨0, Nat.zero_le _, rfl, Lib.hid (fun j h => absurd h (by omega)), Lib.hid (Below.refl _ _)⟩
  case round =>
    obtain ⟨x, hx, rfl, HF, HB⟩ := hrel
    rename World => w2
    have HB2 := Lib.hid (below_trans HB1.out HB.out)
    have hs2 := HB2.out.size
    by_cases hlt : x < cntR r
    · have HRx := HR.out.past (Past.of_below HB.out)
      obtain ⟨gb, cap, ge, ce, hve, hcell, hge, hOw⟩ := HRx.at_ (i := x) (by rw [HAL.out]; exact hlt)
      injection hve with hA hl hcap
      subst hA hcap
      rw [splAll_at, HLS.out] at hcell
      rw [splAll_at] at hOw
      clear hl
      have HOo := Lib.hid hOw
      have HOw := Lib.hid (own_insO hOw)
      have HS_ := Lib.hid (HS.out.step HB2.out)
      have HS2_ := Lib.hid (HS2.out.step HB2.out)
      have hYP := HYP.out x hlt
      have hNP := HNP.out x hlt
      have HNx := Lib.hid (HN.out x hlt)
      have HYKx := Lib.hid (HYK.out x hlt)
      have HNKx := Lib.hid (HNK.out x hlt)
      have HL2 := Lib.hid (HLW.out x hlt)
      have HF2 : Hid (lessO r (splitR r x) (min rd nv) = false → ∀ j, j < x + 1 → lessO r (splitR r j) (min rd nv) = false) := Lib.hid (fun h j hj => by
        by_cases e : j = x
        · subst e; exact h
        · exact HF.out j (by omega))
      have HX : Hid (lessO r (splitR r x) (min rd nv) = (decide (needO (splitR r x) < min rd nv) && decide (needO (noR r (splitR r x)) < min rd nv))) := Lib.hid rfl
      have HOs : Hid (∀ W, Below w2.heap.size w2 W → Own W ge (ge + 1) (some ⟨ge, 0, none⟩) (lstR p (splitR r x))) := Lib.hid (fun W h => own_same HOo.out (h.block ge (own_lt HOo.out)))
      generalize hyk : keyR (splitR r x) = ky at hYP HYKx
      generalize hnk : keyR (noR r (splitR r x)) = kn at hNP HNKx
      generalize needO (splitR r x) = ny at HX hYP
      generalize needO (noR r (splitR r x)) = nn at HX hNP
      generalize noR r (splitR r x) = N at HNx HNKx HL2
      clear hyk hnk HRx hOw HN HYK HNK HYP HNP
      obtain ⟨b2, o2, hA2, _, hbb, hc2⟩ := HS2_.out.ints.at_ (k := ky) (by rw [HFL.out]; exact hYP.2)
      subst hA2
      rw [foundL_atO] at hc2
      obtain ⟨b2', o2', hA2', _, hbb', hc2'⟩ := HS2_.out.ints.at_ (k := kn) (by rw [HFL.out]; exact hNP.2)
      injection hA2' with hA2'
      injection hA2' with e1 e2
      subst e1 e2
      rw [foundL_atO] at hc2'
      have hgb : gb < w2.heap.size := by
        have := hcell
        simp only [World.cell?] at this
        rcases Nat.lt_or_ge gb w2.heap.size with h1 | h1
        · exact h1
        · simp [Array.getElem?_eq_none h1] at this
      have hkyN : ky < top := hYP.2
      have hknN : kn < top := hNP.2
      have hkyI : (ky : Int) < (top : Int) := by omega
      have hknI : (kn : Int) < (top : Int) := by omega
      have hYP1 := hYP.1
      have hNP1 := hNP.1
      generalize foundAtO rd ky = fy at hc2 hYP1
      generalize foundAtO rd kn = fn at hc2' hNP1
      have HYP1 := Lib.hid hYP1
      have HNP1 := Lib.hid hNP1
      clear hYP hNP hYP1 hNP1
      have HKc : Hid (∀ W, Below w2.heap.size w2 W → W.cell? ⟨gb, x, none⟩ = some (.slice (some ⟨ge, 0, none⟩) p ce) ∧ W.cell? ⟨b2, o2 + ky, none⟩ = some (.int .i64 fy) ∧ W.cell? ⟨b2, o2 + kn, none⟩ = some (.int .i64 fn)) := Lib.hid (fun W h => ⟨(h.cell (p := ⟨gb, x, none⟩) hgb).trans hcell, (h.cell (p := ⟨b2, o2 + ky, none⟩) (by show b2 < _; have := HS2_.out.top; omega)).trans hc2, (h.cell (p := ⟨b2, o2 + kn, none⟩) (by show b2 < _; have := HS2_.out.top; omega)).trans hc2'⟩)
      have HD := Lib.hid (Below.refl w2.heap.size w2).drew
      go_wp2_with fail
      go_region_held3 (fun w' => w'.cell? ⟨gb, x, none⟩ = some (.slice (some ⟨ge, 0, none⟩) p ce) ∧ w'.cell? ⟨b2, o2 + ky, none⟩ = some (.int .i64 fy) ∧ w'.cell? ⟨b2, o2 + kn, none⟩ = some (.int .i64 fn))
        (first
         | exact HKc.out _ HD.out
         | exact HKc.out _ HB5.out)
        (first
         | (go_at_call 94; refine (HNKx.out (some ⟨g5, 0, none⟩) c5 g5 (g5 + 1) w5 HO5.out).mono ?_; rintro e w6 ⟨rfl, rfl⟩)
         | (go_at_call 106; refine (HNx.out (some ⟨ge, 0, none⟩) ce ge (ge + 1) w2.drew (HS_.out.step HD.out) (HOw.out.step HD.out)).mono ?_; rintro e w5 ⟨g5, c5, rfl, hg5, ho5, hb5⟩; have HB5 := Lib.hid (below_trans HD.out hb5); have HO5 := Lib.hid (own_insO ho5); clear ho5 hb5)
         | (go_at_call 94; refine (HYKx.out (some ⟨ge, 0, none⟩) ce ge (ge + 1) w2.drew (HOw.out.step HD.out)).mono ?_; rintro e w3 ⟨rfl, rfl⟩))
      all_goals
        have hcx := (HKc.out _ HB5.out).1
        have hpart : (0 ≤ fy ∧ 0 ≤ fn ∧ fy < (nv : Int) ∧ fn < (nv : Int) ∧ ny < min rd nv ∧ nn < min rd nv) ∨ ((¬ 0 ≤ fy ∨ (0 ≤ fy ∧ ¬ 0 ≤ fn) ∨ (0 ≤ fy ∧ 0 ≤ fn ∧ ¬ fy < (nv : Int)) ∨ (0 ≤ fy ∧ 0 ≤ fn ∧ fy < (nv : Int) ∧ ¬ fn < (nv : Int))) ∧ ¬ (ny < min rd nv ∧ nn < min rd nv)) := by
          have h1 := HYP1.out
          have h2 := HNP1.out
          split at h1 <;> split at h2 <;> omega
        rcases hpart with ⟨p1, p2, p3, p4, p5, p6⟩ | ⟨hp3, hno⟩
        · have HT : Hid (lessO r (splitR r x) (min rd nv) = true) := Lib.hid (by rw [HX.out, decide_eq_true p5, decide_eq_true p6]; rfl)
          go_wp2
          go_ret
          exact ⟨below_trans HB2.out HB5.out, _, rfl, .inl ⟨x, ge, ce, hlt, HT.out, HF.out, rfl, hge, HOs.out _ HB5.out⟩⟩
        · have HT : Hid (∀ j, j < x + 1 → lessO r (splitR r j) (min rd nv) = false) := Lib.hid (HF2.out (by rw [HX.out, ← Bool.not_eq_true, Bool.and_eq_true, decide_eq_true_eq, decide_eq_true_eq]; exact hno))
          rcases hp3 with h1 | ⟨h1, h2⟩ | ⟨h1, h2, h3⟩ | ⟨h1, h2, h3, h4⟩
          all_goals
            go_wp2
            go_roundw
            case rel => exact ⟨x + 1, by omega, by go_num, HT, Lib.hid (below_trans HB.out HB5.out)⟩
            case measure => simp [intOf]; omega
    · obtain rfl : x = cntR r := by omega
      go_wp2
      go_ret
      exact ⟨HB2.out.alloc HB2.out.size _, _, rfl, .inr ⟨HF.out, _, _, rfl⟩⟩
end Go.Proofs.Ytdkffkgoalgjmac
