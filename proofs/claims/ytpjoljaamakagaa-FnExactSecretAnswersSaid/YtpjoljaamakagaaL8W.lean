/- The answerer: how often a number stays open; both. -/
import Derived.Test.YtpjoljaamakagaaL8T
namespace Go.Proofs.Ytpjoljaamakagaa
open Go.RowKit Go.ChangeShapes Go.WideShapes Go.Maps
set_option linter.unusedVariables false

theorem Two.drewN8 {w : World} {b : Nat} {x y : Value} {t : TypeId} (h : Two w b x y t) (n : Nat) : Two (w.drewN n) b x y t := ⟨h.row⟩
theorem One8.drewN8 {w : World} {a : Addr} {v : Value} (h : One8 w a v) (n : Nat) : One8 (w.drewN n) a v := ⟨h.c⟩
theorem numW_ball {q M : Nat} {z : Int} (h : 0 ≤ z) : numW q M z = ballTo q (min (M - z.toNat) q + 1) := by unfold numW; rw [if_pos h]; rfl
set_option maxRecDepth 100000 in
set_option maxHeartbeats 8000000 in
theorem countSecretAnswers_impl (A : Option Addr) (c lo hi : Nat) (zs : List Int) (m : Int) (A2 : Option Addr) (c2 lo2 hi2 : Nat) (qs : List Int) (k : Int) (w : World) (hS : Ins w lo hi A zs) (hQ : Ins w lo2 hi2 A2 qs) (j : Nat) (hs : Secret zs m qs k j) :
    Calls Try.prog 46 #[.agg #[.slice A zs.length c, .int .i64 m], .slice A2 qs.length c2, .int .i64 k] w fun e w' => e = .returned (.tuple #[.int .i64 ((numW qs.length m.toNat (zs.getD j (-1)) : Nat) : Int), .bool true]) ∧ Below w.heap.size w w' := by
  have HT := Lib.hid (Two.new w (.slice A zs.length c) (.int .i64 m) 35 (w.heap.size) rfl)
  have HB := Lib.hid ((Below.refl w.heap.size w).alloc (Nat.le_refl _) (.cells #[.slice A zs.length c, .int .i64 m] 35))
  have hl := hs.l.len
  have h8 := hs.l.q8
  have hst := hs.l.st
  have hm := isSt_len hst
  have hjl := hs.lt
  have hop := hs.op
  have hat := isSt_at hst hjl
  have HG := Lib.hid (fun W h h2 => areListedFor_any A c lo hi zs m A2 c2 lo2 hi2 qs k W h h2 (by omega) (by omega))
  rw [hs.ok] at HG
  have hkj := hs.k
  subst hkj
  have HN := Lib.hid (fun W h => numberWeight_impl A c lo hi zs m.toNat j qs.length W h (by rw [Int.toNat_of_nonneg hm.2.2.1]; exact hst) hjl (by omega))
  rw [Int.toNat_of_nonneg hm.2.2.1] at HN
  rw [show zs.getD j (-1) = zs[j] by simp [List.getD, hjl]]
  generalize numW qs.length m.toNat zs[j] = v at HN ⊢
  have HI := Lib.hid (hS.step HB.out)
  have HQ := Lib.hid (hQ.step HB.out)
  clear hS hQ hs hst hat hop hm
  go_enter Try.func46, Try.ntmps46
  go_wp2_with fail
  generalize w.alloc (.cells #[.slice A zs.length c, .int .i64 m] 35) = w0 at HT HB HI HQ ⊢
  have h0 := HT.out.c0
  have h1 := HT.out.c1
  with_reducible refine (HG.out _ HI.out HQ.out).mono ?_
  rintro e w1 ⟨rfl, hb⟩
  replace HT := Lib.hid (HT.out.step hb)
  replace HB := Lib.hid (below_trans HB.out hb)
  replace HI := Lib.hid (HI.out.step hb)
  replace HQ := Lib.hid (HQ.out.step hb)
  replace h0 := HT.out.c0
  replace h1 := HT.out.c1
  clear hb
  clear HG
  go_wp2_with fail
  with_reducible refine (HN.out w1 HI.out).mono ?_
  rintro e w2 ⟨rfl, hb⟩
  replace HT := Lib.hid (HT.out.step hb)
  replace HB := Lib.hid (below_trans HB.out hb)
  replace HI := Lib.hid (HI.out.step hb)
  replace HQ := Lib.hid (HQ.out.step hb)
  replace h0 := HT.out.c0
  replace h1 := HT.out.c1
  clear hb
  clear h0 h1
  go_wp2
  go_ret2
  exact ⟨rfl, HB.out⟩
set_option maxRecDepth 100000 in
set_option maxHeartbeats 8000000 in
theorem countSecretAnswers_spec (A : Option Addr) (c lo hi : Nat) (zs : List Int) (m : Int) (A2 : Option Addr) (c2 lo2 hi2 : Nat) (qs : List Int) (k : Int) (w : World) (hS : Ins w lo hi A zs) (hQ : Ins w lo2 hi2 A2 qs) (j : Nat) (hs : Secret zs m qs k j) :
    Calls Try.prog 45 #[.agg #[.slice A zs.length c, .int .i64 m], .slice A2 qs.length c2, .int .i64 k] w fun e w' => e = .returned (.tuple #[.int .i64 ((numW qs.length m.toNat (zs.getD j (-1)) : Nat) : Int), .bool true]) ∧ Below w.heap.size w w' := by
  have HT := Lib.hid (Two.new w (.slice A zs.length c) (.int .i64 m) 35 (w.heap.size) rfl)
  have HB := Lib.hid ((Below.refl w.heap.size w).alloc (Nat.le_refl _) (.cells #[.slice A zs.length c, .int .i64 m] 35))
  have hl := hs.l.len
  have h8 := hs.l.q8
  have hst := hs.l.st
  have hm := isSt_len hst
  have hjl := hs.lt
  have hop := hs.op
  have hat := isSt_at hst hjl
  have HG := Lib.hid (fun W h h2 => l8Secret_any A c lo hi zs m A2 c2 lo2 hi2 qs k W h h2 (by omega) (by omega))
  rw [hs.ok] at HG
  have hkj := hs.k
  subst hkj
  rw [show zs.getD j (-1) = zs[j] by simp [List.getD, hjl]]
  have HI := Lib.hid (hS.step HB.out)
  have HQ := Lib.hid (hQ.step HB.out)
  obtain ⟨b, o, e, _, hb, hc⟩ := HI.out.ints.at_ hjl
  subst e
  have HC := Lib.hid (One8.mk hc)
  generalize zs[j] = z at hop hat HC ⊢
  obtain ⟨a, rfl⟩ : ∃ a : Nat, z = (a : Int) := ⟨z.toNat, by omega⟩
  obtain ⟨M, rfl⟩ : ∃ M : Nat, m = (M : Int) := ⟨m.toNat, by omega⟩
  have HV := Lib.hid (numW_ball (q := qs.length) (M := (M : Int).toNat) hop)
  rw [Int.toNat_natCast, Int.toNat_natCast] at HV
  have hMa : a ≤ M := by omega
  have hM2 : M ≤ 2 := by omega
  have HWB := Lib.hid (fun i (h : i ≤ qs.length) => ways_bd qs.length i (by omega) h)
  have HWP := Lib.hid (fun i (h : i ≤ qs.length) => ways_prod qs.length i h)
  have HWS := Lib.hid (fun i (h : i ≤ qs.length) => ways_step qs.length i h)
  have HBS := Lib.hid (fun i => show ballTo qs.length (i + 1) = ballTo qs.length i + ways qs.length i from rfl)
  rw [Int.toNat_natCast, HV.out]
  have hji : (j : Int) < (zs.length : Int) := by omega
  have HW0 : Hid (ways qs.length 0 = 1) := Lib.hid rfl
  have HB0 : Hid (ballTo qs.length 0 = 0) := Lib.hid rfl
  generalize ways qs.length = WQ at HW0 HWB HWP HWS HBS
  generalize ballTo qs.length = BQ at HB0 HWB HBS ⊢
  clear hS hQ hs hst hm hc HV
  go_enter Try.func45, Try.ntmps45
  go_wp2_with fail
  generalize w.alloc (.cells #[.slice (some ⟨b, o, none⟩) zs.length c, .int .i64 (M : Int)] 35) = w0 at HT HB HI HQ HC ⊢
  have h0 := HT.out.c0
  have h1 := HT.out.c1
  with_reducible refine (HG.out _ HI.out HQ.out).mono ?_
  rintro e w1 ⟨rfl, hb⟩
  replace HT := Lib.hid (HT.out.step hb)
  replace HB := Lib.hid (below_trans HB.out hb)
  replace HI := Lib.hid (HI.out.step hb)
  replace HQ := Lib.hid (HQ.out.step hb)
  replace HC := Lib.hid (HC.out.step hb)
  replace h0 := HT.out.c0
  replace h1 := HT.out.c1
  clear hb
  clear h0 h1
  clear HG HI HQ
  obtain ⟨K, hK⟩ : ∃ K, K = min (M - a) qs.length := ⟨_, rfl⟩
  have hK1 : K ≤ M - a := by omega
  have hK2 : K ≤ qs.length := by omega
  have hK3 : K = M - a ∨ K = qs.length := by omega
  have HK := Lib.hid hK
  clear hK
  go_wp2_with fail
  go_loopw [8, 9, 10] (fun s p i wr => ∃ (t : Nat), t ≤ K + 1 ∧ i = .int .i64 (t : Int) ∧ s = .int .i64 ((BQ t : Nat) : Int) ∧ p = .int .i64 ((WQ t : Nat) : Int) ∧ Hid (Two wr w.heap.size (.slice (some ⟨b, o, none⟩) zs.length c) (.int .i64 (M : Int)) 35) ∧ Hid (One8 wr ⟨b, o + j, none⟩ (.int .i64 (a : Int))) ∧ Hid (Below w.heap.size w wr)) (fun _ _ i _ => K + 1 - (intOf i).toNat)
  case atStart => exact ⟨0, Nat.zero_le _, rfl, by rw [HB0.out]; rfl, by rw [HW0.out]; rfl, HT, HC, HB⟩
  case round =>
    clear HT HC HB
    obtain ⟨t, ht, rfl, rfl, rfl, HT, HC, HB⟩ := hrel
    have h0 := HT.out.c0
    have h1 := HT.out.c1
    have hc := HC.out.c
    by_cases hlt : t ≤ K
    · have hb9 := HWB.out t (by omega)
      have hp9 := HWP.out t (by omega)
      have HS := Lib.hid (HWS.out t (by omega))
      have HBN := Lib.hid (HBS.out t)
      have HS9 := Lib.hid HS.out.symm
      have hpb : 0 ≤ (WQ t : Int) * ((qs.length : Int) - (t : Int)) ∧ (WQ t : Int) * ((qs.length : Int) - (t : Int)) ≤ 1099511627776 := by omega
      have hsb : ((BQ t : Nat) : Int) + ((WQ t : Nat) : Int) ≤ 1073741824 := by have := HBN.out; omega
      have hti : (t : Int) ≤ (M : Int) - (a : Int) := by omega
      have htq : (t : Int) ≤ (qs.length : Int) := by omega
      clear hb9 hp9
      go_wp2_with fail
      go_quiet (fail)
      clear h0 h1 hc
      go_wp2
      go_roundw
      case rel => exact ⟨t + 1, by omega, by go_num, by rw [HBN.out]; go_num, by rw [HS9.out], Lib.hid (HT.out.drewN8 _), Lib.hid (HC.out.drewN8 _), Lib.hid (below_drewN HB.out _)⟩
      case measure => simp [intOf]; omega
    · have HE := Lib.hid (show K + 1 = t by omega)
      have htK : K < t := by omega
      have HKK := HK.out
      have hwr : IntKind.i64.wrap ((M : Int) - (a : Int)) = (M : Int) - (a : Int) := IntWalk.i64_in _ (by omega)
      rcases hK3 with hk3 | hk3
      · have hti : ¬ (t : Int) ≤ (M : Int) - (a : Int) := by omega
        have hd := decide_eq_false hti
        go_wp2_with fail
        go_quiet (fail)
        clear h0 h1 hc
        go_wp2
        go_ret2
        rw [← HKK, HE.out]
        exact ⟨rfl, below_drewN HB.out _⟩
      · by_cases hti : (t : Int) ≤ (M : Int) - (a : Int)
        · have htq : ¬ (t : Int) ≤ (qs.length : Int) := by omega
          go_wp2_with fail
          go_quiet (fail)
          clear h0 h1 hc
          go_wp2
          go_ret2
          rw [← HKK, HE.out]
          exact ⟨rfl, below_drewN HB.out _⟩
        · have hd := decide_eq_false hti
          go_wp2_with fail
          go_quiet (fail)
          clear h0 h1 hc
          go_wp2
          go_ret2
          rw [← HKK, HE.out]
          exact ⟨rfl, below_drewN HB.out _⟩
theorem countSecretAnswers_both (zs : List Int) (m : Int) (h : zs.length ≤ 1048576) (qs : List Int) (h2 : qs.length ≤ 1048576) (k : Int) : ∃ (r0 : Int) (r1 : Bool),
    (∀ (w : World) (B : Option Addr) (c lo hi : Nat) (B2 : Option Addr) (c2 lo2 hi2 : Nat), Ins w lo hi B zs → Ins w lo2 hi2 B2 qs → Calls Try.prog 46 #[.agg #[.slice B zs.length c, .int .i64 m], .slice B2 qs.length c2, .int .i64 k] w fun e w' => e = .returned (.tuple #[.int .i64 r0, .bool r1]) ∧ Below w.heap.size w w') ∧
    (∀ (w : World) (B : Option Addr) (c lo hi : Nat) (B2 : Option Addr) (c2 lo2 hi2 : Nat), Ins w lo hi B zs → Ins w lo2 hi2 B2 qs → Calls Try.prog 45 #[.agg #[.slice B zs.length c, .int .i64 m], .slice B2 qs.length c2, .int .i64 k] w fun e w' => e = .returned (.tuple #[.int .i64 r0, .bool r1]) ∧ Below w.heap.size w w') := by
  cases hok : sOK zs m qs k with
  | false => exact ⟨0, false, fun w B c lo hi B2 c2 lo2 hi2 hS hS2 => countSecretAnswers_impl_no B c lo hi zs m B2 c2 lo2 hi2 qs k w hS hS2 h h2 hok, fun w B c lo hi B2 c2 lo2 hi2 hS hS2 => countSecretAnswers_spec_no B c lo hi zs m B2 c2 lo2 hi2 qs k w hS hS2 h h2 hok⟩
  | true =>
    obtain ⟨j, hs⟩ := sOK_iff hok
    exact ⟨_, true, fun w B c lo hi B2 c2 lo2 hi2 hS hS2 => countSecretAnswers_impl B c lo hi zs m B2 c2 lo2 hi2 qs k w hS hS2 j hs, fun w B c lo hi B2 c2 lo2 hi2 hS hS2 => countSecretAnswers_spec B c lo hi zs m B2 c2 lo2 hi2 qs k w hS hS2 j hs⟩
theorem secretAnswers_both (zs : List Int) (m : Int) (h : zs.length ≤ 1048576) (qs : List Int) (h2 : qs.length ≤ 1048576) (k : Int) : ∃ (r0 : List Bool) (r1 : Bool), r0.length ≤ 1048576 ∧
    (∀ (w : World) (B : Option Addr) (c lo hi : Nat) (B2 : Option Addr) (c2 lo2 hi2 : Nat), Ins w lo hi B zs → Ins w lo2 hi2 B2 qs → Calls Try.prog 41 #[.agg #[.slice B zs.length c, .int .i64 m], .slice B2 qs.length c2, .int .i64 k] w fun e w' => ∃ B c', e = .returned (.tuple #[.slice B r0.length c', .bool r1]) ∧ BResT w' w.heap.size w'.heap.size B r0 ∧ Below w.heap.size w w') ∧
    (∀ (w : World) (B : Option Addr) (c lo hi : Nat) (B2 : Option Addr) (c2 lo2 hi2 : Nat), Ins w lo hi B zs → Ins w lo2 hi2 B2 qs → Calls Try.prog 40 #[.agg #[.slice B zs.length c, .int .i64 m], .slice B2 qs.length c2, .int .i64 k] w fun e w' => ∃ B c', e = .returned (.tuple #[.slice B r0.length c', .bool r1]) ∧ BResT w' w.heap.size w'.heap.size B r0 ∧ Below w.heap.size w w') := by
  cases hok : sOK zs m qs k with
  | false => exact ⟨[], false, by simp, fun w B c lo hi B2 c2 lo2 hi2 hS hS2 => secretAnswers_impl_no B c lo hi zs m B2 c2 lo2 hi2 qs k w hS hS2 h h2 hok, fun w B c lo hi B2 c2 lo2 hi2 hS hS2 => secretAnswers_spec_no B c lo hi zs m B2 c2 lo2 hi2 qs k w hS hS2 h h2 hok⟩
  | true =>
    obtain ⟨j, hs⟩ := sOK_iff hok
    refine ⟨secB qs j, true, by rw [secB_len]; exact h2, ?_, ?_⟩
    · rw [secB_len]; exact fun w B c lo hi B2 c2 lo2 hi2 hS hS2 => secretAnswers_impl B c lo hi zs m B2 c2 lo2 hi2 qs k w hS hS2 j hs
    · rw [secB_len]; exact fun w B c lo hi B2 c2 lo2 hi2 hS hS2 => secretAnswers_spec B c lo hi zs m B2 c2 lo2 hi2 qs k w hS hS2 j hs
end Go.Proofs.Ytpjoljaamakagaa
