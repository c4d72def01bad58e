/- GreedyScheme: both. -/
import Derived.Test.YthjkmfjhcohhbaaGreedI
import Derived.Test.YthjkmfjhcohhbaaFit
namespace Go.Proofs.Ythjkmfjhcohhbaa
open Go.RowKit Go.ChangeShapes Go.WideShapes
set_option linter.unusedVariables false

set_option maxRecDepth 100000 in
set_option maxHeartbeats 2000000 in
theorem greedyScheme_impl (n M W : Nat) (w : World) (hG : GW M W) (hM : M ≤ 2) (hn : 1 ≤ n ∧ n ≤ 12) :
    Calls Try.prog 40 #[.int .i64 (n : Int), .int .i64 (M : Int)] w (LAns w (schL (gwI M n W) (gQ M n W)) true) := by
  have HC := Lib.hid (fun W => isSize_any (n : Int) W)
  rw [inB_t (x := (n : Int)) (a := 1) (b := 12) (by omega) (by omega)] at HC
  have HD := Lib.hid (fun W => isMost_any (M : Int) W)
  rw [inB_t (x := (M : Int)) (a := 0) (b := 2) (by omega) (by omega)] at HD
  have HW := Lib.hid (fun w => greedyWords_any n M W w hG hM hn)
  have hln := gwI_len hG hn.2
  have HL := Lib.hid hln
  have HS := Lib.hid (fun A c lo hi w h => shortest_any A c lo hi (gwI M n W) (gLast M n W) w h (by rw [hln]; exact hn) (gLast_lt hG hn) (gwI_max hG hn))
  have hok := gQ_ok hG hn
  have HQ : Hid (Lib.bitLen (gLast M n W) = gQ M n W) := Lib.hid rfl
  rw [HQ.out, sAns_yes hok, hok] at HS
  clear hok hln
  unfold LAns
  go_enter Try.func40, Try.ntmps40
  go_wp2_with fail
  refine (HC.out w).mono ?_
  rintro e w1 ⟨rfl, rfl⟩
  go_wp2_with fail
  refine (HD.out _).mono ?_
  rintro e w2 ⟨rfl, rfl⟩
  go_wp2_with fail
  refine (HW.out _).mono ?_
  rintro e w3 ⟨v, rfl, ho, hb⟩
  obtain ⟨A, c', rfl, _, hr⟩ := own_res ho HL.out.symm
  have HR := Lib.hid hr.ins
  have HB := Lib.hid hb
  have HSk := Lib.hid (fun W h => HS.out A c' w2.heap.size w3.heap.size W h)
  clear ho hr hb HS
  go_wp2_with fail
  refine (HSk.out _ HR.out).mono ?_
  rintro e w4 ⟨B, c2, rfl, hr, hb⟩
  have HR2 := Lib.hid (Res.mk (hr.own.wide HB.out.size (Nat.le_refl _)) hr.top)
  have HB2 := Lib.hid (below_trans HB.out hb)
  clear hr hb
  go_wp2
  go_ret2
  exact ⟨B, c2, rfl, HR2.out, HB2.out⟩

/-- The first words among those below V. -/
def gT (d n V : Nat) : List Int := ((gr d V).take n).map Int.ofNat
theorem gT_len (d n V : Nat) : (gT d n V).length = min n (gr d V).length := by simp [gT]
theorem gT_full {d n V k : Nat} (hk : k ≤ V) (h : (gr d k).length = n) : gI d k = gT d n V := by
  unfold gI gT
  rw [gr_take d hk (by omega), List.take_of_length_le (by omega)]
theorem gT_end {d n V : Nat} (h : (gr d V).length ≤ n) : gI d V = gT d n V := by
  unfold gI gT
  rw [List.take_of_length_le h]
theorem gr_len_step (d k : Nat) : (gr d (k + 1)).length ≤ (gr d k).length + 1 := by
  cases h : farB d (gr d k) k with
  | true => rw [gr_yes h]; simp
  | false => rw [gr_no h]; omega
theorem lit_one (w : World) (x : Int) : (w.alloc (.cells #[.int .i64 x] 3)).ownsRow w.heap.size 3 1 (.slice (some ⟨w.heap.size, 0, none⟩) 1 1) [x].length ([x].map (Value.int .i64)) :=
  World.ownsRow_lit w (e := 3) (size := 1) (base := w.heap.size) #[.int .i64 x] 1 (Nat.le_refl _) (by unfold maxLen; omega) rfl

set_option maxRecDepth 100000 in
set_option maxHeartbeats 1000000 in
theorem l5Greedy_any (n M q : Nat) (w : World) (hM : M ≤ 2) (hn : 1 ≤ n ∧ n ≤ 12) (hq : q ≤ 14) :
    Calls Try.prog 70 #[.int .i64 (n : Int), .int .i64 (M : Int), .int .i64 (q : Int)] w fun e w' => ∃ v, e = .returned v ∧ w'.ownsRow w.heap.size 3 1 v (gT (2 * M) n (2 ^ q)).length ((gT (2 * M) n (2 ^ q)).map (Value.int .i64)) ∧ Below w.heap.size w w' := by
  obtain ⟨i0, hi0, hz0, hz1, hz2⟩ := info_parts infoI3
  have HF := Lib.hid (fun A c lo hi k W h (hk : k < 2 ^ 14) (hl : (gr (2 * M) k).length ≤ 12) => l5Fit_any A c lo hi (gr (2 * M) k) k (2 * M) W h (fun v hv => Nat.lt_trans (gr_lt _ _ hv) hk) hk hl (by omega))
  have O0 := Lib.hid (lit_one w 0)
  have P0 := Lib.hid (Past.of_below (B := w.heap.size) ((Below.refl w.heap.size w).alloc (Nat.le_refl _) (.cells #[.int .i64 0] 3)))
  have hp := pow_le14 q hq
  have hpc : (2 : Int) ^ q = ((2 ^ q : Nat) : Int) := by norm_cast
  have hp1 : 1 ≤ 2 ^ q := Nat.one_le_two_pow
  have hp2 : 2 ^ q ≤ 2 ^ 14 := pow_mono14 hq
  have HP2 := Lib.hid hp2
  clear hp2
  go_enter Try.func70, Try.ntmps70
  go_wp2_with fail
  generalize w.alloc (.cells #[.int .i64 0] 3) = wa at O0 P0 ⊢
  go_loopw [7, 8] (fun out i wr => ∃ (k : Nat), 1 ≤ k ∧ k ≤ 2 ^ q ∧ i = .int .i64 k ∧ (gr (2 * M) k).length ≤ n ∧ Hid (wr.ownsRow w.heap.size 3 1 out (gI (2 * M) k).length ((gI (2 * M) k).map (Value.int .i64))) ∧ Hid (Past w.heap.size w wr)) (fun _ i _ => 2 ^ q - (intOf i).toNat)
  case atStart => exact ⟨1, Nat.le_refl _, hp1, rfl, by rw [gr_one]; exact hn.1, O0, P0⟩
  case round =>
    clear O0 P0
    obtain ⟨k, hk1, hk, rfl, hlen, HO, HP⟩ := hrel
    rename World => wr
    obtain ⟨A, c', rfl, _, hr⟩ := own_res HO.out rfl
    have HR := Lib.hid hr.ins
    have hgl := gI_len (2 * M) k
    have hsz := HP.out.size
    clear hr
    by_cases hlt : k < 2 ^ q
    · have hltI : (k : Int) < (2 : Int) ^ q := by omega
      by_cases hl : (gr (2 * M) k).length < n
      · have hlI : ((gI (2 * M) k).length : Int) < (n : Int) := by omega
        have hk14 : k < 16384 := by have := HP2.out; omega
        have hcM : ((2 * M : Nat) : Int) = 2 * (M : Int) := by push_cast; rfl
        have HFk := Lib.hid (HF.out A c' w.heap.size wr.heap.size k wr HR.out hk14 (by omega))
        rw [← hgl, hcM] at HFk
        have hst := gr_len_step (2 * M) k
        have hgb : (gI (2 * M) k).length ≤ 12 := by omega
        have hst2 : (gr (2 * M) (k + 1)).length ≤ n := by omega
        clear hcM hgl hst
        cases hfb : farB (2 * M) (gr (2 * M) k) k with
        | true =>
          have hz := Lib.hid (fit_far.2 hfb)
          have HG2 := Lib.hid (gI_yes hfb)
          clear hfb hpc
          go_wp2_with fail
          refine HFk.out.mono ?_
          rintro e w4 ⟨v, rfl, ho, hb⟩
          obtain ⟨B4, c4, rfl, _, _⟩ := own_res ho rfl
          have hown := own_step HO.out hb
          have HP4 := Lib.hid (HP.out.trans (Past.of_below hb))
          have hsz4 := HP4.out.size
          rw [hz.out]
          clear ho hb HFk HR HO HP hz
          go_wp2_with (at_builtin; refine wpList_append_own _ rfl _ _ 22 rfl w.heap.size 3 i0 (.int .i64 0) 1 8 Try.underlying22 hi0 hz0 hz1 hz2 rfl (by decide) _ _ _ rfl (hown.alloc _) ⟨_, 0, none⟩ 1 1 [.int .i64 (k : Int)] rfl rfl (cell_one_new _ _ _) (by simp [Value.oneCell']) (by unfold maxLen; omega) (by omega) (by simp; omega) ?_; intro v' w5 hown' hgrow _)
          have HO2 := Lib.hid (own_snocI hown' rfl)
          have HP2' := Lib.hid (HP4.out.trans (Past.grown hown hgrow))
          clear hown' hgrow hown
          go_wp2
          go_roundw
          case rel => exact ⟨k + 1, by omega, by omega, by go_num, by omega, by rw [HG2.out]; exact HO2, HP2'⟩
          case measure => simp [intOf]; omega
        | false =>
          have hz : (fitL (gr (2 * M) k) k (2 * M)).length ≠ 0 := fun h => by rw [fit_far.1 h] at hfb; cases hfb
          have HG2 := Lib.hid (gI_no hfb)
          have HG3 := Lib.hid (gr_no hfb)
          have hzI : (((fitL (gr (2 * M) k) k (2 * M)).length : Int) == 0) = false := by simp; exact fun h => hz (by rw [h]; rfl)
          clear hfb hpc hz
          go_wp2_with fail
          refine HFk.out.mono ?_
          rintro e w4 ⟨v, rfl, ho, hb⟩
          obtain ⟨B4, c4, rfl, _, _⟩ := own_res ho rfl
          have HO4 := Lib.hid (own_step HO.out hb)
          have HP4 := Lib.hid (HP.out.trans (Past.of_below hb))
          clear ho hb HFk HR HO HP
          generalize (fitL (gr (2 * M) k) k (2 * M)).length = z at hzI ⊢
          go_wp2
          go_roundw
          case rel => exact ⟨k + 1, by omega, by omega, by go_num, by rw [HG3.out]; exact hlen, by rw [HG2.out]; exact HO4, HP4⟩
          case measure => simp [intOf]; omega
      · have hlI : ¬ ((gI (2 * M) k).length : Int) < (n : Int) := by omega
        have HE := Lib.hid (gT_full (d := 2 * M) (n := n) (V := 2 ^ q) (k := k) hk (by omega))
        clear hpc hgl
        go_wp2
        go_ret
        exact ⟨_, rfl, by rw [← HE.out]; exact HO.out, HP.out.below (Nat.le_refl _) (Nat.le_refl _)⟩
    · have hltI : ¬ (k : Int) < (2 : Int) ^ q := by omega
      have hkq : k = 2 ^ q := by omega
      have HE := Lib.hid (gT_end (d := 2 * M) (n := n) (V := 2 ^ q) (by rw [← hkq]; exact hlen))
      rw [← hkq] at HE
      have HK := Lib.hid hkq
      clear hpc hkq hgl
      go_wp2
      go_ret
      rw [← HK.out, ← HE.out]
      exact ⟨_, rfl, HO.out, HP.out.below (Nat.le_refl _) (Nat.le_refl _)⟩

set_option maxRecDepth 100000 in
set_option maxHeartbeats 2000000 in
theorem greedyScheme_spec (n M W : Nat) (w : World) (hG : GW M W) (hM : M ≤ 2) (hn : 1 ≤ n ∧ n ≤ 12) :
    Calls Try.prog 39 #[.int .i64 (n : Int), .int .i64 (M : Int)] w (LAns w (schL (gwI M n W) (gQ M n W)) true) := by
  have HC := Lib.hid (fun W => l2Numbers_any (n : Int) W)
  rw [inB_t (x := (n : Int)) (a := 1) (b := 12) (by omega) (by omega)] at HC
  have HD := Lib.hid (fun W => l1In_any (M : Int) 0 2 W)
  rw [inB_t (x := (M : Int)) (a := 0) (b := 2) (by omega) (by omega)] at HD
  have hL := gQ_le hG hn
  have hln := gwI_len hG hn.2
  have HL := Lib.hid hln
  have HI := Lib.hid (fun q (hq : q ≤ 14) => gQ_iff (q := q) hG hn hq)
  have HT := Lib.hid (fun q (hq : q ≤ 14) (h : n ≤ (gr (2 * M) (2 ^ q)).length) => gwI_take (M := M) (n := n) (W := W) (k := 2 ^ q) (by rw [hG.eq]; exact pow_mono14 hq) h)
  have HW := Lib.hid (fun q (hq : q ≤ 14) w => l5Greedy_any n M q w hM hn hq)
  have HO := Lib.hid (fun A c lo hi W' h => l5Of_any A c lo hi (gwI M n W) (gQ M n W) W' h (by rw [hln]; exact hn.2) hL)
  generalize gQ M n W = L at hL HI HO ⊢
  clear hln
  unfold LAns
  go_enter Try.func39, Try.ntmps39
  go_wp2_with fail
  refine (HC.out w).mono ?_
  rintro e w1 ⟨rfl, rfl⟩
  go_wp2_with fail
  refine (HD.out _).mono ?_
  rintro e w2 ⟨rfl, rfl⟩
  go_wp2_with fail
  go_loopw [6] (fun i wr => ∃ (q : Nat), q ≤ L ∧ i = .int .i64 q ∧ Hid (Below w2.heap.size w2 wr)) (fun i _ => L + 1 - (intOf i).toNat)
  case atStart => exact ⟨0, Nat.zero_le _, rfl, Lib.hid (Below.refl _ _)⟩
  case round =>
    obtain ⟨q, hq, rfl, HB⟩ := hrel
    rename World => wr
    have hWq := HW.out q (by omega) wr
    have hgt := gT_len (2 * M) n (2 ^ q)
    have hiff := HI.out q (by omega)
    have HTq := HT.out q (by omega)
    have HWq := Lib.hid hWq
    clear hWq
    by_cases hlt : q < L
    · have hle : (gT (2 * M) n (2 ^ q)).length < n := by
        rcases Nat.lt_or_ge (gr (2 * M) (2 ^ q)).length n with h | h
        · omega
        · have := hiff.1 h; omega
      have heqI : (((gT (2 * M) n (2 ^ q)).length : Int) == (n : Int)) = false := by simp; omega
      clear hgt hiff HTq hle
      go_wp2_with fail
      refine HWq.out.mono ?_
      rintro e w4 ⟨v, rfl, ho, hb⟩
      obtain ⟨B4, c4, rfl, _, _⟩ := own_res ho rfl
      have HB4 := Lib.hid (below_trans HB.out hb)
      clear ho hb HB HWq
      generalize (gT (2 * M) n (2 ^ q)).length = z at heqI ⊢
      go_wp2
      go_roundw
      case rel => exact ⟨q + 1, by omega, by go_num, HB4⟩
      case measure => simp [intOf]; omega
    · obtain rfl : q = L := by omega
      have hge := hiff.2 (Nat.le_refl _)
      have e : gT (2 * M) n (2 ^ q) = gwI M n W := HTq hge
      rw [e] at HWq hgt
      have hn2 := HL.out
      rw [hn2] at HWq hgt
      have heqI : ((n : Int) == (n : Int)) = true := by simp
      clear hgt hiff HTq e hge hn2
      go_wp2_with fail
      refine HWq.out.mono ?_
      rintro e w4 ⟨v, rfl, ho, hb⟩
      obtain ⟨B4, c4, rfl, _, hr⟩ := own_res ho HL.out.symm
      have HR := Lib.hid hr.ins
      have HB4 := Lib.hid (below_trans HB.out hb)
      have hsz := HB4.out.size
      have HOk := Lib.hid (HO.out B4 c4 _ _ w4 HR.out)
      rw [HL.out] at HOk ⊢
      clear ho hb HB HWq hr
      go_wp2_with fail
      refine HOk.out.mono ?_
      rintro e w5 ⟨rfl, hq5, hb⟩
      have HQ := Lib.hid hq5
      have HB5 := Lib.hid (below_trans HB4.out hb)
      clear hq5 hb
      go_wp2
      go_ret2
      exact lans_qrow (grow5_len _ _ _) rfl hsz HQ.out HB5.out
theorem greedyScheme_both (n m : Int) : ∃ (r0 : List Int) (r1 : Bool), r0.length ≤ 1048576 ∧
    (∀ (w : World), Calls Try.prog 40 #[.int .i64 n, .int .i64 m] w fun e w' => ∃ B c', e = .returned (.tuple #[.slice B r0.length c', .bool r1]) ∧ Res w' w.heap.size w'.heap.size B r0 ∧ Below w.heap.size w w') ∧
    (∀ (w : World), Calls Try.prog 39 #[.int .i64 n, .int .i64 m] w fun e w' => ∃ B c', e = .returned (.tuple #[.slice B r0.length c', .bool r1]) ∧ Res w' w.heap.size w'.heap.size B r0 ∧ Below w.heap.size w w') := by
  by_cases h : inB n 1 12 = true ∧ inB m 0 2 = true
  · obtain ⟨h1, h2⟩ := h
    have b1 := inB_iff.1 h1
    have b2 := inB_iff.1 h2
    obtain ⟨a, rfl⟩ : ∃ a : Nat, n = (a : Int) := ⟨n.toNat, by omega⟩
    obtain ⟨M, rfl⟩ : ∃ M : Nat, m = (M : Int) := ⟨m.toNat, by omega⟩
    obtain ⟨W, hG⟩ := GW.ex (M := M) (by omega)
    exact ⟨schL (gwI M a W) (gQ M a W), true, by have := gQ_le hG (n := a) (by omega); simp only [schL, grow5_len]; omega, fun w => greedyScheme_impl a M W w hG (by omega) (by omega), fun w => greedyScheme_spec a M W w hG (by omega) (by omega)⟩
  · have HC := Lib.hid (fun W => isSize_any n W)
    have HF := Lib.hid (fun W => l2Numbers_any n W)
    have HD := Lib.hid (fun W => isMost_any m W)
    have HE := Lib.hid (fun W => l1In_any m 0 2 W)
    cases h1 : inB n 1 12 with
    | false =>
      rw [h1] at HC HF
      clear h h1
      refine ⟨[], false, by simp, fun w => ?_, fun w => ?_⟩
      · go_enter Try.func40, Try.ntmps40
        go_wp2_with (first | (go_at_call 44; refine (HC.out _).mono ?_; rintro e w1 ⟨rfl, rfl⟩))
        go_ret2
        exact lans_nil (Below.refl _ _)
      · go_enter Try.func39, Try.ntmps39
        go_wp2_with (first | (go_at_call 54; refine (HF.out _).mono ?_; rintro e w1 ⟨rfl, rfl⟩))
        go_ret2
        exact lans_nil (Below.refl _ _)
    | true =>
      have h2 : inB m 0 2 = false := by
        cases h2 : inB m 0 2 with
        | false => rfl
        | true => exact absurd ⟨h1, h2⟩ h
      rw [h1] at HC HF
      rw [h2] at HD HE
      clear h h1 h2
      refine ⟨[], false, by simp, fun w => ?_, fun w => ?_⟩
      · go_enter Try.func40, Try.ntmps40
        go_wp2_with (first | (go_at_call 44; refine (HC.out _).mono ?_; rintro e w1 ⟨rfl, rfl⟩) | (go_at_call 62; refine (HD.out _).mono ?_; rintro e w1 ⟨rfl, rfl⟩))
        go_ret2
        exact lans_nil (Below.refl _ _)
      · go_enter Try.func39, Try.ntmps39
        go_wp2_with (first | (go_at_call 54; refine (HF.out _).mono ?_; rintro e w1 ⟨rfl, rfl⟩) | (go_at_call 47; refine (HE.out _).mono ?_; rintro e w1 ⟨rfl, rfl⟩))
        go_ret2
        exact lans_nil (Below.refl _ _)
end Go.Proofs.Ythjkmfjhcohhbaa
