/- FitNumbers: both. -/
import Derived.Test.YthjkmfjhcohhbaaFits
import Derived.Test.YthjkmfjhcohhbaaGapS
namespace Go.Proofs.Ythjkmfjhcohhbaa
open Go.RowKit Go.ChangeShapes Go.WideShapes
set_option linter.unusedVariables false

theorem fitTo_yes {ws : List Nat} {x m k : Nat} (h : apartN (ws.getD k 0) x ≤ m) : fitTo ws x m (k + 1) = fitTo ws x m k ++ [(k : Int)] := filt_yes (by simpa using h)
theorem fitTo_no {ws : List Nat} {x m k : Nat} (h : ¬ apartN (ws.getD k 0) x ≤ m) : fitTo ws x m (k + 1) = fitTo ws x m k := filt_no (by simpa using h)
theorem natI_at {ws : List Nat} {k : Nat} (h : k < ws.length) : (ws.map Int.ofNat)[k]? = some ((ws.getD k 0 : Nat) : Int) := by simp [List.getD, h]
theorem getD_mem {ws : List Nat} {k : Nat} (h : k < ws.length) : ws.getD k 0 ∈ ws := by
  have : ws.getD k 0 = ws[k] := by simp [List.getD, h]
  rw [this]
  exact List.getElem_mem h
set_option maxRecDepth 100000 in
set_option maxHeartbeats 2000000 in
theorem l5Fit_any (A : Option Addr) (c lo hi : Nat) (ws : List Nat) (x m : Nat) (w : World) (hS : Ins w lo hi A (ws.map Int.ofNat)) (hw : ∀ v ∈ ws, v < 2 ^ 14) (hx : x < 2 ^ 14) (hl : ws.length ≤ 12) (hm : m ≤ 14) :
    Calls Try.prog 68 #[.slice A ws.length c, .int .i64 (x : Int), .int .i64 (m : Int)] w fun e w' => ∃ v, e = .returned v ∧ w'.ownsRow w.heap.size 3 1 v (fitL ws x m).length ((fitL ws x m).map (Value.int .i64)) ∧ Below w.heap.size w w' := by
  obtain ⟨i0, hi0, hz0, hz1, hz2⟩ := info_parts infoI3
  have HI := Lib.hid hS
  have htop := hS.top
  have HA := Lib.hid (fun k (hk : k < ws.length) W => l5Apart_any (ws.getD k 0) x W (hw _ (getD_mem hk)) hx)
  have HWl := Lib.hid (fun k (hk : k < ws.length) => hw _ (getD_mem hk))
  have hx2 : x < 16384 := hx
  have O0 := Lib.hid (O0_any w w.heap.size (Nat.le_refl _))
  clear hS hw hx
  go_enter Try.func68, Try.ntmps68
  go_wp2_with fail
  go_loopw [7, 8] (fun out i wr => ∃ (k : Nat), k ≤ ws.length ∧ i = .int .i64 k ∧ Hid (wr.ownsRow w.heap.size 3 1 out (fitTo ws x m k).length ((fitTo ws x m k).map (Value.int .i64))) ∧ Hid (Past w.heap.size w wr)) (fun _ i _ => ws.length - (intOf i).toNat)
  case atStart => exact ⟨0, Nat.zero_le _, rfl, (by first | exact O0.out | exact O0), Past.of_below ((Below.refl _ _).alloc (Nat.le_refl _) _)⟩
  case round =>
    obtain ⟨k, hk, rfl, HO, HP⟩ := hrel
    rename World => wr
    have hsz := HP.out.size
    by_cases hlt : k < ws.length
    · obtain ⟨b, o, rfl, _, hb, hcs⟩ := (HI.out.past HP.out htop).ints (by simp; omega)
      have hcell := hcs k _ (natI_at hlt)
      have HAk := Lib.hid (HA.out k hlt)
      have hwk : ws.getD k 0 < 16384 := HWl.out k hlt
      have hap := apartN_le (ws.getD k 0) x
      have hfl := fitTo_len ws x m k
      have HY := Lib.hid (fitTo_yes (ws := ws) (x := x) (m := m) (k := k))
      have HN := Lib.hid (fitTo_no (ws := ws) (x := x) (m := m) (k := k))
      clear hcs
      generalize fitTo ws x m k = f at HO hfl HY HN
      generalize apartN (ws.getD k 0) x = a at HAk hap HY HN
      generalize ws.getD k 0 = u at hcell HAk hwk
      have hown := HO.out
      by_cases hle : a ≤ m
      · have HF := Lib.hid (HY.out hle)
        clear HY HN
        go_wp2_with (first | (go_at_call 76; refine (HAk.out _).mono ?_; rintro e w1 ⟨rfl, rfl⟩) | (at_builtin; refine wpList_append_own _ rfl _ _ 22 rfl w.heap.size 3 i0 (.int .i64 0) 1 8 Try.underlying22 hi0 hz0 hz1 hz2 rfl (by decide) _ _ _ rfl (hown.alloc _) ⟨_, 0, none⟩ 1 1 [.int .i64 (k : Int)] rfl rfl (cell_one_new _ _ _) (by simp [Value.oneCell']) (by unfold maxLen; omega) (by omega) (by simp; omega) ?_; intro v' w1 hown' hgrow _))
        have HO2 := Lib.hid (own_snocI hown' rfl)
        have HP2 := Lib.hid (HP.out.trans (Past.grown hown hgrow))
        clear hown' hgrow hown HO
        go_wp2
        go_roundw
        case rel => exact ⟨k + 1, by omega, by go_num, by rw [HF.out]; exact HO2.out, HP2.out⟩
        case measure => simp [intOf]; omega
      · have HF := Lib.hid (HN.out hle)
        clear HY HN
        go_wp2_with (first | (go_at_call 76; refine (HAk.out _).mono ?_; rintro e w1 ⟨rfl, rfl⟩))
        go_roundw
        case rel => exact ⟨k + 1, by omega, by go_num, by rw [HF.out]; exact hown, HP.out⟩
        case measure => simp [intOf]; omega
    · obtain rfl : k = ws.length := by omega
      go_wp2
      go_ret
      exact ⟨_, rfl, HO.out, HP.out.below (Nat.le_refl _) (Nat.le_refl _)⟩

theorem twL_14 {qs : List Int} (hl : qs.length ≤ 14) (n : Nat) : ∀ v ∈ twL qs n, v < 2 ^ 14 := fun v hv => by
  simp [twL] at hv
  obtain ⟨k, _, rfl⟩ := hv
  exact twN_14 hl k
theorem word_nat {m : Nat} {x : Int} (hm : m ≤ 14) (h : wOK m x = true) : ∃ v : Nat, x = (v : Int) ∧ v < 2 ^ m ∧ v < 2 ^ 14 := by
  have h2 := wOK_iff.1 h
  have e : (2 : Int) ^ m = ((2 ^ m : Nat) : Int) := by norm_cast
  have hp := pow_mono14 hm
  exact ⟨x.toNat, by omega, by omega, by omega⟩
set_option maxRecDepth 100000 in
set_option maxHeartbeats 2000000 in
theorem fitNumbers_yes (A : Option Addr) (c lo hi : Nat) (n : Nat) (qs : List Int) (x m : Nat) (w : World) (hS : Ins w lo hi A qs) (hs : isSch n qs = true) (hx : wOK qs.length (x : Int) = true) (hm : m ≤ 14) :
    Calls Try.prog 34 #[.int .i64 (n : Int), .slice A qs.length c, .int .i64 (x : Int), .int .i64 (m : Int)] w (LAns w (fitL (twL qs n) x m) true) := by
  obtain ⟨hn, hl, _⟩ := isSch_iff.1 hs
  obtain ⟨x', e, _, hx14⟩ := word_nat hl hx
  obtain rfl : x = x' := by omega
  have HI := Lib.hid hS
  have HC := Lib.hid (fun W h => isScheme_impl A c lo hi (n : Int) qs W h (by omega))
  have HD := Lib.hid (fun W => isWord_any qs.length (x : Int) W hl)
  have HE := Lib.hid (fun W => isSchemeSize_any (m : Int) W)
  rw [hs] at HC
  rw [hx] at HD
  rw [inB_t (x := (m : Int)) (a := 0) (b := 14) (by omega) (by omega)] at HE
  have HH := Lib.hid (fun W h => holdersOf_any A c lo hi qs n W h hl (by omega))
  have HA := Lib.hid (fun W => answersOf_any x W hx14)
  have HW := Lib.hid (fun M base D W h => within_any M base qs n x m D W h hl (by omega) hm)
  clear hS hs hx e hn
  go_enter Try.func34, Try.ntmps34
  go_wp2_with fail
  refine (HC.out w HI.out).mono ?_
  rintro e w1 ⟨rfl, rfl⟩
  go_wp2_with fail
  refine (HD.out _).mono ?_
  rintro e w2 ⟨rfl, rfl⟩
  go_wp2_with fail
  refine (HE.out _).mono ?_
  rintro e w3 ⟨rfl, rfl⟩
  go_wp2_with fail
  refine (HH.out _ HI.out).mono ?_
  rintro e w4 ⟨base, D, rfl, hh, hb⟩
  have HHo := Lib.hid hh
  have HB := Lib.hid hb
  clear hh hb
  go_wp2_with fail
  refine (HA.out _).mono ?_
  rintro e w5 ⟨rfl, hb⟩
  have HHo2 := Lib.hid (HHo.out.step hb)
  have HB2 := Lib.hid (below_trans HB.out hb)
  clear hb HHo HB
  go_wp2_with fail
  refine (HW.out _ base D _ HHo2.out).mono ?_
  rintro e w6 ⟨v, rfl, ho, hb⟩
  have HO := Lib.hid (own_base ho HB2.out.size)
  have HB3 := Lib.hid (below_trans HB2.out hb)
  clear ho hb HHo2 HB2
  go_wp2
  go_ret2
  exact lans_own rfl HO.out HB3.out
set_option maxRecDepth 100000 in
set_option maxHeartbeats 2000000 in
theorem fitNumbers_yesS (A : Option Addr) (c lo hi : Nat) (n : Nat) (qs : List Int) (x m : Nat) (w : World) (hS : Ins w lo hi A qs) (hs : isSch n qs = true) (hx : wOK qs.length (x : Int) = true) (hm : m ≤ 14) :
    Calls Try.prog 33 #[.int .i64 (n : Int), .slice A qs.length c, .int .i64 (x : Int), .int .i64 (m : Int)] w (LAns w (fitL (twL qs n) x m) true) := by
  obtain ⟨hn, hl, _⟩ := isSch_iff.1 hs
  obtain ⟨x', e, _, hx14⟩ := word_nat hl hx
  obtain rfl : x = x' := by omega
  have HI := Lib.hid hS
  have HC := Lib.hid (fun W h => l5Scheme_any A c lo hi (n : Int) qs W h (by omega))
  have HD := Lib.hid (fun W => l5Word_any qs.length (x : Int) W hl)
  have HE := Lib.hid (fun W => l1In_any (m : Int) 0 14 W)
  rw [hs] at HC
  rw [hx] at HD
  rw [inB_t (x := (m : Int)) (a := 0) (b := 14) (by omega) (by omega)] at HE
  have HH := Lib.hid (fun W h => l5Words_any A c lo hi qs n W h hl (by omega))
  have HW := Lib.hid (fun B c' lo hi W h => l5Fit_any B c' lo hi (twL qs n) x m W h (twL_14 hl n) hx14 (by rw [twL_len]; omega) hm)
  have HL := Lib.hid (twL_len qs n)
  clear hS hs hx e hn
  go_enter Try.func33, Try.ntmps33
  go_wp2_with fail
  refine (HC.out w HI.out).mono ?_
  rintro e w1 ⟨rfl, rfl⟩
  go_wp2_with fail
  refine (HD.out _).mono ?_
  rintro e w2 ⟨rfl, rfl⟩
  go_wp2_with fail
  refine (HE.out _).mono ?_
  rintro e w3 ⟨rfl, rfl⟩
  go_wp2_with fail
  refine (HH.out _ HI.out).mono ?_
  rintro e w4 ⟨v, rfl, ho, hb⟩
  obtain ⟨B, c', rfl, _, hr⟩ := own_res ho rfl
  have HR := Lib.hid hr.ins
  have HB := Lib.hid hb
  have HWk := Lib.hid (HW.out B c' _ _ w4 HR.out)
  rw [HL.out] at HWk
  rw [List.length_map, HL.out]
  clear ho hb hr HW
  go_wp2_with fail
  refine HWk.out.mono ?_
  rintro e w6 ⟨v, rfl, ho, hb⟩
  have HO := Lib.hid (own_base ho HB.out.size)
  have HB3 := Lib.hid (below_trans HB.out hb)
  clear ho hb
  go_wp2
  go_ret2
  exact lans_own rfl HO.out HB3.out
set_option maxHeartbeats 2000000 in
theorem fitNumbers_no (A : Option Addr) (c lo hi : Nat) (n : Int) (qs : List Int) (x m : Int) (w : World) (hS : Ins w lo hi A qs) (hl : qs.length ≤ 1048576) (h : isSch n qs = false ∨ (isSch n qs = true ∧ (wOK qs.length x = false ∨ (wOK qs.length x = true ∧ inB m 0 14 = false)))) :
    Calls Try.prog 34 #[.int .i64 n, .slice A qs.length c, .int .i64 x, .int .i64 m] w (LAns w [] false) := by
  have HI := Lib.hid hS
  have HC := Lib.hid (fun W h => isScheme_impl A c lo hi n qs W h hl)
  have HD := Lib.hid (fun (h14 : qs.length ≤ 14) W => isWord_any qs.length x W h14)
  have HE := Lib.hid (fun W => isSchemeSize_any m W)
  clear hS
  rcases h with h | ⟨h, h2⟩
  · rw [h] at HC
    clear h
    go_enter Try.func34, Try.ntmps34
    go_wp2_with fail
    refine (HC.out w HI.out).mono ?_
    rintro e w1 ⟨rfl, rfl⟩
    go_wp2
    go_ret2
    exact lans_nil (Below.refl _ _)
  · obtain ⟨_, hl14, _⟩ := isSch_iff.1 h
    rw [h] at HC
    rcases h2 with h2 | ⟨h2, h3⟩
    · rw [h2] at HD
      clear h h2
      go_enter Try.func34, Try.ntmps34
      go_wp2_with fail
      refine (HC.out w HI.out).mono ?_
      rintro e w1 ⟨rfl, rfl⟩
      go_wp2_with fail
      refine (HD.out hl14 _).mono ?_
      rintro e w2 ⟨rfl, rfl⟩
      go_wp2
      go_ret2
      exact lans_nil (Below.refl _ _)
    · rw [h2] at HD
      rw [h3] at HE
      clear h h2 h3
      go_enter Try.func34, Try.ntmps34
      go_wp2_with fail
      refine (HC.out w HI.out).mono ?_
      rintro e w1 ⟨rfl, rfl⟩
      go_wp2_with fail
      refine (HD.out hl14 _).mono ?_
      rintro e w2 ⟨rfl, rfl⟩
      go_wp2_with fail
      refine (HE.out _).mono ?_
      rintro e w3 ⟨rfl, rfl⟩
      go_wp2
      go_ret2
      exact lans_nil (Below.refl _ _)
set_option maxHeartbeats 2000000 in
theorem fitNumbers_noS (A : Option Addr) (c lo hi : Nat) (n : Int) (qs : List Int) (x m : Int) (w : World) (hS : Ins w lo hi A qs) (hl : qs.length ≤ 1048576) (h : isSch n qs = false ∨ (isSch n qs = true ∧ (wOK qs.length x = false ∨ (wOK qs.length x = true ∧ inB m 0 14 = false)))) :
    Calls Try.prog 33 #[.int .i64 n, .slice A qs.length c, .int .i64 x, .int .i64 m] w (LAns w [] false) := by
  have HI := Lib.hid hS
  have HC := Lib.hid (fun W h => l5Scheme_any A c lo hi n qs W h hl)
  have HD := Lib.hid (fun (h14 : qs.length ≤ 14) W => l5Word_any qs.length x W h14)
  have HE := Lib.hid (fun W => l1In_any m 0 14 W)
  clear hS
  rcases h with h | ⟨h, h2⟩
  · rw [h] at HC
    clear h
    go_enter Try.func33, Try.ntmps33
    go_wp2_with fail
    refine (HC.out w HI.out).mono ?_
    rintro e w1 ⟨rfl, rfl⟩
    go_wp2
    go_ret2
    exact lans_nil (Below.refl _ _)
  · obtain ⟨_, hl14, _⟩ := isSch_iff.1 h
    rw [h] at HC
    rcases h2 with h2 | ⟨h2, h3⟩
    · rw [h2] at HD
      clear h h2
      go_enter Try.func33, Try.ntmps33
      go_wp2_with fail
      refine (HC.out w HI.out).mono ?_
      rintro e w1 ⟨rfl, rfl⟩
      go_wp2_with fail
      refine (HD.out hl14 _).mono ?_
      rintro e w2 ⟨rfl, rfl⟩
      go_wp2
      go_ret2
      exact lans_nil (Below.refl _ _)
    · rw [h2] at HD
      rw [h3] at HE
      clear h h2 h3
      go_enter Try.func33, Try.ntmps33
      go_wp2_with fail
      refine (HC.out w HI.out).mono ?_
      rintro e w1 ⟨rfl, rfl⟩
      go_wp2_with fail
      refine (HD.out hl14 _).mono ?_
      rintro e w2 ⟨rfl, rfl⟩
      go_wp2_with fail
      refine (HE.out _).mono ?_
      rintro e w3 ⟨rfl, rfl⟩
      go_wp2
      go_ret2
      exact lans_nil (Below.refl _ _)
theorem fitNumbers_both (n : Int) (qs : List Int) (h : qs.length ≤ 1048576) (x m : Int) : ∃ (r0 : List Int) (r1 : Bool), r0.length ≤ 1048576 ∧
    (∀ (w : World) (B : Option Addr) (c lo hi : Nat), Ins w lo hi B qs → Calls Try.prog 34 #[.int .i64 n, .slice B qs.length c, .int .i64 x, .int .i64 m] w fun e w' => ∃ B c', e = .returned (.tuple #[.slice B r0.length c', .bool r1]) ∧ Res w' w.heap.size w'.heap.size B r0 ∧ Below w.heap.size w w') ∧
    (∀ (w : World) (B : Option Addr) (c lo hi : Nat), Ins w lo hi B qs → Calls Try.prog 33 #[.int .i64 n, .slice B qs.length c, .int .i64 x, .int .i64 m] w fun e w' => ∃ B c', e = .returned (.tuple #[.slice B r0.length c', .bool r1]) ∧ Res w' w.heap.size w'.heap.size B r0 ∧ Below w.heap.size w w') := by
  by_cases hok : isSch n qs = true ∧ wOK qs.length x = true ∧ inB m 0 14 = true
  · obtain ⟨h1, h2, h3⟩ := hok
    obtain ⟨hn, hl, _⟩ := isSch_iff.1 h1
    obtain ⟨v, rfl, _, _⟩ := word_nat hl h2
    have hm := inB_iff.1 h3
    obtain ⟨k, rfl⟩ : ∃ k : Nat, n = (k : Int) := ⟨n.toNat, by omega⟩
    obtain ⟨M, rfl⟩ : ∃ M : Nat, m = (M : Int) := ⟨m.toNat, by omega⟩
    exact ⟨fitL (twL qs k) v M, true, by have := fitL_len (twL qs k) v M; rw [twL_len] at this; omega, fun w B c lo hi hS => fitNumbers_yes B c lo hi k qs v M w hS h1 h2 (by omega), fun w B c lo hi hS => fitNumbers_yesS B c lo hi k qs v M w hS h1 h2 (by omega)⟩
  · have h2 : isSch n qs = false ∨ (isSch n qs = true ∧ (wOK qs.length x = false ∨ (wOK qs.length x = true ∧ inB m 0 14 = false))) := by
      cases ha : isSch n qs <;> cases hb : wOK qs.length x <;> cases hc : inB m 0 14 <;> simp_all
    exact ⟨[], false, by simp, fun w B c lo hi hS => fitNumbers_no B c lo hi n qs x m w hS h h2, fun w B c lo hi hS => fitNumbers_noS B c lo hi n qs x m w hS h h2⟩
end Go.Proofs.Ythjkmfjhcohhbaa
