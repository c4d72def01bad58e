/- RepeatScheme: both. -/
import Derived.Test.YthjkmfjhcohhbabRep5
import Derived.Test.YthjkmfjhcohhbabTaken
namespace Go.Proofs.Ythjkmfjhcohhbab
open Go.RowKit Go.ChangeShapes Go.WideShapes
set_option linter.unusedVariables false

/-- The first k questions, each T times. -/
def rpTo (qs : List Int) (T : Nat) : Nat → List Int
  | 0 => []
  | k + 1 => rpTo qs T k ++ List.replicate T (qs.getD k 0)
theorem rpTo_len (qs : List Int) (T : Nat) : ∀ k, (rpTo qs T k).length = k * T
  | 0 => by simp [rpTo]
  | k + 1 => by rw [rpTo, List.length_append, rpTo_len qs T k, List.length_replicate, Nat.succ_mul]
/-- The same, place by place. -/
def rpE (qs : List Int) (T i : Nat) : List Int := (List.range i).map fun j => qs.getD (j / T) 0
theorem rpE_len (qs : List Int) (T i : Nat) : (rpE qs T i).length = i := by simp [rpE]
theorem rpE_succ (qs : List Int) (T i : Nat) : rpE qs T (i + 1) = rpE qs T i ++ [qs.getD (i / T) 0] := by simp [rpE, List.range_succ]
theorem rpE_add (qs : List Int) {T k : Nat} (hT : 1 ≤ T) : ∀ m, m ≤ T → rpE qs T (k * T + m) = rpE qs T (k * T) ++ List.replicate m (qs.getD k 0)
  | 0, _ => by simp
  | m + 1, h => by
    rw [← Nat.add_assoc, rpE_succ, rpE_add qs hT m (by omega), show (k * T + m) / T = k by
      rw [Nat.mul_comm, Nat.mul_add_div (by omega), Nat.div_eq_of_lt (by omega)]; omega, List.replicate_succ', List.append_assoc]
theorem rpE_is (qs : List Int) {T : Nat} (hT : 1 ≤ T) : ∀ k, rpE qs T (k * T) = rpTo qs T k
  | 0 => by simp [rpE, rpTo]
  | k + 1 => by rw [Nat.succ_mul, rpE_add qs hT T (Nat.le_refl _), rpE_is qs hT k, rpTo]
theorem mul_bd {a T : Nat} (ha : a ≤ 14) (hT : T ≤ 14) : 0 ≤ (a : Int) * (T : Int) ∧ (a : Int) * (T : Int) ≤ 196 := by
  have h : a * T ≤ 14 * 14 := Nat.mul_le_mul ha hT
  have e : (a : Int) * (T : Int) = ((a * T : Nat) : Int) := by push_cast; rfl
  rw [e]; omega

set_option maxRecDepth 100000 in
set_option maxHeartbeats 2000000 in
theorem repeatScheme_impl (A : Option Addr) (c lo hi : Nat) (n : Int) (qs : List Int) (T : Nat) (w : World) (hS : Ins w lo hi A qs) (hs : isSch n qs = true) (hT : 1 ≤ T ∧ T ≤ 14) (hm : qs.length * T ≤ 14) :
    Calls Try.prog 14 #[.int .i64 n, .slice A qs.length c, .int .i64 (T : Int)] w (LAns w (rpTo qs T qs.length) true) := by
  obtain ⟨i0, hi0, hz0, hz1, hz2⟩ := info_parts infoI3
  obtain ⟨_, hl, _⟩ := isSch_iff.1 hs
  have HI := Lib.hid hS
  have htop := hS.top
  have HC := Lib.hid (fun W h => isScheme_impl A c lo hi n qs W h (by omega))
  rw [hs] at HC
  have hb := mul_bd hl hT.2
  have hmI : (qs.length : Int) * (T : Int) ≤ 14 := by
    have e : (qs.length : Int) * (T : Int) = ((qs.length * T : Nat) : Int) := by push_cast; rfl
    rw [e]; omega
  have HD := Lib.hid (fun W => isSchemeSize_any ((qs.length : Int) * (T : Int)) W)
  rw [inB_t (x := (qs.length : Int) * (T : Int)) (a := 0) (b := 14) hb.1 hmI] at HD
  have O0 := Lib.hid (O0_any w w.heap.size (Nat.le_refl _))
  have HRp := Lib.hid (fun b x W h => repeat_any b x T W h hT)
  clear hS hs
  unfold LAns
  go_enter Try.func14, Try.ntmps14
  go_wp2_with fail
  refine (HC.out w HI.out).mono ?_
  rintro e w1 ⟨rfl, rfl⟩
  go_wp2_with fail
  refine (HD.out _).mono ?_
  rintro e w2 ⟨rfl, rfl⟩
  go_wp2_with fail
  clear hmI hb
  go_loopw [8, 35] (fun out i wr => ∃ (k : Nat), k ≤ qs.length ∧ i = .int .i64 k ∧ Hid (wr.ownsRow w2.heap.size 3 1 out (rpTo qs T k).length ((rpTo qs T k).map (Value.int .i64))) ∧ Hid (Past w2.heap.size w2 wr)) (fun _ i _ => qs.length - (intOf i).toNat)
  case atStart => exact ⟨0, Nat.zero_le _, rfl, (by first | exact O0.out | exact O0), Past.of_below ((Below.refl _ _).alloc (Nat.le_refl _) _)⟩
  case round =>
    obtain ⟨k, hk, rfl, HO, HP⟩ := hrel
    rename World => wr
    by_cases hlt : k < qs.length
    · obtain ⟨b, o, rfl, _, hb, hcs⟩ := (HI.out.past HP.out htop).ints (by omega)
      have hcell := hcs k _ (List.getElem?_eq_getElem hlt)
      have HF : Hid (rpTo qs T (k + 1) = rpTo qs T k ++ List.replicate T qs[k]) := Lib.hid (by rw [rpTo, getD0 hlt])
      have hfl : (rpTo qs T k).length ≤ 14 := by rw [rpTo_len]; exact Nat.le_trans (Nat.mul_le_mul_right T hk) hm
      clear hcs
      generalize qs[k] = x at hcell HF
      generalize rpTo qs T k = f at HO HF hfl
      have HX := Lib.hid (HRp.out wr.heap.size x (wr.alloc (.cells #[.int .i64 x] 3)) (by rw [World.cell?_alloc_at _ _ _ _ rfl]; rfl))
      have hA1 := (Below.refl wr.heap.size wr).alloc (Nat.le_refl _) (.cells #[.int .i64 x] 3)
      have HO1 := Lib.hid (own_step HO.out hA1)
      have HP1 := Lib.hid (HP.out.trans (Past.of_below hA1))
      clear hA1 HO HP
      go_wp2_with fail
      generalize wr.alloc (.cells #[.int .i64 x] 3) = wa at HX HO1 HP1 ⊢
      refine HX.out.mono ?_
      rintro e w3 ⟨rfl, hq, hb3⟩
      have hown := own_step HO1.out hb3
      have HP3 := Lib.hid (HP1.out.trans (Past.of_below hb3))
      have hsz3 := HP3.out.size
      have HNw := Lib.hid (Ints.add (w := w3) (b := wa.heap.size) (o := 0) (zs := List.replicate T x) (fun j y hy => by rw [Nat.zero_add]; exact hq.cell hy))
      have HOn := Lib.hid (ones (List.replicate T x))
      clear hb3 hq HX HO1 HP1
      go_wp2_with (at_builtin; refine wpList_append_own _ rfl _ _ 22 rfl w2.heap.size 3 i0 (.int .i64 0) 1 8 Try.underlying22 hi0 hz0 hz1 hz2 rfl (by decide) _ _ _ rfl hown ⟨wa.heap.size, 0, none⟩ T T ((List.replicate T x).map (Value.int .i64)) rfl (by simp) HNw.out HOn.out (by unfold maxLen; omega) (by omega) hsz3 ?_; intro v' w5 hown' hgrow _)
      have HO2 : Hid (w5.ownsRow w2.heap.size 3 1 v' (f ++ List.replicate T x).length ((f ++ List.replicate T x).map (Value.int .i64))) := Lib.hid (by rw [List.map_append, List.length_append, List.length_replicate]; exact hown')
      have HP2 := Lib.hid (HP3.out.trans (past_grown hgrow (fun j hj => (hown.lt j hj).1)))
      clear hown' hgrow hown
      go_wp2
      go_roundw
      case rel => exact ⟨k + 1, by omega, by go_num, by rw [HF.out]; exact HO2.out, HP2.out⟩
      case measure => simp [intOf]; omega
    · obtain rfl : k = qs.length := by omega
      go_wp2
      go_ret2
      exact lans_own rfl HO.out (HP.out.below (Nat.le_refl _) (Nat.le_refl _))

set_option maxRecDepth 100000 in
set_option maxHeartbeats 2000000 in
theorem repeatScheme_spec (A : Option Addr) (c lo hi : Nat) (n : Int) (qs : List Int) (T : Nat) (w : World) (hS : Ins w lo hi A qs) (hs : isSch n qs = true) (hT : 1 ≤ T ∧ T ≤ 14) (hm : qs.length * T ≤ 14) :
    Calls Try.prog 12 #[.int .i64 n, .slice A qs.length c, .int .i64 (T : Int)] w (LAns w (rpTo qs T qs.length) true) := by
  obtain ⟨i0, hi0, hz0, hz1, hz2⟩ := info_parts infoI3
  obtain ⟨_, hl, _⟩ := isSch_iff.1 hs
  have HI := Lib.hid hS
  have htop := hS.top
  have HC := Lib.hid (fun W h => l5Scheme_any A c lo hi n qs W h (by omega))
  rw [hs] at HC
  have hb := mul_bd hl hT.2
  have e : (qs.length : Int) * (T : Int) = ((qs.length * T : Nat) : Int) := by push_cast; rfl
  have HE := Lib.hid e
  have hmI : (qs.length : Int) * (T : Int) ≤ 14 := by rw [e]; omega
  have HD := Lib.hid (fun W => l1In_any (T : Int) 1 14 W)
  rw [inB_t (x := (T : Int)) (a := 1) (b := 14) (by omega) (by omega)] at HD
  have O0 := Lib.hid (O0_any w w.heap.size (Nat.le_refl _))
  have HIs := Lib.hid (rpE_is qs hT.1 qs.length)
  clear hS hs e
  unfold LAns
  go_enter Try.func12, Try.ntmps12
  go_wp2_with fail
  refine (HC.out w HI.out).mono ?_
  rintro e w1 ⟨rfl, rfl⟩
  go_wp2_with fail
  refine (HD.out _).mono ?_
  rintro e w2 ⟨rfl, rfl⟩
  go_wp2_with fail
  go_loopw [8, 9] (fun out i wr => ∃ (k : Nat), k ≤ qs.length * T ∧ i = .int .i64 k ∧ Hid (wr.ownsRow w2.heap.size 3 1 out (rpE qs T k).length ((rpE qs T k).map (Value.int .i64))) ∧ Hid (Past w2.heap.size w2 wr)) (fun _ i _ => qs.length * T - (intOf i).toNat)
  case atStart => exact ⟨0, Nat.zero_le _, rfl, (by first | exact O0.out | exact O0), Past.of_below ((Below.refl _ _).alloc (Nat.le_refl _) _)⟩
  case round =>
    obtain ⟨k, hk, rfl, HO, HP⟩ := hrel
    rename World => wr
    have hE := HE.out
    by_cases hlt : k < qs.length * T
    · have hltI : (k : Int) < (qs.length : Int) * (T : Int) := by rw [hE]; omega
      have hdl : k / T < qs.length := Nat.div_lt_of_lt_mul (by rw [Nat.mul_comm]; exact hlt)
      obtain ⟨b, o, rfl, _, hb, hcs⟩ := (HI.out.past HP.out htop).ints (Nat.lt_of_le_of_lt (Nat.zero_le _) hdl)
      have hcell := hcs (k / T) _ (List.getElem?_eq_getElem hdl)
      have HF : Hid (rpE qs T (k + 1) = rpE qs T k ++ [qs[k / T]]) := Lib.hid (by rw [rpE_succ, getD0 hdl])
      have hfl := rpE_len qs T k
      have hdv : (k : Int) / (T : Int) = ((k / T : Nat) : Int) := by norm_cast
      clear hcs hE
      generalize qs[k / T] = x at hcell HF
      generalize rpE qs T k = f at HO HF hfl
      have hfb : f.length ≤ 14 := by omega
      clear hfl
      generalize k / T = j at hdl hcell hdv
      have hown := HO.out
      have hsz3 := HP.out.size
      go_wp2_with (at_builtin; refine wpList_append_own _ rfl _ _ 22 rfl w2.heap.size 3 i0 (.int .i64 0) 1 8 Try.underlying22 hi0 hz0 hz1 hz2 rfl (by decide) _ _ _ rfl (hown.alloc _) ⟨_, 0, none⟩ 1 1 [.int .i64 x] rfl rfl (cell_one_new _ _ _) (by simp [Value.oneCell']) (by unfold maxLen; omega) (by omega) (by simp; omega) ?_; intro v' w5 hown' hgrow _)
      have HO2 := Lib.hid (own_snocI hown' rfl)
      have HP2 := Lib.hid (HP.out.trans (Past.grown hown hgrow))
      clear hown' hgrow hown
      go_wp2
      go_roundw
      case rel => exact ⟨k + 1, by omega, by go_num, by rw [HF.out]; exact HO2.out, HP2.out⟩
      case measure => simp [intOf]; omega
    · obtain rfl : k = qs.length * T := by omega
      have hltI : ¬ ((qs.length * T : Nat) : Int) < (qs.length : Int) * (T : Int) := by rw [hE]; omega
      rw [HIs.out] at HO
      clear hE
      obtain ⟨A8, c8, rfl, _, hr⟩ := own_res HO.out rfl
      have HR := Lib.hid hr
      clear hr HO
      generalize qs.length * T = K at hltI ⊢
      go_wp2
      go_ret2
      exact ⟨A8, ⟨c8, rfl⟩, HR.out, HP.out.below (Nat.le_refl _) (Nat.le_refl _)⟩
set_option maxHeartbeats 2000000 in
theorem repeatScheme_no (A : Option Addr) (c lo hi : Nat) (n : Int) (qs : List Int) (t : Int) (w : World) (hS : Ins w lo hi A qs) (hl : qs.length ≤ 1048576)
    (h : isSch n qs = false ∨ (isSch n qs = true ∧ inB t 1 14 = false) ∨ (isSch n qs = true ∧ inB t 1 14 = true ∧ 14 < (qs.length : Int) * t)) :
    Calls Try.prog 14 #[.int .i64 n, .slice A qs.length c, .int .i64 t] w (LAns w [] false) := by
  have HI := Lib.hid hS
  have HC := Lib.hid (fun W h => isScheme_impl A c lo hi n qs W h hl)
  have HD := Lib.hid (fun W => isSchemeSize_any ((qs.length : Int) * t) W)
  clear hS
  rcases h with h | ⟨h, h2⟩ | ⟨h, h2, h3⟩
  · rw [h] at HC
    clear h HD
    go_enter Try.func14, Try.ntmps14
    go_wp2_with fail
    refine (HC.out w HI.out).mono ?_
    rintro e w1 ⟨rfl, rfl⟩
    go_wp2
    go_ret2
    exact lans_nil (Below.refl _ _)
  · rw [h] at HC
    have hb : ¬ (1 ≤ t ∧ t ≤ 14) := fun hb => by rw [inB_t hb.1 hb.2] at h2; cases h2
    clear h h2 HD
    rcases (show t < 1 ∨ (¬ t < 1 ∧ 14 < t) by omega) with h1 | ⟨h1, h2⟩
    all_goals
      clear hb
      go_enter Try.func14, Try.ntmps14
      go_wp2_with fail
      refine (HC.out w HI.out).mono ?_
      rintro e w1 ⟨rfl, rfl⟩
      go_wp2
      go_ret2
      exact lans_nil (Below.refl _ _)
  · obtain ⟨_, hq, _⟩ := isSch_iff.1 h
    have hb := inB_iff.1 h2
    obtain ⟨T, rfl⟩ : ∃ T : Nat, t = (T : Int) := ⟨t.toNat, by omega⟩
    have hm := mul_bd (a := qs.length) (T := T) hq (by omega)
    rw [h] at HC
    rw [inB_f2 (by omega)] at HD
    clear h h2
    go_enter Try.func14, Try.ntmps14
    go_wp2_with fail
    refine (HC.out w HI.out).mono ?_
    rintro e w1 ⟨rfl, rfl⟩
    go_wp2_with fail
    refine (HD.out _).mono ?_
    rintro e w2 ⟨rfl, rfl⟩
    go_wp2
    go_ret2
    exact lans_nil (Below.refl _ _)
set_option maxHeartbeats 2000000 in
theorem repeatScheme_noS (A : Option Addr) (c lo hi : Nat) (n : Int) (qs : List Int) (t : Int) (w : World) (hS : Ins w lo hi A qs) (hl : qs.length ≤ 1048576)
    (h : isSch n qs = false ∨ (isSch n qs = true ∧ inB t 1 14 = false) ∨ (isSch n qs = true ∧ inB t 1 14 = true ∧ 14 < (qs.length : Int) * t)) :
    Calls Try.prog 12 #[.int .i64 n, .slice A qs.length c, .int .i64 t] w (LAns w [] false) := by
  have HI := Lib.hid hS
  have HC := Lib.hid (fun W h => l5Scheme_any A c lo hi n qs W h hl)
  have HD := Lib.hid (fun W => l1In_any t 1 14 W)
  clear hS
  rcases h with h | ⟨h, h2⟩ | ⟨h, h2, h3⟩
  · rw [h] at HC
    clear h HD
    go_enter Try.func12, Try.ntmps12
    go_wp2_with fail
    refine (HC.out w HI.out).mono ?_
    rintro e w1 ⟨rfl, rfl⟩
    go_wp2
    go_ret2
    exact lans_nil (Below.refl _ _)
  · rw [h] at HC
    rw [h2] at HD
    clear h h2
    go_enter Try.func12, Try.ntmps12
    go_wp2_with fail
    refine (HC.out w HI.out).mono ?_
    rintro e w1 ⟨rfl, rfl⟩
    go_wp2_with fail
    refine (HD.out _).mono ?_
    rintro e w2 ⟨rfl, rfl⟩
    go_wp2
    go_ret2
    exact lans_nil (Below.refl _ _)
  · obtain ⟨_, hq, _⟩ := isSch_iff.1 h
    have hb := inB_iff.1 h2
    obtain ⟨T, rfl⟩ : ∃ T : Nat, t = (T : Int) := ⟨t.toNat, by omega⟩
    have hm := mul_bd (a := qs.length) (T := T) hq (by omega)
    rw [h] at HC
    rw [h2] at HD
    clear h h2
    go_enter Try.func12, Try.ntmps12
    go_wp2_with fail
    refine (HC.out w HI.out).mono ?_
    rintro e w1 ⟨rfl, rfl⟩
    go_wp2_with fail
    refine (HD.out _).mono ?_
    rintro e w2 ⟨rfl, rfl⟩
    go_wp2
    go_ret2
    exact lans_nil (Below.refl _ _)
theorem repeatScheme_both (n : Int) (qs : List Int) (h : qs.length ≤ 1048576) (t : Int) : ∃ (r0 : List Int) (r1 : Bool), r0.length ≤ 1048576 ∧
    (∀ (w : World) (B : Option Addr) (c lo hi : Nat), Ins w lo hi B qs → Calls Try.prog 14 #[.int .i64 n, .slice B qs.length c, .int .i64 t] w fun e w' => ∃ B c', e = .returned (.tuple #[.slice B r0.length c', .bool r1]) ∧ Res w' w.heap.size w'.heap.size B r0 ∧ Below w.heap.size w w') ∧
    (∀ (w : World) (B : Option Addr) (c lo hi : Nat), Ins w lo hi B qs → Calls Try.prog 12 #[.int .i64 n, .slice B qs.length c, .int .i64 t] w fun e w' => ∃ B c', e = .returned (.tuple #[.slice B r0.length c', .bool r1]) ∧ Res w' w.heap.size w'.heap.size B r0 ∧ Below w.heap.size w w') := by
  by_cases hok : isSch n qs = true ∧ inB t 1 14 = true ∧ (qs.length : Int) * t ≤ 14
  · obtain ⟨h1, h2, h3⟩ := hok
    have hb := inB_iff.1 h2
    obtain ⟨T, rfl⟩ : ∃ T : Nat, t = (T : Int) := ⟨t.toNat, by omega⟩
    have hm : qs.length * T ≤ 14 := by
      have e : (qs.length : Int) * (T : Int) = ((qs.length * T : Nat) : Int) := by push_cast; rfl
      rw [e] at h3; omega
    exact ⟨rpTo qs T qs.length, true, by rw [rpTo_len]; omega, fun w B c lo hi hS => repeatScheme_impl B c lo hi n qs T w hS h1 (by omega) hm, fun w B c lo hi hS => repeatScheme_spec B c lo hi n qs T w hS h1 (by omega) hm⟩
  · have h2 : isSch n qs = false ∨ (isSch n qs = true ∧ inB t 1 14 = false) ∨ (isSch n qs = true ∧ inB t 1 14 = true ∧ 14 < (qs.length : Int) * t) := by
      cases ha : isSch n qs with
      | false => exact .inl rfl
      | true =>
        cases hc : inB t 1 14 with
        | false => exact .inr (.inl ⟨rfl, rfl⟩)
        | true => exact .inr (.inr ⟨rfl, rfl, by
            rcases (show 14 < (qs.length : Int) * t ∨ (qs.length : Int) * t ≤ 14 by omega) with h4 | h4
            · exact h4
            · exact absurd ⟨ha, hc, h4⟩ hok⟩)
    exact ⟨[], false, by simp, fun w B c lo hi hS => repeatScheme_no B c lo hi n qs t w hS h h2, fun w B c lo hi hS => repeatScheme_noS B c lo hi n qs t w hS h h2⟩
end Go.Proofs.Ythjkmfjhcohhbab
