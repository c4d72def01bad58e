/- VainFixed: both. -/
import Derived.Test.YthjkmfjhcohhbaaCat
import Derived.Test.YthjkmfjhcohhbaaSafe
import Derived.Test.YthjkmfjhcohhbaaNearN
namespace Go.Proofs.Ythjkmfjhcohhbaa
open Go.RowKit Go.ChangeShapes Go.WideShapes
set_option linter.unusedVariables false

/-- The places below k without which the scheme is safe. -/
def vainTo (n : Nat) (qs : List Int) (M k : Nat) : List Int := filt (fun i => safeB n (outL qs i) M) k
theorem vainTo_yes {n : Nat} {qs : List Int} {M k : Nat} (h : safeB n (outL qs k) M = true) : vainTo n qs M (k + 1) = vainTo n qs M k ++ [(k : Int)] := filt_yes h
theorem vainTo_no {n : Nat} {qs : List Int} {M k : Nat} (h : safeB n (outL qs k) M = false) : vainTo n qs M (k + 1) = vainTo n qs M k := filt_no h
theorem vainTo_len (n : Nat) (qs : List Int) (M k : Nat) : (vainTo n qs M k).length ≤ k := filt_len _ _
set_option maxRecDepth 100000 in
set_option maxHeartbeats 4000000 in
theorem vainFixed_yes (A : Option Addr) (lo hi : Nat) (n : Nat) (qs : List Int) (M : Nat) (w : World) (hS : Ins w lo hi A qs) (hs : isSch n qs = true) (hM : M ≤ 2) :
    Calls Try.prog 42 #[.int .i64 (n : Int), .slice A qs.length qs.length, .int .i64 (M : Int)] w (LAns w (vainTo n qs M qs.length) true) := by
  obtain ⟨i0, hi0, hz0, hz1, hz2⟩ := info_parts infoI3
  obtain ⟨hn, hl, _⟩ := isSch_iff.1 hs
  have HI := Lib.hid hS
  have htop := hS.top
  have HC := Lib.hid (fun W h => isScheme_impl A qs.length lo hi (n : Int) qs W h (by omega))
  have HM := Lib.hid (fun W => isMost_any (M : Int) W)
  rw [hs] at HC
  rw [inB_t (x := (M : Int)) (a := 0) (b := 2) (by omega) (by omega)] at HM
  have HW := Lib.hid (fun i (hi_ : i < qs.length) W h => without_any A qs.length lo hi qs i W h (by omega) hi_ (Nat.le_refl _) (by omega))
  have HF := Lib.hid (fun i (hi_ : i < qs.length) B c' lo hi W h => isSafeFor_any B c' lo hi n (outL qs i) M W h (by rw [outL_len hi_]; omega) (by omega) hM)
  have O0 := Lib.hid (O0_any w w.heap.size (Nat.le_refl _))
  clear hS hs hn
  unfold LAns
  go_enter Try.func42, Try.ntmps42
  go_wp2_with fail
  refine (HC.out w HI.out).mono ?_
  rintro e w1 ⟨rfl, rfl⟩
  go_wp2_with fail
  refine (HM.out _).mono ?_
  rintro e w2 ⟨rfl, rfl⟩
  go_wp2_with fail
  go_loopw [8, 23] (fun out i wr => ∃ (k : Nat), k ≤ qs.length ∧ i = .int .i64 k ∧ Hid (wr.ownsRow w2.heap.size 3 1 out (vainTo n qs M k).length ((vainTo n qs M k).map (Value.int .i64))) ∧ Hid (Past w2.heap.size w2 wr)) (fun _ i _ => qs.length - (intOf i).toNat)
  case atStart => exact ⟨0, Nat.zero_le _, rfl, (by first | exact O0.out | exact O0), Past.of_below ((Below.refl _ _).alloc (Nat.le_refl _) _)⟩
  case round =>
    obtain ⟨k, hk, rfl, HO, HP⟩ := hrel
    rename World => wr
    have hsz := HP.out.size
    by_cases hlt : k < qs.length
    · have HWk := Lib.hid (HW.out k hlt wr (HI.out.past HP.out htop))
      have HFk := Lib.hid (HF.out k hlt)
      have hfl := vainTo_len n qs M k
      have HY := Lib.hid (vainTo_yes (n := n) (qs := qs) (M := M) (k := k))
      have HN := Lib.hid (vainTo_no (n := n) (qs := qs) (M := M) (k := k))
      have HL := Lib.hid (outL_len hlt)
      generalize vainTo n qs M k = f at HO hfl HY HN
      cases hsf : safeB n (outL qs k) M with
      | true =>
        have HFF := Lib.hid (HY.out hsf)
        rw [hsf] at HFk
        clear HY HN hsf
        go_wp2_with fail
        refine HWk.out.mono ?_
        rintro e w3 ⟨v, rfl, ho, hb3⟩
        obtain ⟨B, c', rfl, _, hr⟩ := own_res ho rfl
        have HR := Lib.hid hr.ins
        have HP3 := Lib.hid (HP.out.trans (Past.of_below hb3))
        have HO3 := Lib.hid (HO.out.kept ⟨hb3.os, hb3.tape, hb3.output, hb3.size, fun i hi _ => hb3.block i hi⟩ (row := none) (by cases Value.ownBlock _ <;> simp))
        clear ho hb3 hr HO HWk
        go_wp2_with fail
        refine (HFk.out B c' _ _ w3 HR.out).mono ?_
        rintro e w4 ⟨rfl, hb4⟩
        have hown := HO3.out.kept ⟨hb4.os, hb4.tape, hb4.output, hb4.size, fun i hi _ => hb4.block i hi⟩ (row := none) (by cases Value.ownBlock _ <;> simp)
        have HP4 := Lib.hid (HP3.out.trans (Past.of_below hb4))
        have hsz4 := HP4.out.size
        clear hb4 HO3 HP3 HR HP hsz
        go_wp2_with (at_builtin; refine wpList_append_own _ rfl _ _ 22 rfl w2.heap.size 3 i0 (.int .i64 0) 1 8 Try.underlying22 hi0 hz0 hz1 hz2 rfl (by decide) _ _ _ rfl (hown.alloc _) ⟨_, 0, none⟩ 1 1 [.int .i64 (k : Int)] rfl rfl (cell_one_new _ _ _) (by simp [Value.oneCell']) (by unfold maxLen; omega) (by omega) (by simp; omega) ?_; intro v' w5 hown' hgrow _)
        have HO2 := Lib.hid (own_snocI hown' rfl)
        have HP2 := Lib.hid (HP4.out.trans (Past.grown hown hgrow))
        clear hown' hgrow hown
        go_wp2
        go_roundw
        case rel => exact ⟨k + 1, by omega, by go_num, by rw [HFF.out]; exact HO2.out, HP2.out⟩
        case measure => simp [intOf]; omega
      | false =>
        have HFF := Lib.hid (HN.out hsf)
        rw [hsf] at HFk
        clear HY HN hsf
        go_wp2_with fail
        refine HWk.out.mono ?_
        rintro e w3 ⟨v, rfl, ho, hb3⟩
        obtain ⟨B, c', rfl, _, hr⟩ := own_res ho rfl
        have HR := Lib.hid hr.ins
        have HP3 := Lib.hid (HP.out.trans (Past.of_below hb3))
        have HO3 := Lib.hid (HO.out.kept ⟨hb3.os, hb3.tape, hb3.output, hb3.size, fun i hi _ => hb3.block i hi⟩ (row := none) (by cases Value.ownBlock _ <;> simp))
        clear ho hb3 hr HO HWk
        go_wp2_with fail
        refine (HFk.out B c' _ _ w3 HR.out).mono ?_
        rintro e w4 ⟨rfl, hb4⟩
        have HO4 := Lib.hid (HO3.out.kept ⟨hb4.os, hb4.tape, hb4.output, hb4.size, fun i hi _ => hb4.block i hi⟩ (row := none) (by cases Value.ownBlock _ <;> simp))
        have HP4 := Lib.hid (HP3.out.trans (Past.of_below hb4))
        clear hb4 HO3 HP3 HR HP hsz
        go_wp2
        go_roundw
        case rel => exact ⟨k + 1, by omega, by go_num, by rw [HFF.out]; exact HO4, HP4⟩
        case measure => simp [intOf]; omega
    · obtain rfl : k = qs.length := by omega
      go_wp2
      go_ret2
      exact lans_own rfl HO.out (HP.out.below (Nat.le_refl _) (Nat.le_refl _))
set_option maxRecDepth 100000 in
set_option maxHeartbeats 4000000 in
theorem vainFixed_yesS (A : Option Addr) (lo hi : Nat) (n : Nat) (qs : List Int) (M : Nat) (w : World) (hS : Ins w lo hi A qs) (hs : isSch n qs = true) (hM : M ≤ 2) :
    Calls Try.prog 41 #[.int .i64 (n : Int), .slice A qs.length qs.length, .int .i64 (M : Int)] w (LAns w (vainTo n qs M qs.length) true) := by
  obtain ⟨i0, hi0, hz0, hz1, hz2⟩ := info_parts infoI3
  obtain ⟨hn, hl, _⟩ := isSch_iff.1 hs
  have B0 := (Below.refl w.heap.size w).alloc (Nat.le_refl _) (.cells #[] 3)
  have HI0 := Lib.hid (hS.step B0)
  have HI := Lib.hid hS
  have htop := hS.top
  have HC := Lib.hid (fun W h => l5Scheme_any A qs.length lo hi (n : Int) qs W h (by omega))
  have HM := Lib.hid (fun W => l1In_any (M : Int) 0 2 W)
  rw [hs] at HC
  rw [inB_t (x := (M : Int)) (a := 0) (b := 2) (by omega) (by omega)] at HM
  have HW := Lib.hid (fun i (hi_ : i < qs.length) W h => l5Drop_any A qs.length lo hi qs i W h (by omega) hi_ (Nat.le_refl _) (by omega))
  have HF := Lib.hid (fun i (hi_ : i < qs.length) B c' lo hi W h => l5Safe_any B c' lo hi n (outL qs i) M W h (by rw [outL_len hi_]; omega) (by omega) hM)
  have O0 := Lib.hid (O0_any w w.heap.size (Nat.le_refl _))
  have HP0 := Lib.hid (Past.of_below (B := w.heap.size) B0)
  clear hS hs hn B0
  unfold LAns
  go_enter Try.func41, Try.ntmps41
  go_wp2_with fail
  generalize w.alloc (.cells #[] 3) = wa at HI0 O0 HP0 ⊢
  refine (HC.out wa HI0.out).mono ?_
  rintro e w1 ⟨rfl, rfl⟩
  go_wp2_with fail
  refine (HM.out _).mono ?_
  rintro e w2 ⟨rfl, rfl⟩
  go_wp2_with fail
  go_loopw [8, 9] (fun out i wr => ∃ (k : Nat), k ≤ qs.length ∧ i = .int .i64 k ∧ Hid (wr.ownsRow w.heap.size 3 1 out (vainTo n qs M k).length ((vainTo n qs M k).map (Value.int .i64))) ∧ Hid (Past w.heap.size w wr)) (fun _ i _ => qs.length - (intOf i).toNat)
  case atStart => exact ⟨0, Nat.zero_le _, rfl, (by first | exact O0.out | exact O0), HP0⟩
  case round =>
    clear HP0 O0
    obtain ⟨k, hk, rfl, HO, HP⟩ := hrel
    rename World => wr
    have hsz := HP.out.size
    by_cases hlt : k < qs.length
    · have HWk := Lib.hid (HW.out k hlt wr (HI.out.past HP.out htop))
      have HFk := Lib.hid (HF.out k hlt)
      have hfl := vainTo_len n qs M k
      have HY := Lib.hid (vainTo_yes (n := n) (qs := qs) (M := M) (k := k))
      have HN := Lib.hid (vainTo_no (n := n) (qs := qs) (M := M) (k := k))
      have HL := Lib.hid (outL_len hlt)
      generalize vainTo n qs M k = f at HO hfl HY HN
      cases hsf : safeB n (outL qs k) M with
      | true =>
        have HFF := Lib.hid (HY.out hsf)
        rw [hsf] at HFk
        clear HY HN hsf
        go_wp2_with fail
        refine HWk.out.mono ?_
        rintro e w3 ⟨v, rfl, ho, hb3⟩
        obtain ⟨B, c', rfl, _, hr⟩ := own_res ho rfl
        have HR := Lib.hid hr.ins
        have HP3 := Lib.hid (HP.out.trans (Past.of_below hb3))
        have HO3 := Lib.hid (HO.out.kept ⟨hb3.os, hb3.tape, hb3.output, hb3.size, fun i hi _ => hb3.block i hi⟩ (row := none) (by cases Value.ownBlock _ <;> simp))
        clear ho hb3 hr HO HWk
        go_wp2_with fail
        refine (HFk.out B c' _ _ w3 HR.out).mono ?_
        rintro e w4 ⟨rfl, hb4⟩
        have hown := HO3.out.kept ⟨hb4.os, hb4.tape, hb4.output, hb4.size, fun i hi _ => hb4.block i hi⟩ (row := none) (by cases Value.ownBlock _ <;> simp)
        have HP4 := Lib.hid (HP3.out.trans (Past.of_below hb4))
        have hsz4 := HP4.out.size
        clear hb4 HO3 HP3 HR HP hsz
        go_wp2_with (at_builtin; refine wpList_append_own _ rfl _ _ 22 rfl w.heap.size 3 i0 (.int .i64 0) 1 8 Try.underlying22 hi0 hz0 hz1 hz2 rfl (by decide) _ _ _ rfl (hown.alloc _) ⟨_, 0, none⟩ 1 1 [.int .i64 (k : Int)] rfl rfl (cell_one_new _ _ _) (by simp [Value.oneCell']) (by unfold maxLen; omega) (by omega) (by simp; omega) ?_; intro v' w5 hown' hgrow _)
        have HO2 := Lib.hid (own_snocI hown' rfl)
        have HP2 := Lib.hid (HP4.out.trans (Past.grown hown hgrow))
        clear hown' hgrow hown
        go_wp2
        go_roundw
        case rel => exact ⟨k + 1, by omega, by go_num, by rw [HFF.out]; exact HO2.out, HP2.out⟩
        case measure => simp [intOf]; omega
      | false =>
        have HFF := Lib.hid (HN.out hsf)
        rw [hsf] at HFk
        clear HY HN hsf
        go_wp2_with fail
        refine HWk.out.mono ?_
        rintro e w3 ⟨v, rfl, ho, hb3⟩
        obtain ⟨B, c', rfl, _, hr⟩ := own_res ho rfl
        have HR := Lib.hid hr.ins
        have HP3 := Lib.hid (HP.out.trans (Past.of_below hb3))
        have HO3 := Lib.hid (HO.out.kept ⟨hb3.os, hb3.tape, hb3.output, hb3.size, fun i hi _ => hb3.block i hi⟩ (row := none) (by cases Value.ownBlock _ <;> simp))
        clear ho hb3 hr HO HWk
        go_wp2_with fail
        refine (HFk.out B c' _ _ w3 HR.out).mono ?_
        rintro e w4 ⟨rfl, hb4⟩
        have HO4 := Lib.hid (HO3.out.kept ⟨hb4.os, hb4.tape, hb4.output, hb4.size, fun i hi _ => hb4.block i hi⟩ (row := none) (by cases Value.ownBlock _ <;> simp))
        have HP4 := Lib.hid (HP3.out.trans (Past.of_below hb4))
        clear hb4 HO3 HP3 HR HP hsz
        go_wp2
        go_roundw
        case rel => exact ⟨k + 1, by omega, by go_num, by rw [HFF.out]; exact HO4, HP4⟩
        case measure => simp [intOf]; omega
    · obtain rfl : k = qs.length := by omega
      go_wp2
      go_ret2
      exact lans_own rfl HO.out (HP.out.below (Nat.le_refl _) (Nat.le_refl _))
set_option maxHeartbeats 2000000 in
theorem vainFixed_no (A : Option Addr) (c lo hi : Nat) (n : Int) (qs : List Int) (m : Int) (w : World) (hS : Ins w lo hi A qs) (hl : qs.length ≤ 1048576) (h : isSch n qs = false ∨ (isSch n qs = true ∧ inB m 0 2 = false)) :
    Calls Try.prog 42 #[.int .i64 n, .slice A qs.length c, .int .i64 m] w (LAns w [] false) := by
  have HI := Lib.hid hS
  have HC := Lib.hid (fun W h => isScheme_impl A c lo hi n qs W h hl)
  have HM := Lib.hid (fun W => isMost_any m W)
  clear hS
  rcases h with h | ⟨h, h2⟩
  · rw [h] at HC
    clear h
    go_enter Try.func42, Try.ntmps42
    go_wp2_with fail
    refine (HC.out w HI.out).mono ?_
    rintro e w1 ⟨rfl, rfl⟩
    go_wp2
    go_ret2
    exact lans_nil (Below.refl _ _)
  · rw [h] at HC
    rw [h2] at HM
    clear h h2
    go_enter Try.func42, Try.ntmps42
    go_wp2_with fail
    refine (HC.out w HI.out).mono ?_
    rintro e w1 ⟨rfl, rfl⟩
    go_wp2_with fail
    refine (HM.out _).mono ?_
    rintro e w2 ⟨rfl, rfl⟩
    go_wp2
    go_ret2
    exact lans_nil (Below.refl _ _)
theorem lans_first {w w1 : World} (e : w1 = w.alloc (.cells #[] 3)) : LAns w [] false (.returned (.tuple #[.slice (some ⟨w.heap.size, 0, none⟩) 0 0, .bool false])) w1 := by
  subst e
  exact lans_nil (Below.refl _ _)
set_option maxHeartbeats 2000000 in
theorem vainFixed_noS (A : Option Addr) (c lo hi : Nat) (n : Int) (qs : List Int) (m : Int) (w : World) (hS : Ins w lo hi A qs) (hl : qs.length ≤ 1048576) (h : isSch n qs = false ∨ (isSch n qs = true ∧ inB m 0 2 = false)) :
    Calls Try.prog 41 #[.int .i64 n, .slice A qs.length c, .int .i64 m] w (LAns w [] false) := by
  have HI := Lib.hid (hS.step ((Below.refl w.heap.size w).alloc (Nat.le_refl _) (.cells #[] 3)))
  have HC := Lib.hid (fun W h => l5Scheme_any A c lo hi n qs W h hl)
  have HM := Lib.hid (fun W => l1In_any m 0 2 W)
  clear hS
  obtain ⟨wa, hwa⟩ : ∃ x, x = w.alloc (.cells #[] 3) := ⟨_, rfl⟩
  have HWa := Lib.hid hwa
  rw [← hwa] at HI
  rcases h with h | ⟨h, h2⟩
  · rw [h] at HC
    clear h
    go_enter Try.func41, Try.ntmps41
    clear hwa
    go_wp2_with fail
    rw [← HWa.out]
    refine (HC.out wa HI.out).mono ?_
    rintro e w1 ⟨rfl, rfl⟩
    go_wp2
    go_ret2
    exact lans_first HWa.out
  · rw [h] at HC
    rw [h2] at HM
    clear h h2
    go_enter Try.func41, Try.ntmps41
    clear hwa
    go_wp2_with fail
    rw [← HWa.out]
    refine (HC.out wa HI.out).mono ?_
    rintro e w1 ⟨rfl, rfl⟩
    go_wp2_with fail
    refine (HM.out _).mono ?_
    rintro e w2 ⟨rfl, rfl⟩
    go_wp2
    go_ret2
    exact lans_first HWa.out
theorem vainFixed_both (n : Int) (qs : List Int) (h : qs.length ≤ 1048576) (m : Int) : ∃ (r0 : List Int) (r1 : Bool), r0.length ≤ 1048576 ∧
    (∀ (w : World) (B : Option Addr) (c lo hi : Nat), Ins w lo hi B qs → c = qs.length → Calls Try.prog 42 #[.int .i64 n, .slice B qs.length c, .int .i64 m] w fun e w' => ∃ B c', e = .returned (.tuple #[.slice B r0.length c', .bool r1]) ∧ Res w' w.heap.size w'.heap.size B r0 ∧ Below w.heap.size w w') ∧
    (∀ (w : World) (B : Option Addr) (c lo hi : Nat), Ins w lo hi B qs → c = qs.length → Calls Try.prog 41 #[.int .i64 n, .slice B qs.length c, .int .i64 m] w fun e w' => ∃ B c', e = .returned (.tuple #[.slice B r0.length c', .bool r1]) ∧ Res w' w.heap.size w'.heap.size B r0 ∧ Below w.heap.size w w') := by
  by_cases hok : isSch n qs = true ∧ inB m 0 2 = true
  · obtain ⟨h1, h3⟩ := hok
    obtain ⟨hn, hl, _⟩ := isSch_iff.1 h1
    have hm := inB_iff.1 h3
    obtain ⟨k, rfl⟩ : ∃ k : Nat, n = (k : Int) := ⟨n.toNat, by omega⟩
    obtain ⟨M, rfl⟩ : ∃ M : Nat, m = (M : Int) := ⟨m.toNat, by omega⟩
    exact ⟨vainTo k qs M qs.length, true, by have := vainTo_len k qs M qs.length; omega, fun w B c lo hi hS hc => by subst hc; exact vainFixed_yes B lo hi k qs M w hS h1 (by omega), fun w B c lo hi hS hc => by subst hc; exact vainFixed_yesS B lo hi k qs M w hS h1 (by omega)⟩
  · have h2 : isSch n qs = false ∨ (isSch n qs = true ∧ inB m 0 2 = false) := by
      cases ha : isSch n qs <;> cases hc : inB m 0 2 <;> simp_all
    exact ⟨[], false, by simp, fun w B c lo hi hS _ => vainFixed_no B c lo hi n qs m w hS h h2, fun w B c lo hi hS _ => vainFixed_noS B c lo hi n qs m w hS h h2⟩
end Go.Proofs.Ythjkmfjhcohhbaa
