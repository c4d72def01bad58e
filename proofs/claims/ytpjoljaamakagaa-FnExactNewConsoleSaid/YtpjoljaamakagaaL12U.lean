/- Which rooms are valid: the program's. -/
import Derived.Test.YtpjoljaamakagaaL12T
namespace Go.Proofs.Ytpjoljaamakagaa
open Go.RowKit Go.ChangeShapes Go.WideShapes
set_option linter.unusedVariables false
set_option linter.unusedSimpArgs false

def tailB (p : Nat → Int) (k : Nat) : Bool := (List.range 12).all fun i => p i == rz (lz p k) i
def roomOK (p : Nat → Int) (n m c : Int) : Bool := inB n 1 12 && inB c 0 1000 && isSt (lz p n.toNat) m && tailB p n.toNat
set_option maxRecDepth 100000 in
set_option maxHeartbeats 4000000 in
theorem isRoom_size (p : Nat → Int) (n m c : Int) (w : World) (h : inB n 1 12 = false ∨ inB c 0 1000 = false) :
    Calls Try.prog 14 #[.agg (rmA p n m c)] w fun e w' => e = .returned (.bool false) ∧ Below w.heap.size w w' := by
  have HT1 := Lib.hid (Rw.new w (rmA p n m c) 26 w.heap.size rfl)
  have HB := Lib.hid ((Below.refl w.heap.size w).alloc (Nat.le_refl _) (.cells (rmA p n m c) 26))
  have HC := Lib.hid (fun W => isSize_any n W)
  cases hn : inB n 1 12 with
  | false =>
    rw [hn] at HC
    go_enter Try.func14, Try.ntmps14
    simp only [rmA] at HT1 HB ⊢
    go_upto_region 1 with fail
    generalize w.alloc (.cells #[.int .i64 (p 0), .int .i64 (p 1), .int .i64 (p 2), .int .i64 (p 3), .int .i64 (p 4), .int .i64 (p 5), .int .i64 (p 6), .int .i64 (p 7), .int .i64 (p 8), .int .i64 (p 9), .int .i64 (p 10), .int .i64 (p 11), .int .i64 n, .int .i64 m, .int .i64 c] 26) = wa at HT1 HB ⊢
    have c12 := HT1.out.cell (i := 12) (v := .int .i64 n) rfl
    have c14 := HT1.out.cell (i := 14) (v := .int .i64 c) rfl
    go_wp2_with (first | (go_at_call 65; refine (HC.out _).mono ?_; rintro e w1 ⟨rfl, rfl⟩))
    go_ret
    exact ⟨rfl, HB.out⟩
  | true =>
    rw [hn] at HC h
    have hc : inB c 0 1000 = false := by simpa using h
    by_cases h0 : 0 ≤ c
    · have h1 : ¬ c ≤ 1000 := fun h1 => by rw [inB_t h0 h1] at hc; cases hc
      go_enter Try.func14, Try.ntmps14
      simp only [rmA] at HT1 HB ⊢
      go_upto_region 1 with fail
      generalize w.alloc (.cells #[.int .i64 (p 0), .int .i64 (p 1), .int .i64 (p 2), .int .i64 (p 3), .int .i64 (p 4), .int .i64 (p 5), .int .i64 (p 6), .int .i64 (p 7), .int .i64 (p 8), .int .i64 (p 9), .int .i64 (p 10), .int .i64 (p 11), .int .i64 n, .int .i64 m, .int .i64 c] 26) = wa at HT1 HB ⊢
      have c12 := HT1.out.cell (i := 12) (v := .int .i64 n) rfl
      have c14 := HT1.out.cell (i := 14) (v := .int .i64 c) rfl
      go_wp2_with (first | (go_at_call 65; refine (HC.out _).mono ?_; rintro e w1 ⟨rfl, rfl⟩))
      go_ret
      exact ⟨rfl, HB.out⟩
    · go_enter Try.func14, Try.ntmps14
      simp only [rmA] at HT1 HB ⊢
      go_upto_region 1 with fail
      generalize w.alloc (.cells #[.int .i64 (p 0), .int .i64 (p 1), .int .i64 (p 2), .int .i64 (p 3), .int .i64 (p 4), .int .i64 (p 5), .int .i64 (p 6), .int .i64 (p 7), .int .i64 (p 8), .int .i64 (p 9), .int .i64 (p 10), .int .i64 (p 11), .int .i64 n, .int .i64 m, .int .i64 c] 26) = wa at HT1 HB ⊢
      have c12 := HT1.out.cell (i := 12) (v := .int .i64 n) rfl
      have c14 := HT1.out.cell (i := 14) (v := .int .i64 c) rfl
      go_wp2_with (first | (go_at_call 65; refine (HC.out _).mono ?_; rintro e w1 ⟨rfl, rfl⟩))
      go_ret
      exact ⟨rfl, HB.out⟩

set_option maxRecDepth 100000 in
set_option maxHeartbeats 8000000 in
theorem isRoom_yes (p : Nat → Int) (k : Nat) (m c : Int) (w : World) (h1 : 1 ≤ k) (h12 : k ≤ 12) (hc0 : 0 ≤ c) (hc1 : c ≤ 1000) :
    Calls Try.prog 14 #[.agg (rmA p k m c)] w fun e w' => e = .returned (.bool (isSt (lz p k) m && tailB p k)) ∧ Below w.heap.size w w' := by
  have HT1 := Lib.hid (Rw.new w (rmA p k m c) 26 w.heap.size rfl)
  have HB := Lib.hid ((Below.refl w.heap.size w).alloc (Nat.le_refl _) (.cells (rmA p k m c) 26))
  have HC := Lib.hid (fun W => isSize_any (k : Int) W)
  rw [inB_t (x := (k : Int)) (a := 1) (b := 12) (by omega) (by omega)] at HC
  have HST := Lib.hid (fun W => state12_any p k m c W h1 h12)
  have hlz := lz_len p k
  have HI := Lib.hid (fun W B1 d1 lo hi (h : Ins W lo hi B1 (lz p k)) => isState_impl B1 d1 lo hi (lz p k) m W h (by omega))
  have HK := Lib.hid (fun W B1 d1 lo hi (h : Ins W lo hi B1 (lz p k)) => roomOf_any B1 d1 lo hi (lz p k) m c W h (by omega))
  have hkk : ((lz p k).length : Int) = (k : Int) := by rw [hlz]
  cases hst : isSt (lz p k) m with
  | false =>
    rw [hst] at HI
    clear HK hlz hkk hst
    go_enter Try.func14, Try.ntmps14
    simp only [rmA] at HT1 HB ⊢
    go_upto_region 1 with fail
    generalize w.alloc (.cells #[.int .i64 (p 0), .int .i64 (p 1), .int .i64 (p 2), .int .i64 (p 3), .int .i64 (p 4), .int .i64 (p 5), .int .i64 (p 6), .int .i64 (p 7), .int .i64 (p 8), .int .i64 (p 9), .int .i64 (p 10), .int .i64 (p 11), .int .i64 k, .int .i64 m, .int .i64 c] 26) = wa at HT1 HB ⊢
    have HT1' : Hid (Rw wa w.heap.size (rmA p k m c) 26) := HT1
    clear HT1
    have c0 := HT1'.out.cell (i := 0) (v := .int .i64 (p 0)) rfl
    have c1 := HT1'.out.cell (i := 1) (v := .int .i64 (p 1)) rfl
    have c2 := HT1'.out.cell (i := 2) (v := .int .i64 (p 2)) rfl
    have c3 := HT1'.out.cell (i := 3) (v := .int .i64 (p 3)) rfl
    have c4 := HT1'.out.cell (i := 4) (v := .int .i64 (p 4)) rfl
    have c5 := HT1'.out.cell (i := 5) (v := .int .i64 (p 5)) rfl
    have c6 := HT1'.out.cell (i := 6) (v := .int .i64 (p 6)) rfl
    have c7 := HT1'.out.cell (i := 7) (v := .int .i64 (p 7)) rfl
    have c8 := HT1'.out.cell (i := 8) (v := .int .i64 (p 8)) rfl
    have c9 := HT1'.out.cell (i := 9) (v := .int .i64 (p 9)) rfl
    have c10 := HT1'.out.cell (i := 10) (v := .int .i64 (p 10)) rfl
    have c11 := HT1'.out.cell (i := 11) (v := .int .i64 (p 11)) rfl
    have c12 := HT1'.out.cell (i := 12) (v := .int .i64 k) rfl
    have c13 := HT1'.out.cell (i := 13) (v := .int .i64 m) rfl
    have c14 := HT1'.out.cell (i := 14) (v := .int .i64 c) rfl
    go_wp2_with fail
    refine (HC.out _).mono ?_
    rintro e wX ⟨rfl, hw⟩
    have hw := hw.symm
    subst hw
    go_wp2_with fail
    refine (HST.out wa).mono ?_
    rintro e w1 ⟨B1, d1, rfl, hr, hb⟩
    have HR1 := Lib.hid hr
    have HT_1 := Lib.hid (HT1'.out.step hb)
    have HB_1 := Lib.hid (below_trans HB.out hb)
    clear hb hr HT1' HB HST HC c0 c1 c2 c3 c4 c5 c6 c7 c8 c9 c10 c11 c12 c13 c14
    have hbx : Below w1.heap.size w1 (w1.alloc (.cells #[.slice B1 (lz p k).length d1, .int .i64 m] 35)) := (Below.refl _ _).alloc (Nat.le_refl _) _
    have HS2 := Lib.hid (Two.new w1 (.slice B1 (lz p k).length d1) (.int .i64 m) 35 w1.heap.size rfl)
    have HR2 := Lib.hid (HR1.out.step hbx)
    have HT2 := Lib.hid (HT_1.out.step hbx)
    have HB2 := Lib.hid (below_trans HB_1.out hbx)
    clear hbx HR1 HT_1 HB_1
    go_upto_region 4 with fail
    generalize w1.alloc (.cells #[.slice B1 (lz p k).length d1, .int .i64 m] 35) = w2 at HS2 HR2 HT2 HB2 ⊢
    refine wp_region_held_drew (S := (fun w' => w'.cell? ⟨w1.heap.size, 0, none⟩ = some (.slice B1 (lz p k).length d1) ∧ w'.cell? ⟨w1.heap.size, 1, none⟩ = some (.int .i64 m))) (by kernel_rfl) (by exact ⟨(HS2.out.step (Below.refl _ w2).drew).c0, (HS2.out.step (Below.refl _ w2).drew).c1⟩) (fun hHeld => ?_)
    refine wpAnyH_take (i := 0) (v := ?v1) rfl (by kernel_rfl) (by kernel_rfl) (by kernel_rfl) (fun _ _ _ h => h) (Or.inl ⟨by rfl, ?hy1⟩) (by assumption) ?rest1
    case hy1 => (intro w hSw; (try dsimp only at hSw); go_simp; try with_reducible rfl)
    try simp only [Act.put, List.getElem_toArray, List.getElem_cons_succ, List.getElem_cons_zero, List.setIfInBounds_toArray, List.set_cons_zero, List.set_cons_succ]
    refine wpAnyH_ready (rs := [1]) (by kernel_rfl) (by simp) ?_
    refine AllReadyH.cons rfl (fun K hK => ?_) AllReadyH.nil
    go_simp
    refine (HI.out w2.drew _ _ _ _ (HR2.out.step (Below.refl _ w2).drew).ins).mono ?_
    rintro e v1 ⟨rfl, hb⟩
    have HZ1 := Lib.hid (below_trans (Below.refl _ w2).drew hb)
    have HS2_1 := Lib.hid (HS2.out.step HZ1.out)
    clear hb
    refine hK.out _ _ (by exact ⟨HS2_1.out.c0, HS2_1.out.c1⟩) (fun hHeld => ?_)
    clear hK
    try simp only [Act.put, List.getElem_toArray, List.getElem_cons_succ, List.getElem_cons_zero, List.setIfInBounds_toArray, List.set_cons_zero, List.set_cons_succ]
    refine wpAnyH_take (i := 2) (v := ?v2) rfl (by kernel_rfl) (by kernel_rfl) (by kernel_rfl) (fun _ _ _ h => h) (Or.inl ⟨by rfl, ?hy2⟩) (by assumption) ?rest2
    case hy2 => (intro w hSw; (try dsimp only at hSw); go_simp; try with_reducible rfl)
    try simp only [Act.put, List.getElem_toArray, List.getElem_cons_succ, List.getElem_cons_zero, List.setIfInBounds_toArray, List.set_cons_zero, List.set_cons_succ]
    refine wpAnyH_take (i := 3) (v := undef) rfl (by kernel_rfl) (by kernel_rfl) (by kernel_rfl) (fun _ _ _ h => h) (Or.inr ⟨by rfl, rfl⟩) (by assumption) ?rest3
    try simp only [Act.put, List.getElem_toArray, List.getElem_cons_succ, List.getElem_cons_zero, List.setIfInBounds_toArray, List.set_cons_zero, List.set_cons_succ]
    refine wpAnyH_take (i := 4) (v := undef) rfl (by kernel_rfl) (by kernel_rfl) (by kernel_rfl) (fun _ _ _ h => h) (Or.inr ⟨by rfl, rfl⟩) (by assumption) ?rest4
    try simp only [Act.put, List.getElem_toArray, List.getElem_cons_succ, List.getElem_cons_zero, List.setIfInBounds_toArray, List.set_cons_zero, List.set_cons_succ]
    refine wpAnyH_take (i := 5) (v := undef) rfl (by kernel_rfl) (by kernel_rfl) (by kernel_rfl) (fun _ _ _ h => h) (Or.inr ⟨by rfl, rfl⟩) (by assumption) ?rest5
    try simp only [Act.put, List.getElem_toArray, List.getElem_cons_succ, List.getElem_cons_zero, List.setIfInBounds_toArray, List.set_cons_zero, List.set_cons_succ]
    refine wpAnyH_take (i := 6) (v := undef) rfl (by kernel_rfl) (by kernel_rfl) (by kernel_rfl) (fun _ _ _ h => h) (Or.inr ⟨by rfl, rfl⟩) (by assumption) ?rest6
    try simp only [Act.put, List.getElem_toArray, List.getElem_cons_succ, List.getElem_cons_zero, List.setIfInBounds_toArray, List.set_cons_zero, List.set_cons_succ]
    refine wpAnyH_take (i := 7) (v := undef) rfl (by kernel_rfl) (by kernel_rfl) (by kernel_rfl) (fun _ _ _ h => h) (Or.inr ⟨by rfl, rfl⟩) (by assumption) ?rest7
    try simp only [Act.put, List.getElem_toArray, List.getElem_cons_succ, List.getElem_cons_zero, List.setIfInBounds_toArray, List.set_cons_zero, List.set_cons_succ]
    refine wpAnyH_take (i := 8) (v := undef) rfl (by kernel_rfl) (by kernel_rfl) (by kernel_rfl) (fun _ _ _ h => h) (Or.inr ⟨by rfl, rfl⟩) (by assumption) ?rest8
    try simp only [Act.put, List.getElem_toArray, List.getElem_cons_succ, List.getElem_cons_zero, List.setIfInBounds_toArray, List.set_cons_zero, List.set_cons_succ]
    refine wpAnyH_take (i := 9) (v := ?v9) rfl (by kernel_rfl) (by kernel_rfl) (by kernel_rfl) (fun _ _ _ h => h) (Or.inl ⟨by rfl, ?hy9⟩) (by assumption) ?rest9
    case hy9 => (intro w hSw; (try dsimp only at hSw); go_simp; try with_reducible rfl)
    try simp only [Act.put, List.getElem_toArray, List.getElem_cons_succ, List.getElem_cons_zero, List.setIfInBounds_toArray, List.set_cons_zero, List.set_cons_succ]
    refine wpAnyH_take (i := 10) (v := ?v10) rfl (by kernel_rfl) (by kernel_rfl) (by kernel_rfl) (fun _ _ _ h => h) (Or.inl ⟨by rfl, ?hy10⟩) (by assumption) ?rest10
    case hy10 => (intro w hSw; (try dsimp only at hSw); go_simp; try with_reducible rfl)
    try simp only [Act.put, List.getElem_toArray, List.getElem_cons_succ, List.getElem_cons_zero, List.setIfInBounds_toArray, List.set_cons_zero, List.set_cons_succ]
    refine wpAnyH_done (by kernel_rfl) ?_ _
    all_goals
      have HW := Lib.hid (below_trans HB2.out HZ1.out)
      clear HS2_1 HZ1
      go_wp2
      go_ret
      exact ⟨rfl, HW.out⟩
  | true =>
    rw [hst] at HI
    clear hst
    have HE := Lib.hid (fun W => eq_rm p (rz (lz p k)) k m c k m c W)
    unfold tailB
    generalize (List.range 12).all (fun i => p i == rz (lz p k) i) = tb at HE ⊢
    rw [hkk] at HK
    clear hlz hkk
    go_enter Try.func14, Try.ntmps14
    simp only [rmA] at HT1 HB ⊢
    go_upto_region 1 with fail
    generalize w.alloc (.cells #[.int .i64 (p 0), .int .i64 (p 1), .int .i64 (p 2), .int .i64 (p 3), .int .i64 (p 4), .int .i64 (p 5), .int .i64 (p 6), .int .i64 (p 7), .int .i64 (p 8), .int .i64 (p 9), .int .i64 (p 10), .int .i64 (p 11), .int .i64 k, .int .i64 m, .int .i64 c] 26) = wa at HT1 HB ⊢
    have HT1' : Hid (Rw wa w.heap.size (rmA p k m c) 26) := HT1
    clear HT1
    have c0 := HT1'.out.cell (i := 0) (v := .int .i64 (p 0)) rfl
    have c1 := HT1'.out.cell (i := 1) (v := .int .i64 (p 1)) rfl
    have c2 := HT1'.out.cell (i := 2) (v := .int .i64 (p 2)) rfl
    have c3 := HT1'.out.cell (i := 3) (v := .int .i64 (p 3)) rfl
    have c4 := HT1'.out.cell (i := 4) (v := .int .i64 (p 4)) rfl
    have c5 := HT1'.out.cell (i := 5) (v := .int .i64 (p 5)) rfl
    have c6 := HT1'.out.cell (i := 6) (v := .int .i64 (p 6)) rfl
    have c7 := HT1'.out.cell (i := 7) (v := .int .i64 (p 7)) rfl
    have c8 := HT1'.out.cell (i := 8) (v := .int .i64 (p 8)) rfl
    have c9 := HT1'.out.cell (i := 9) (v := .int .i64 (p 9)) rfl
    have c10 := HT1'.out.cell (i := 10) (v := .int .i64 (p 10)) rfl
    have c11 := HT1'.out.cell (i := 11) (v := .int .i64 (p 11)) rfl
    have c12 := HT1'.out.cell (i := 12) (v := .int .i64 k) rfl
    have c13 := HT1'.out.cell (i := 13) (v := .int .i64 m) rfl
    have c14 := HT1'.out.cell (i := 14) (v := .int .i64 c) rfl
    go_wp2_with fail
    refine (HC.out _).mono ?_
    rintro e wX ⟨rfl, hw⟩
    have hw := hw.symm
    subst hw
    go_wp2_with fail
    refine (HST.out wa).mono ?_
    rintro e w1 ⟨B1, d1, rfl, hr, hb⟩
    have HR1 := Lib.hid hr
    have HT_1 := Lib.hid (HT1'.out.step hb)
    have HB_1 := Lib.hid (below_trans HB.out hb)
    clear hb hr HT1' HB HST HC c0 c1 c2 c3 c4 c5 c6 c7 c8 c9 c10 c11 c12 c13 c14
    have hbx : Below w1.heap.size w1 (w1.alloc (.cells #[.slice B1 (lz p k).length d1, .int .i64 m] 35)) := (Below.refl _ _).alloc (Nat.le_refl _) _
    have HS2 := Lib.hid (Two.new w1 (.slice B1 (lz p k).length d1) (.int .i64 m) 35 w1.heap.size rfl)
    have HR2 := Lib.hid (HR1.out.step hbx)
    have HT2 := Lib.hid (HT_1.out.step hbx)
    have HB2 := Lib.hid (below_trans HB_1.out hbx)
    clear hbx HR1 HT_1 HB_1
    go_upto_region 4 with fail
    generalize w1.alloc (.cells #[.slice B1 (lz p k).length d1, .int .i64 m] 35) = w2 at HS2 HR2 HT2 HB2 ⊢
    refine wp_region_held_drew (S := (fun w' => w'.cell? ⟨w1.heap.size, 0, none⟩ = some (.slice B1 (lz p k).length d1) ∧ w'.cell? ⟨w1.heap.size, 1, none⟩ = some (.int .i64 m) ∧ w'.cell? ⟨w.heap.size, 0, none⟩ = some (.int .i64 (p 0)) ∧ w'.cell? ⟨w.heap.size, 1, none⟩ = some (.int .i64 (p 1)) ∧ w'.cell? ⟨w.heap.size, 2, none⟩ = some (.int .i64 (p 2)) ∧ w'.cell? ⟨w.heap.size, 3, none⟩ = some (.int .i64 (p 3)) ∧ w'.cell? ⟨w.heap.size, 4, none⟩ = some (.int .i64 (p 4)) ∧ w'.cell? ⟨w.heap.size, 5, none⟩ = some (.int .i64 (p 5)) ∧ w'.cell? ⟨w.heap.size, 6, none⟩ = some (.int .i64 (p 6)) ∧ w'.cell? ⟨w.heap.size, 7, none⟩ = some (.int .i64 (p 7)) ∧ w'.cell? ⟨w.heap.size, 8, none⟩ = some (.int .i64 (p 8)) ∧ w'.cell? ⟨w.heap.size, 9, none⟩ = some (.int .i64 (p 9)) ∧ w'.cell? ⟨w.heap.size, 10, none⟩ = some (.int .i64 (p 10)) ∧ w'.cell? ⟨w.heap.size, 11, none⟩ = some (.int .i64 (p 11)) ∧ w'.cell? ⟨w.heap.size, 12, none⟩ = some (.int .i64 k) ∧ w'.cell? ⟨w.heap.size, 13, none⟩ = some (.int .i64 m) ∧ w'.cell? ⟨w.heap.size, 14, none⟩ = some (.int .i64 c))) (by kernel_rfl) (by exact ⟨(HS2.out.step (Below.refl _ w2).drew).c0, (HS2.out.step (Below.refl _ w2).drew).c1, (HT2.out.step (Below.refl _ w2).drew).cell (i := 0) (v := .int .i64 (p 0)) rfl, (HT2.out.step (Below.refl _ w2).drew).cell (i := 1) (v := .int .i64 (p 1)) rfl, (HT2.out.step (Below.refl _ w2).drew).cell (i := 2) (v := .int .i64 (p 2)) rfl, (HT2.out.step (Below.refl _ w2).drew).cell (i := 3) (v := .int .i64 (p 3)) rfl, (HT2.out.step (Below.refl _ w2).drew).cell (i := 4) (v := .int .i64 (p 4)) rfl, (HT2.out.step (Below.refl _ w2).drew).cell (i := 5) (v := .int .i64 (p 5)) rfl, (HT2.out.step (Below.refl _ w2).drew).cell (i := 6) (v := .int .i64 (p 6)) rfl, (HT2.out.step (Below.refl _ w2).drew).cell (i := 7) (v := .int .i64 (p 7)) rfl, (HT2.out.step (Below.refl _ w2).drew).cell (i := 8) (v := .int .i64 (p 8)) rfl, (HT2.out.step (Below.refl _ w2).drew).cell (i := 9) (v := .int .i64 (p 9)) rfl, (HT2.out.step (Below.refl _ w2).drew).cell (i := 10) (v := .int .i64 (p 10)) rfl, (HT2.out.step (Below.refl _ w2).drew).cell (i := 11) (v := .int .i64 (p 11)) rfl, (HT2.out.step (Below.refl _ w2).drew).cell (i := 12) (v := .int .i64 k) rfl, (HT2.out.step (Below.refl _ w2).drew).cell (i := 13) (v := .int .i64 m) rfl, (HT2.out.step (Below.refl _ w2).drew).cell (i := 14) (v := .int .i64 c) rfl⟩) (fun hHeld => ?_)
    refine wpAnyH_take (i := 0) (v := ?v11) rfl (by kernel_rfl) (by kernel_rfl) (by kernel_rfl) (fun _ _ _ h => h) (Or.inl ⟨by rfl, ?hy11⟩) (by assumption) ?rest11
    case hy11 => (intro w hSw; (try dsimp only at hSw); go_simp; try with_reducible rfl)
    try simp only [Act.put, List.getElem_toArray, List.getElem_cons_succ, List.getElem_cons_zero, List.setIfInBounds_toArray, List.set_cons_zero, List.set_cons_succ]
    refine wpAnyH_ready (rs := [1]) (by kernel_rfl) (by simp) ?_
    refine AllReadyH.cons rfl (fun K hK => ?_) AllReadyH.nil
    go_simp
    refine (HI.out w2.drew _ _ _ _ (HR2.out.step (Below.refl _ w2).drew).ins).mono ?_
    rintro e v1 ⟨rfl, hb⟩
    have HZ1 := Lib.hid (below_trans (Below.refl _ w2).drew hb)
    have HS2_1 := Lib.hid (HS2.out.step HZ1.out)
    have HT2_1 := Lib.hid (HT2.out.step HZ1.out)
    have HR2_1 := Lib.hid (HR2.out.step HZ1.out)
    clear hb
    refine hK.out _ _ (by exact ⟨(HS2_1.out).c0, (HS2_1.out).c1, (HT2_1.out).cell (i := 0) (v := .int .i64 (p 0)) rfl, (HT2_1.out).cell (i := 1) (v := .int .i64 (p 1)) rfl, (HT2_1.out).cell (i := 2) (v := .int .i64 (p 2)) rfl, (HT2_1.out).cell (i := 3) (v := .int .i64 (p 3)) rfl, (HT2_1.out).cell (i := 4) (v := .int .i64 (p 4)) rfl, (HT2_1.out).cell (i := 5) (v := .int .i64 (p 5)) rfl, (HT2_1.out).cell (i := 6) (v := .int .i64 (p 6)) rfl, (HT2_1.out).cell (i := 7) (v := .int .i64 (p 7)) rfl, (HT2_1.out).cell (i := 8) (v := .int .i64 (p 8)) rfl, (HT2_1.out).cell (i := 9) (v := .int .i64 (p 9)) rfl, (HT2_1.out).cell (i := 10) (v := .int .i64 (p 10)) rfl, (HT2_1.out).cell (i := 11) (v := .int .i64 (p 11)) rfl, (HT2_1.out).cell (i := 12) (v := .int .i64 k) rfl, (HT2_1.out).cell (i := 13) (v := .int .i64 m) rfl, (HT2_1.out).cell (i := 14) (v := .int .i64 c) rfl⟩) (fun hHeld => ?_)
    clear hK
    try simp only [Act.put, List.getElem_toArray, List.getElem_cons_succ, List.getElem_cons_zero, List.setIfInBounds_toArray, List.set_cons_zero, List.set_cons_succ]
    refine wpAnyH_take (i := 2) (v := ?v12) rfl (by kernel_rfl) (by kernel_rfl) (by kernel_rfl) (fun _ _ _ h => h) (Or.inl ⟨by rfl, ?hy12⟩) (by assumption) ?rest12
    case hy12 => (intro w hSw; (try dsimp only at hSw); go_simp; try with_reducible rfl)
    try simp only [Act.put, List.getElem_toArray, List.getElem_cons_succ, List.getElem_cons_zero, List.setIfInBounds_toArray, List.set_cons_zero, List.set_cons_succ]
    refine wpAnyH_take (i := 3) (v := ?v13) rfl (by kernel_rfl) (by kernel_rfl) (by kernel_rfl) (fun _ _ _ h => h) (Or.inl ⟨by rfl, ?hy13⟩) (by assumption) ?rest13
    case hy13 => (intro w hSw; (try dsimp only at hSw); go_simp; try with_reducible rfl)
    try simp only [Act.put, List.getElem_toArray, List.getElem_cons_succ, List.getElem_cons_zero, List.setIfInBounds_toArray, List.set_cons_zero, List.set_cons_succ]
    refine wpAnyH_take (i := 4) (v := ?v14) rfl (by kernel_rfl) (by kernel_rfl) (by kernel_rfl) (fun _ _ _ h => h) (Or.inl ⟨by rfl, ?hy14⟩) (by assumption) ?rest14
    case hy14 => (intro w hSw; (try dsimp only at hSw); go_simp; try with_reducible rfl)
    try simp only [Act.put, List.getElem_toArray, List.getElem_cons_succ, List.getElem_cons_zero, List.setIfInBounds_toArray, List.set_cons_zero, List.set_cons_succ]
    refine wpAnyH_take (i := 5) (v := ?v15) rfl (by kernel_rfl) (by kernel_rfl) (by kernel_rfl) (fun _ _ _ h => h) (Or.inl ⟨by rfl, ?hy15⟩) (by assumption) ?rest15
    case hy15 => (intro w hSw; (try dsimp only at hSw); go_simp; try with_reducible rfl)
    try simp only [Act.put, List.getElem_toArray, List.getElem_cons_succ, List.getElem_cons_zero, List.setIfInBounds_toArray, List.set_cons_zero, List.set_cons_succ]
    refine wpAnyH_take (i := 6) (v := ?v16) rfl (by kernel_rfl) (by kernel_rfl) (by kernel_rfl) (fun _ _ _ h => h) (Or.inl ⟨by rfl, ?hy16⟩) (by assumption) ?rest16
    case hy16 => (intro w hSw; (try dsimp only at hSw); go_simp; try with_reducible rfl)
    try simp only [Act.put, List.getElem_toArray, List.getElem_cons_succ, List.getElem_cons_zero, List.setIfInBounds_toArray, List.set_cons_zero, List.set_cons_succ]
    refine wpAnyH_ready (rs := [7]) (by kernel_rfl) (by simp) ?_
    refine AllReadyH.cons rfl (fun K hK => ?_) AllReadyH.nil
    go_simp
    refine (HK.out v1 _ _ _ _ HR2_1.out.ins).mono ?_
    rintro e v2 ⟨rfl, hb⟩
    have HZ2 := Lib.hid (below_trans HZ1.out hb)
    have HS2_2 := Lib.hid (HS2.out.step HZ2.out)
    have HT2_2 := Lib.hid (HT2.out.step HZ2.out)
    have he := HE.out
    simp only [rmA] at he ⊢
    clear hb
    refine hK.out _ _ (by exact ⟨(HS2_2.out).c0, (HS2_2.out).c1, (HT2_2.out).cell (i := 0) (v := .int .i64 (p 0)) rfl, (HT2_2.out).cell (i := 1) (v := .int .i64 (p 1)) rfl, (HT2_2.out).cell (i := 2) (v := .int .i64 (p 2)) rfl, (HT2_2.out).cell (i := 3) (v := .int .i64 (p 3)) rfl, (HT2_2.out).cell (i := 4) (v := .int .i64 (p 4)) rfl, (HT2_2.out).cell (i := 5) (v := .int .i64 (p 5)) rfl, (HT2_2.out).cell (i := 6) (v := .int .i64 (p 6)) rfl, (HT2_2.out).cell (i := 7) (v := .int .i64 (p 7)) rfl, (HT2_2.out).cell (i := 8) (v := .int .i64 (p 8)) rfl, (HT2_2.out).cell (i := 9) (v := .int .i64 (p 9)) rfl, (HT2_2.out).cell (i := 10) (v := .int .i64 (p 10)) rfl, (HT2_2.out).cell (i := 11) (v := .int .i64 (p 11)) rfl, (HT2_2.out).cell (i := 12) (v := .int .i64 k) rfl, (HT2_2.out).cell (i := 13) (v := .int .i64 m) rfl, (HT2_2.out).cell (i := 14) (v := .int .i64 c) rfl⟩) (fun hHeld => ?_)
    clear hK
    try simp only [Act.put, List.getElem_toArray, List.getElem_cons_succ, List.getElem_cons_zero, List.setIfInBounds_toArray, List.set_cons_zero, List.set_cons_succ]
    refine wpAnyH_take (i := 8) (v := ?v17) rfl (by kernel_rfl) (by kernel_rfl) (by kernel_rfl) (fun _ _ _ h => h) (Or.inl ⟨by rfl, ?hy17⟩) (by assumption) ?rest17
    case hy17 => (intro w hSw; (try dsimp only at hSw); go_simp; try with_reducible rfl)
    try simp only [Act.put, List.getElem_toArray, List.getElem_cons_succ, List.getElem_cons_zero, List.setIfInBounds_toArray, List.set_cons_zero, List.set_cons_succ]
    refine wpAnyH_take (i := 9) (v := ?v18) rfl (by kernel_rfl) (by kernel_rfl) (by kernel_rfl) (fun _ _ _ h => h) (Or.inl ⟨by rfl, ?hy18⟩) (by assumption) ?rest18
    case hy18 => (intro w hSw; (try dsimp only at hSw); go_simp; try with_reducible rfl)
    try simp only [Act.put, List.getElem_toArray, List.getElem_cons_succ, List.getElem_cons_zero, List.setIfInBounds_toArray, List.set_cons_zero, List.set_cons_succ]
    refine wpAnyH_take (i := 10) (v := ?v19) rfl (by kernel_rfl) (by kernel_rfl) (by kernel_rfl) (fun _ _ _ h => h) (Or.inl ⟨by rfl, ?hy19⟩) (by assumption) ?rest19
    case hy19 => (intro w hSw; (try dsimp only at hSw); go_simp; try with_reducible rfl)
    try simp only [Act.put, List.getElem_toArray, List.getElem_cons_succ, List.getElem_cons_zero, List.setIfInBounds_toArray, List.set_cons_zero, List.set_cons_succ]
    refine wpAnyH_done (by kernel_rfl) ?_ _
    all_goals
      have HW := Lib.hid (below_trans HB2.out HZ2.out)
      clear HS2_1 HS2_2 HT2_1 HT2_2 HZ1 HZ2
      go_wp2
      go_ret
      exact ⟨by simp, HW.out⟩
end Go.Proofs.Ytpjoljaamakagaa
