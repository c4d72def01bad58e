/- The answerer: the longest list that holds. -/
import Derived.Test.YtbgdnidbdfhgjaaL8D
import Derived.WalkMore
namespace Go.Proofs.Ytbgdnidbdfhgjaa
open Go.RowKit Go.ChangeShapes Go.WideShapes Go.Maps
set_option linter.unusedVariables false

theorem elem_ints8 : Try.prog.underlying 22 = some (.slice (Try.prog.elem 22)) := by kernel_rfl
theorem elem_int8 : Try.prog.elem 22 = 3 := by kernel_rfl
theorem size_int8 (w : World) : (sizeOf 3).run Try.prog w = .ok 1 w := by kernel_rfl
theorem addr_zero8 (A : Option Addr) : A.map (·.add 0) = A := by
  cases A with
  | none => rfl
  | some a => simp [Addr.add]
theorem slice_to8 (A : Option Addr) (n c k : Nat) (h : k ≤ c) (w : World) : (Instr.slice 22 (.slice A n c) none (some (.int .i64 (k : Int))) none).run Try.prog w = .ok (.slice A k c) w := by
  rw [run_slice_h (P := Try.prog) w 22 A n c elem_ints8 .i64 (k : Int) (by omega) (by omega), elem_int8, size_int8]
  simp only [Result.andThen, sliced, Int.toNat_natCast, Nat.zero_mul, addr_zero8, Nat.sub_zero, ite_self]
theorem Ins.take8 {w : World} {lo hi : Nat} {A : Option Addr} {qs : List Int} (h : Ins w lo hi A qs) (k : Nat) : Ins w lo hi A (qs.take k) :=
  ⟨fun h0 => by
    obtain ⟨b, o, e, h1, h2, hc⟩ := h.ints (by rw [List.length_take] at h0; omega)
    refine ⟨b, o, e, h1, h2, fun j x hx => hc j x ?_⟩
    have hj : j < k := by
      rcases Nat.lt_or_ge j (qs.take k).length with hl | hl
      · rw [List.length_take] at hl; omega
      · rw [List.getElem?_eq_none hl] at hx; cases hx
    rwa [List.getElem?_take_of_lt hj] at hx, h.top⟩
theorem Listed.take {zs : List Int} {m : Int} {qs : List Int} (h : Listed zs m qs) (k : Nat) : Listed zs m (qs.take k) :=
  ⟨h.st, by rw [List.length_take]; have := h.q8; omega, fun q hq => h.ok q (List.mem_of_mem_take hq)⟩
theorem take_len8 {qs : List Int} {k : Nat} (h : k ≤ qs.length) : (qs.take k).length = k := by rw [List.length_take]; omega
theorem tell_none {m : Int} {zs qs : List Int} (h : tellB m zs qs = true) : ∀ j, j < (opnL m zs qs).length → ¬ 2 ≤ (opnL m zs qs).getD j 0 := by
  have h0 : geC m zs qs 2 = 0 := by simpa [tellB] using h
  unfold geC at h0
  intro j hj
  exact geTo_zero.1 h0 j (by rw [opnL_len] at hj; exact hj)
theorem tell_some {m : Int} {zs qs : List Int} (h : tellB m zs qs = false) : ∃ d, FirstGe (opnL m zs qs) 2 d := by
  have h0 : geC m zs qs 2 ≠ 0 := by simpa [tellB] using h
  rcases first_or (opnL m zs qs) 2 (opnL m zs qs).length (Nat.le_refl _) with hN | ⟨d, _, hF⟩
  · exfalso
    apply h0
    unfold geC
    exact geTo_zero.2 fun j hj => hN j (by rw [opnL_len]; exact hj)
  · exact ⟨d, hF⟩
theorem lng_yes {m : Int} {zs qs : List Int} {k : Nat} (h : tellB m zs (qs.take k) = true) : lngTo m zs qs (k + 1) = lngTo m zs qs k := by rw [lngTo, if_pos h]
theorem lng_no {m : Int} {zs qs : List Int} {k : Nat} (h : tellB m zs (qs.take k) = false) : lngTo m zs qs (k + 1) = (k : Int) := by rw [lngTo, if_neg (by rw [h]; decide)]
set_option maxRecDepth 100000 in
set_option maxHeartbeats 8000000 in
theorem longestHold_impl_no (A : Option Addr) (c lo hi : Nat) (zs : List Int) (m : Int) (A2 : Option Addr) (c2 lo2 hi2 : Nat) (qs : List Int) (w : World) (hS : Ins w lo hi A zs) (hQ : Ins w lo2 hi2 A2 qs) (hn : zs.length ≤ 1048576) (hn2 : qs.length ≤ 1048576) (hok : lOK zs m qs = false) :
    Calls Try.prog 38 #[.agg #[.slice A zs.length c, .int .i64 m], .slice A2 qs.length c2] w fun e w' => e = .returned (.tuple #[.int .i64 0, .bool false]) ∧ Below w.heap.size w w' := by
  have HT := Lib.hid (Two.new w (.slice A zs.length c) (.int .i64 m) 27 (w.heap.size) rfl)
  have HB := Lib.hid ((Below.refl w.heap.size w).alloc (Nat.le_refl _) (.cells #[.slice A zs.length c, .int .i64 m] 27))
  have HI := Lib.hid (hS.step HB.out)
  have HQ := Lib.hid (hQ.step HB.out)
  have HG := Lib.hid (fun W h h2 => areListed_any A c lo hi zs m A2 c2 lo2 hi2 qs W h h2 hn hn2)
  rw [hok] at HG
  clear hS hQ hok
  go_enter Try.func38, Try.ntmps38
  go_wp2_with fail
  go_step3
  go_wp2_with fail
  generalize w.alloc (.cells #[.slice A zs.length c, .int .i64 m] 27) = w0 at HT HB HI HQ ⊢
  have h0 := HT.out.c0
  have h1 := HT.out.c1
  with_reducible refine (HG.out _ HI.out HQ.out).mono ?_
  rintro e w1 ⟨rfl, hb⟩
  replace HT := Lib.hid (HT.out.step hb)
  replace HB := Lib.hid (below_trans HB.out hb)
  replace HI := Lib.hid (HI.out.step hb)
  replace HQ := Lib.hid (HQ.out.step hb)
  replace h0 := HT.out.c0
  replace h1 := HT.out.c1
  clear hb
  clear h0 h1
  go_wp2
  rw [Exit.noGoto_ret]
  go_ret2
  exact ⟨rfl, HB.out⟩
set_option maxRecDepth 100000 in
set_option maxHeartbeats 8000000 in
theorem longestHold_spec_no (A : Option Addr) (c lo hi : Nat) (zs : List Int) (m : Int) (A2 : Option Addr) (c2 lo2 hi2 : Nat) (qs : List Int) (w : World) (hS : Ins w lo hi A zs) (hQ : Ins w lo2 hi2 A2 qs) (hn : zs.length ≤ 1048576) (hn2 : qs.length ≤ 1048576) (hok : lOK zs m qs = false) :
    Calls Try.prog 37 #[.agg #[.slice A zs.length c, .int .i64 m], .slice A2 qs.length c2] w fun e w' => e = .returned (.tuple #[.int .i64 0, .bool false]) ∧ Below w.heap.size w w' := by
  have HT := Lib.hid (Two.new w (.slice A zs.length c) (.int .i64 m) 27 (w.heap.size) rfl)
  have HB := Lib.hid ((Below.refl w.heap.size w).alloc (Nat.le_refl _) (.cells #[.slice A zs.length c, .int .i64 m] 27))
  have HI := Lib.hid (hS.step HB.out)
  have HQ := Lib.hid (hQ.step HB.out)
  have HG := Lib.hid (fun W h h2 => l8Good_any A c lo hi zs m A2 c2 lo2 hi2 qs W h h2 hn hn2)
  rw [hok] at HG
  clear hS hQ hok
  go_enter Try.func37, Try.ntmps37
  go_wp2_with fail
  generalize w.alloc (.cells #[.slice A zs.length c, .int .i64 m] 27) = w0 at HT HB HI HQ ⊢
  have h0 := HT.out.c0
  have h1 := HT.out.c1
  with_reducible refine (HG.out _ HI.out HQ.out).mono ?_
  rintro e w1 ⟨rfl, hb⟩
  replace HT := Lib.hid (HT.out.step hb)
  replace HB := Lib.hid (below_trans HB.out hb)
  replace HI := Lib.hid (HI.out.step hb)
  replace HQ := Lib.hid (HQ.out.step hb)
  replace h0 := HT.out.c0
  replace h1 := HT.out.c1
  clear hb
  clear h0 h1
  go_wp2
  go_ret2
  exact ⟨rfl, HB.out⟩
set_option maxRecDepth 100000 in
set_option maxHeartbeats 8000000 in
theorem longestHold_spec (A : Option Addr) (c lo hi : Nat) (zs : List Int) (m : Int) (A2 : Option Addr) (c2 lo2 hi2 : Nat) (qs : List Int) (w : World) (hS : Ins w lo hi A zs) (hQ : Ins w lo2 hi2 A2 qs) (hL : Listed zs m qs) (hc2 : qs.length ≤ c2) :
    Calls Try.prog 37 #[.agg #[.slice A zs.length c, .int .i64 m], .slice A2 qs.length c2] w fun e w' => e = .returned (.tuple #[.int .i64 (lngTo m zs qs (qs.length + 1)), .bool true]) ∧ Below w.heap.size w w' := by
  have HT := Lib.hid (Two.new w (.slice A zs.length c) (.int .i64 m) 27 (w.heap.size) rfl)
  have HB := Lib.hid ((Below.refl w.heap.size w).alloc (Nat.le_refl _) (.cells #[.slice A zs.length c, .int .i64 m] 27))
  have HI := Lib.hid (hS.step HB.out)
  have HQ := Lib.hid (hQ.step HB.out)
  have HL := Lib.hid hL
  have h8 := hL.q8
  have hl := hL.len
  have HG := Lib.hid (fun W h h2 => l8Good_any A c lo hi zs m A2 c2 lo2 hi2 qs W h h2 (by omega) (by omega))
  rw [hL.ok1] at HG
  clear hS hQ hL
  go_enter Try.func37, Try.ntmps37
  go_wp2_with fail
  generalize w.alloc (.cells #[.slice A zs.length c, .int .i64 m] 27) = w0 at HT HB HI HQ ⊢
  have h0 := HT.out.c0
  have h1 := HT.out.c1
  with_reducible refine (HG.out _ HI.out HQ.out).mono ?_
  rintro e w1 ⟨rfl, hb⟩
  replace HT := Lib.hid (HT.out.step hb)
  replace HB := Lib.hid (below_trans HB.out hb)
  replace HI := Lib.hid (HI.out.step hb)
  replace HQ := Lib.hid (HQ.out.step hb)
  replace h0 := HT.out.c0
  replace h1 := HT.out.c1
  clear hb
  clear h0 h1
  clear HG
  go_wp2_with fail
  go_loopw [6] (fun i wr => ∃ (j : Nat), j ≤ qs.length + 1 ∧ i = .int .i64 ((j : Int) - 1) ∧ Hid (lngTo m zs qs (qs.length + 1) = lngTo m zs qs j) ∧ Hid (Two wr w.heap.size (.slice A zs.length c) (.int .i64 m) 27) ∧ Hid (Ins wr lo hi A zs) ∧ Hid (Ins wr lo2 hi2 A2 qs) ∧ Hid (Below w.heap.size w wr)) (fun i _ => (intOf i + 1).toNat)
  case atStart => exact ⟨qs.length + 1, Nat.le_refl _, by go_num, Lib.hid rfl, HT, HI, HQ, HB⟩
  case round =>
    clear HT HI HQ HB
    obtain ⟨j, hj, rfl, HE, HT, HI, HQ, HB⟩ := hrel
    by_cases hlt : 0 < j
    · obtain ⟨k, rfl⟩ : ∃ i, j = i + 1 := ⟨j - 1, by omega⟩
      have hji : ((k + 1 : Nat) : Int) - 1 = (k : Int) := by omega
      rw [hji]
      clear hji
      have hkl := take_len8 (qs := qs) (k := k) (by omega)
      have HTl := Lib.hid (fun W h h2 => l8Tell_any A c lo hi zs m A2 c2 lo2 hi2 (qs.take k) W h h2 (HL.out.take k))
      rw [hkl] at HTl
      have hsl := slice_to8 A2 qs.length c2 k (by omega)
      have hk0 : (0 : Int) ≤ (k : Int) := by omega
      clear hkl
      cases ht : tellB m zs (qs.take k) with
      | false =>
        rw [ht] at HTl
        have HNX := Lib.hid (lng_no ht)
        clear ht
        go_wp2_with fail
        go_region_held3 (fun w' => w'.cell? ⟨w.heap.size, 0, none⟩ = some (.slice A zs.length c) ∧ w'.cell? ⟨w.heap.size, 1, none⟩ = some (.int .i64 m))
          (first
           | exact ⟨(HT.out.step (Below.refl _ wr).drew).c0, (HT.out.step (Below.refl _ wr).drew).c1⟩
           | exact ⟨(HT_1.out).c0, (HT_1.out).c1⟩)
          (first
           | (go_at_call 65; (with_reducible refine (HTl.out wr.drew (HI.out.step (Below.refl _ wr).drew) ((HQ.out.step (Below.refl _ wr).drew).take8 k)).mono ?_); rintro e v1 ⟨rfl, hb⟩; have HZ1 := Lib.hid (below_trans (Below.refl _ wr).drew hb); have HT_1 := Lib.hid (HT.out.step HZ1.out); have HI_1 := Lib.hid (HI.out.step HZ1.out); have HQ_1 := Lib.hid (HQ.out.step HZ1.out); have HB_1 := Lib.hid (below_trans HB.out HZ1.out); clear hb))
        all_goals
          clear HT HI HQ HB HZ1 HTl hsl
          go_wp2
          go_ret2
          rw [HE.out, HNX.out]
          exact ⟨rfl, HB_1.out⟩
      | true =>
        rw [ht] at HTl
        have HNX := Lib.hid (lng_yes ht)
        clear ht
        go_wp2_with fail
        go_region_held3 (fun w' => w'.cell? ⟨w.heap.size, 0, none⟩ = some (.slice A zs.length c) ∧ w'.cell? ⟨w.heap.size, 1, none⟩ = some (.int .i64 m))
          (first
           | exact ⟨(HT.out.step (Below.refl _ wr).drew).c0, (HT.out.step (Below.refl _ wr).drew).c1⟩
           | exact ⟨(HT_1.out).c0, (HT_1.out).c1⟩)
          (first
           | (go_at_call 65; (with_reducible refine (HTl.out wr.drew (HI.out.step (Below.refl _ wr).drew) ((HQ.out.step (Below.refl _ wr).drew).take8 k)).mono ?_); rintro e v1 ⟨rfl, hb⟩; have HZ1 := Lib.hid (below_trans (Below.refl _ wr).drew hb); have HT_1 := Lib.hid (HT.out.step HZ1.out); have HI_1 := Lib.hid (HI.out.step HZ1.out); have HQ_1 := Lib.hid (HQ.out.step HZ1.out); have HB_1 := Lib.hid (below_trans HB.out HZ1.out); clear hb))
        all_goals
          clear HT HI HQ HB HZ1 HTl hsl
          go_wp2
          go_roundw
          case rel => exact ⟨k, by omega, by go_num, by rw [HE.out, HNX.out]; exact Lib.hid rfl, HT_1, HI_1, HQ_1, HB_1⟩
          case measure => (simp [intOf] <;> omega)
    · obtain rfl : j = 0 := by omega
      have h0 := HT.out.c0
      have h1 := HT.out.c1
      go_wp2_with fail
      go_quiet (fail)
      go_wp2
      go_ret2
      rw [HE.out]
      exact ⟨rfl, by first | exact HB.out | exact below_drewN HB.out _ | exact HB.out.drew⟩
set_option maxRecDepth 100000 in
set_option maxHeartbeats 8000000 in
theorem longestHold_impl (A : Option Addr) (c lo hi : Nat) (zs : List Int) (m : Int) (A2 : Option Addr) (c2 lo2 hi2 : Nat) (qs : List Int) (w : World) (hS : Ins w lo hi A zs) (hQ : Ins w lo2 hi2 A2 qs) (hL : Listed zs m qs) (hc2 : qs.length ≤ c2) :
    Calls Try.prog 38 #[.agg #[.slice A zs.length c, .int .i64 m], .slice A2 qs.length c2] w fun e w' => e = .returned (.tuple #[.int .i64 (lngTo m zs qs (qs.length + 1)), .bool true]) ∧ Below w.heap.size w w' := by
  have HT := Lib.hid (Two.new w (.slice A zs.length c) (.int .i64 m) 27 (w.heap.size) rfl)
  have HB := Lib.hid ((Below.refl w.heap.size w).alloc (Nat.le_refl _) (.cells #[.slice A zs.length c, .int .i64 m] 27))
  have HI := Lib.hid (hS.step HB.out)
  have HQ := Lib.hid (hQ.step HB.out)
  have HL := Lib.hid hL
  have h8 := hL.q8
  have hl := hL.len
  have HG := Lib.hid (fun W h h2 => areListed_any A c lo hi zs m A2 c2 lo2 hi2 qs W h h2 (by omega) (by omega))
  rw [hL.ok1] at HG
  clear hS hQ hL
  go_enter Try.func38, Try.ntmps38
  go_wp2_with fail
  go_step3
  go_wp2_with fail
  generalize w.alloc (.cells #[.slice A zs.length c, .int .i64 m] 27) = w0 at HT HB HI HQ ⊢
  have h0 := HT.out.c0
  have h1 := HT.out.c1
  with_reducible refine (HG.out _ HI.out HQ.out).mono ?_
  rintro e w1 ⟨rfl, hb⟩
  replace HT := Lib.hid (HT.out.step hb)
  replace HB := Lib.hid (below_trans HB.out hb)
  replace HI := Lib.hid (HI.out.step hb)
  replace HQ := Lib.hid (HQ.out.step hb)
  replace h0 := HT.out.c0
  replace h1 := HT.out.c1
  clear hb
  clear h0 h1
  clear HG
  go_wp2_with fail
  go_step3
  go_wp2_with fail
  go_loopw [6, 7] (fun lg i wr => ∃ (j : Nat), lg = .int .i64 (-1) ∧ j ≤ qs.length + 1 ∧ i = .int .i64 ((j : Int) - 1) ∧ Hid (lngTo m zs qs (qs.length + 1) = lngTo m zs qs j) ∧ Hid (Two wr w.heap.size (.slice A zs.length c) (.int .i64 m) 27) ∧ Hid (Ins wr lo hi A zs) ∧ Hid (Ins wr lo2 hi2 A2 qs) ∧ Hid (Below w.heap.size w wr)) (fun _ i _ => (intOf i + 1).toNat)
  case atStart => exact ⟨qs.length + 1, rfl, Nat.le_refl _, by go_num, Lib.hid rfl, HT, HI, HQ, HB⟩
  case round =>
    clear HT HI HQ HB
    obtain ⟨j, rfl, hj, rfl, HE, HT, HI, HQ, HB⟩ := hrel
    by_cases hlt : 0 < j
    · obtain ⟨k, rfl⟩ : ∃ i, j = i + 1 := ⟨j - 1, by omega⟩
      have hji : ((k + 1 : Nat) : Int) - 1 = (k : Int) := by omega
      rw [hji]
      clear hji
      have hkl := take_len8 (qs := qs) (k := k) (by omega)
      have HOp := Lib.hid (fun W h h2 => openAtEnds_any A c lo hi zs m A2 c2 lo2 hi2 (qs.take k) W h h2 (HL.out.take k))
      rw [hkl] at HOp
      have hO256 : (opnL m zs (qs.take k)).length ≤ 256 := by rw [opnL_len, hkl]; exact (pow8 (by omega)).2
      have hsl := slice_to8 A2 qs.length c2 k (by omega)
      have hk0 : (0 : Int) ≤ (k : Int) := by omega
      clear hkl
      cases ht : tellB m zs (qs.take k) with
      | false =>
        have HNX := Lib.hid (lng_no ht)
        obtain ⟨d, hdl, hdx, hdf⟩ := tell_some ht
        have HN := Lib.hid hdf
        have HX := Lib.hid hdx
        clear hdf hdx
        clear ht
        generalize opnL m zs (qs.take k) = O at HOp hO256 HN hdl HX
        go_wp2_with fail
        go_region_held3 (fun w' => w'.cell? ⟨w.heap.size, 0, none⟩ = some (.slice A zs.length c) ∧ w'.cell? ⟨w.heap.size, 1, none⟩ = some (.int .i64 m))
          (first
           | exact ⟨(HT.out.step (Below.refl _ wr).drew).c0, (HT.out.step (Below.refl _ wr).drew).c1⟩
           | exact ⟨(HT_1.out).c0, (HT_1.out).c1⟩)
          (first
           | (go_at_call 63; (with_reducible refine (HOp.out wr.drew (HI.out.step (Below.refl _ wr).drew) ((HQ.out.step (Below.refl _ wr).drew).take8 k)).mono ?_); rintro e v1 ⟨v, rfl, ho, hb⟩; have HZ1 := Lib.hid (below_trans (Below.refl _ wr).drew hb); have HT_1 := Lib.hid (HT.out.step HZ1.out); have HI_1 := Lib.hid (HI.out.step HZ1.out); have HQ_1 := Lib.hid (HQ.out.step HZ1.out); have HB_1 := Lib.hid (below_trans HB.out HZ1.out); obtain ⟨Av, cv, rfl, _, hR⟩ := own_res ho rfl; have HR := Lib.hid hR.ins; clear ho hR; clear hb))
        all_goals
          clear HT HI HQ HB HZ1 HOp hsl
          go_wp2_with fail
          go_loopw [6, 26] (fun lg i wy => ∃ (p : Nat), lg = .int .i64 (-1) ∧ p ≤ d ∧ i = .int .i64 (p : Int) ∧ wy = v1) (fun _ i _ => O.length - (intOf i).toNat)
          case atStart => exact ⟨0, rfl, Nat.zero_le _, rfl, rfl⟩
          case round =>
            obtain ⟨p, rfl, hp, rfl, hww⟩ := hrel
            have hww := hww.symm
            subst hww
            by_cases hlp : p < d
            · have hpO : p < O.length := by omega
              obtain ⟨b, o, rfl, _, hb, hc⟩ := HR.out.ints.at_ hpO
              have hki : (p : Int) < (O.length : Int) := by omega
              have hgk : O.getD p 0 = O[p] := by simp [List.getD, hpO]
              have hx : ¬ 2 ≤ O[p] := by have h9 := HN.out p hlp; rw [hgk] at h9; omega
              clear hgk
              generalize O[p] = y at hc hx
              go_wp2
              go_roundw
              case rel => exact ⟨p + 1, rfl, by omega, by go_num, by first | rfl | trivial⟩
              case measure => simp [intOf]; omega
            · obtain rfl : p = d := by omega
              obtain ⟨b, o, rfl, _, hb, hc⟩ := HR.out.ints.at_ hdl
              have hki : (p : Int) < (O.length : Int) := by omega
              have hx := HX.out
              generalize O[p] = y at hc hx
              clear HX HR
              go_wp2
              go_ret2
              rw [HE.out, HNX.out]
              exact ⟨rfl, HB_1.out⟩
      | true =>
        have HNX := Lib.hid (lng_yes ht)
        have HN := Lib.hid (tell_none ht)
        clear ht
        generalize opnL m zs (qs.take k) = O at HOp hO256 HN
        go_wp2_with fail
        go_region_held3 (fun w' => w'.cell? ⟨w.heap.size, 0, none⟩ = some (.slice A zs.length c) ∧ w'.cell? ⟨w.heap.size, 1, none⟩ = some (.int .i64 m))
          (first
           | exact ⟨(HT.out.step (Below.refl _ wr).drew).c0, (HT.out.step (Below.refl _ wr).drew).c1⟩
           | exact ⟨(HT_1.out).c0, (HT_1.out).c1⟩)
          (first
           | (go_at_call 63; (with_reducible refine (HOp.out wr.drew (HI.out.step (Below.refl _ wr).drew) ((HQ.out.step (Below.refl _ wr).drew).take8 k)).mono ?_); rintro e v1 ⟨v, rfl, ho, hb⟩; have HZ1 := Lib.hid (below_trans (Below.refl _ wr).drew hb); have HT_1 := Lib.hid (HT.out.step HZ1.out); have HI_1 := Lib.hid (HI.out.step HZ1.out); have HQ_1 := Lib.hid (HQ.out.step HZ1.out); have HB_1 := Lib.hid (below_trans HB.out HZ1.out); obtain ⟨Av, cv, rfl, _, hR⟩ := own_res ho rfl; have HR := Lib.hid hR.ins; clear ho hR; clear hb))
        all_goals
          clear HT HI HQ HB HZ1 HOp hsl
          go_wp2_with fail
          go_loopw [6, 26] (fun lg i wy => ∃ (p : Nat), lg = .int .i64 (-1) ∧ p ≤ O.length ∧ i = .int .i64 (p : Int) ∧ wy = v1) (fun _ i _ => O.length - (intOf i).toNat)
          case atStart => exact ⟨0, rfl, Nat.zero_le _, rfl, rfl⟩
          case round =>
            obtain ⟨p, rfl, hp, rfl, hww⟩ := hrel
            have hww := hww.symm
            subst hww
            by_cases hlp : p < O.length
            · have hpO : p < O.length := by omega
              obtain ⟨b, o, rfl, _, hb, hc⟩ := HR.out.ints.at_ hpO
              have hki : (p : Int) < (O.length : Int) := by omega
              have hgk : O.getD p 0 = O[p] := by simp [List.getD, hpO]
              have hx : ¬ 2 ≤ O[p] := by have h9 := HN.out p hlp; rw [hgk] at h9; omega
              clear hgk
              generalize O[p] = y at hc hx
              go_wp2
              go_roundw
              case rel => exact ⟨p + 1, rfl, by omega, by go_num, by first | rfl | trivial⟩
              case measure => simp [intOf]; omega
            · obtain rfl : p = O.length := by omega
              go_wp2
              go_roundw
              case rel => exact ⟨k, rfl, by omega, by go_num, by rw [HE.out, HNX.out]; exact Lib.hid rfl, HT_1, HI_1, HQ_1, HB_1⟩
              case measure => (simp [intOf] <;> omega)
    · obtain rfl : j = 0 := by omega
      go_wp2
      rw [Exit.noGoto_ret]
      go_ret2
      rw [HE.out]
      exact ⟨rfl, HB.out⟩
theorem longestHold_both (zs : List Int) (m : Int) (h : zs.length ≤ 1048576) (qs : List Int) (h2 : qs.length ≤ 1048576) : ∃ (r0 : Int) (r1 : Bool),
    (∀ (w : World) (B : Option Addr) (c lo hi : Nat) (B2 : Option Addr) (c2 lo2 hi2 : Nat), Ins w lo hi B zs → Ins w lo2 hi2 B2 qs → qs.length ≤ c2 → Calls Try.prog 38 #[.agg #[.slice B zs.length c, .int .i64 m], .slice B2 qs.length c2] w fun e w' => e = .returned (.tuple #[.int .i64 r0, .bool r1]) ∧ Below w.heap.size w w') ∧
    (∀ (w : World) (B : Option Addr) (c lo hi : Nat) (B2 : Option Addr) (c2 lo2 hi2 : Nat), Ins w lo hi B zs → Ins w lo2 hi2 B2 qs → qs.length ≤ c2 → Calls Try.prog 37 #[.agg #[.slice B zs.length c, .int .i64 m], .slice B2 qs.length c2] w fun e w' => e = .returned (.tuple #[.int .i64 r0, .bool r1]) ∧ Below w.heap.size w w') := by
  cases hok : lOK zs m qs with
  | false => exact ⟨0, false, fun w B c lo hi B2 c2 lo2 hi2 hS hS2 hc => longestHold_impl_no B c lo hi zs m B2 c2 lo2 hi2 qs w hS hS2 h h2 hok, fun w B c lo hi B2 c2 lo2 hi2 hS hS2 hc => longestHold_spec_no B c lo hi zs m B2 c2 lo2 hi2 qs w hS hS2 h h2 hok⟩
  | true => exact ⟨_, true, fun w B c lo hi B2 c2 lo2 hi2 hS hS2 hc => longestHold_impl B c lo hi zs m B2 c2 lo2 hi2 qs w hS hS2 (lOK_iff.1 hok) hc, fun w B c lo hi B2 c2 lo2 hi2 hS hS2 hc => longestHold_spec B c lo hi zs m B2 c2 lo2 hi2 qs w hS hS2 (lOK_iff.1 hok) hc⟩
end Go.Proofs.Ytbgdnidbdfhgjaa
