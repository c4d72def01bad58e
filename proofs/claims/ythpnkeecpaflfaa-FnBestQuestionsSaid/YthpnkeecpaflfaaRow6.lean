/- Rows of three: the next split, the plan by one more. -/
import Derived.Test.YthpnkeecpaflfaaRow5
namespace Go.Proofs.Ythpnkeecpaflfaa
open Go.RowKit Go.ChangeShapes Go.WideShapes
set_option linter.unusedVariables false

theorem Laid3.drewN {w wa : World} {a b c x y z : Value} (h : Laid3 w wa a b c x y z) (n : Nat) : Laid3 w (wa.drewN n) a b c x y z := h.step (below_drewN (Below.refl _ wa) n)
theorem Laid3.set2 {w wa : World} {a b c x y z : Value} (h : Laid3 w wa a b c x y z) (i : Nat) (u : Value) (x' y' z' : Value) (ht : Three (wa.setCell ⟨w.heap.size + 1, i, none⟩ u) (w.heap.size + 1) x' y' z') : Laid3 w (wa.setCell ⟨w.heap.size + 1, i, none⟩ u) a b c x' y' z' :=
  ⟨h.t1.far (by omega) _ _, ht, h.t3.far (by omega) _ _, below_set h.bel (by omega) _ _⟩
set_option maxRecDepth 100000 in
set_option maxHeartbeats 4000000 in
theorem splitAfter_nat (a b c x y z : Nat) (w : World) (h8 : a + b + c ≤ 8) (hx : x ≤ a) (hy : y ≤ b) (hz : z ≤ c) (P : Row) (ok : Bool) (hP : nextR (a, b, c) (x, y, z) = if ok = true then some P else none) (hP0 : ok = false → P = (0, 0, 0)) :
    Calls Try.prog 78 #[.agg #[.int .i64 (a : Int), .int .i64 (b : Int), .int .i64 (c : Int)], .agg #[.int .i64 (x : Int), .int .i64 (y : Int), .int .i64 (z : Int)]] w fun e w' =>
      e = .returned (.tuple #[.agg #[.int .i64 (P.1 : Int), .int .i64 (P.2.1 : Int), .int .i64 (P.2.2 : Int)], .bool ok]) ∧ Below w.heap.size w w' := by
  have HL := Lib.hid (Laid3.new w (.int .i64 (a : Int)) (.int .i64 (b : Int)) (.int .i64 (c : Int)) (.int .i64 (x : Int)) (.int .i64 (y : Int)) (.int .i64 (z : Int)))
  have HN := Lib.hid hP
  have HN0 := Lib.hid hP0
  clear hP hP0
  go_enter Try.func78, Try.ntmps78
  go_wp2_with fail
  generalize ((w.alloc (.cells #[.int .i64 (a : Int), .int .i64 (b : Int), .int .i64 (c : Int)] 70)).alloc (.cells #[.int .i64 (x : Int), .int .i64 (y : Int), .int .i64 (z : Int)] 70)).alloc (.cells #[.int .i64 0, .int .i64 0, .int .i64 0] 70) = wa at HL ⊢
  go_loopw [6] (fun i wr => ∃ (k : Nat) (m : Int), k ≤ 3 ∧ i = .int .i64 m ∧ m = 2 - (k : Int) ∧ Hid (Laid3 w wr (.int .i64 (a : Int)) (.int .i64 (b : Int)) (.int .i64 (c : Int)) (.int .i64 (if k < 3 then (x : Int) else 0)) (.int .i64 (if k < 2 then (y : Int) else 0)) (.int .i64 (if k < 1 then (z : Int) else 0))) ∧ Hid (0 < k → z = c) ∧ Hid (1 < k → y = b) ∧ Hid (2 < k → x = a)) (fun i _ => (intOf i + 1).toNat)
  case atStart => exact ⟨0, 2, by omega, rfl, by simp, by simpa using HL, Lib.hid nofun, Lib.hid nofun, Lib.hid nofun⟩
  case round =>
    clear HL
    obtain ⟨k, m, hk, rfl, hm, HL, HC, HB, HA⟩ := hrel
    have q0 := HL.out.t1.c0
    have q1 := HL.out.t1.c1
    have q2 := HL.out.t1.c2
    by_cases k0 : k = 0
    · subst k0
      obtain rfl : m = 2 := by omega
      clear hm
      simp only [show (0 < 3) by decide, show (0 < 2) by decide, show (0 < 1) by decide, if_true] at HL
      have p0 := HL.out.t2.c0
      have p1 := HL.out.t2.c1
      have p2 := HL.out.t2.c2
      by_cases hlt : z < c
      · have E : Hid (P = (x, y, z + 1) ∧ ok = true) := Lib.hid (by
          have h := HN.out
          have hn : nextR (a, b, c) (x, y, z) = some (x, y, z + 1) := by
            have hkC : 0 < 0 → z = c := HC.out
            have hkB : 1 < 0 → y = b := HB.out
            simp only [nextR]
            rw [if_pos hlt]
          rw [hn] at h
          cases ok
          · cases h
          · exact ⟨(Option.some.inj h).symm, rfl⟩)
        have hltI : (z : Int) < (c : Int) := by omega
        go_wp2_with fail
        go_quiet (fail)
        have HM := Lib.hid (HL.out.drewN nq)
        generalize wr.drewN nq = wq at HM ⊢
        clear p0 p1 p2 q0 q1 q2 HL
        have p2' := HM.out.t2.c2
        have f2' := HM.out.t2.f 2
        have HS := Lib.hid (HM.out.set2 2 (.int .i64 ((z : Int) + 1)) (.int .i64 (x : Int)) (.int .i64 (y : Int)) (.int .i64 ((z : Int) + 1)) (HM.out.t2.set2 _))
        have p0 := HS.out.t2.c0
        have p1 := HS.out.t2.c1
        have p2 := HS.out.t2.c2
        have r0 := HS.out.t3.c0
        have r1 := HS.out.t3.c1
        have r2 := HS.out.t3.c2
        have f0 := HS.out.t3.f 0
        have f1 := HS.out.t3.f 1
        have f2 := HS.out.t3.f 2
        go_wp2
        have HR := HS.out.t3.set (.int .i64 (x : Int)) (.int .i64 (y : Int)) (.int .i64 ((z : Int) + 1))
        have HBf := below_set3 HS.out.bel (Nat.le_trans (Nat.le_succ _) (Nat.le_succ _) : w.heap.size ≤ w.heap.size + 1 + 1) (.int .i64 (x : Int)) (.int .i64 (y : Int)) (.int .i64 ((z : Int) + 1))
        generalize ((((wq.setCell ⟨w.heap.size + 1, 2, none⟩ (.int .i64 ((z : Int) + 1))).setCell ⟨w.heap.size + 1 + 1, 0, none⟩ (.int .i64 (x : Int))).setCell ⟨w.heap.size + 1 + 1, 1, none⟩ (.int .i64 (y : Int))).setCell ⟨w.heap.size + 1 + 1, 2, none⟩ (.int .i64 ((z : Int) + 1))) = wf at HR HBf ⊢
        have e0 := HR.c0
        have e1 := HR.c1
        have e2 := HR.c2
        refine bodyPost_ret (v := .tuple #[.agg #[.int .i64 (x : Int), .int .i64 (y : Int), .int .i64 ((z : Int) + 1)], .bool true]) (by simp [results, go_sem, e0, e1, e2]) rfl ?_
        obtain ⟨rfl, rfl⟩ := E.out
        exact ⟨by simp, HBf⟩
      · have hge : ¬ ((z : Int) < (c : Int)) := by omega
        have hd : decide ((z : Int) < (c : Int)) = false := decide_eq_false hge
        go_wp2_with fail
        go_quiet (fail)
        have HM := Lib.hid (HL.out.drewN nq)
        generalize wr.drewN nq = wq at HM ⊢
        clear p0 p1 p2 q0 q1 q2 HL
        have p2' := HM.out.t2.c2
        have f2' := HM.out.t2.f 2
        have HS := Lib.hid (HM.out.set2 2 (.int .i64 0) (.int .i64 (x : Int)) (.int .i64 (y : Int)) (.int .i64 0) (HM.out.t2.set2 _))
        go_wp2
        go_roundw
        case rel => exact ⟨1, 2 - 1, by omega, by first | rfl | simp, by simp, by simpa using HS, Lib.hid (fun h => by first | omega | (exact HC.out (by omega))), Lib.hid (fun h => by first | omega | (exact HB.out (by omega))), Lib.hid (fun h => by first | omega | (exact HA.out (by omega)))⟩
        case measure => simp [intOf]
    · by_cases k1 : k = 1
      · subst k1
        obtain rfl : m = 1 := by omega
        clear hm
        simp only [show  (1 < 3) by decide, show  (1 < 2) by decide, show ¬ (1 < 1) by decide, if_true, if_false] at HL
        have p0 := HL.out.t2.c0
        have p1 := HL.out.t2.c1
        have p2 := HL.out.t2.c2
        by_cases hlt : y < b
        · have E : Hid (P = (x, y + 1, 0) ∧ ok = true) := Lib.hid (by
            have h := HN.out
            have hn : nextR (a, b, c) (x, y, z) = some (x, y + 1, 0) := by
              have hkC : 0 < 1 → z = c := HC.out
              have hkB : 1 < 1 → y = b := HB.out
              simp only [nextR]
              rw [if_neg (by omega)]
              rw [if_pos hlt]
            rw [hn] at h
            cases ok
            · cases h
            · exact ⟨(Option.some.inj h).symm, rfl⟩)
          have hltI : (y : Int) < (b : Int) := by omega
          go_wp2_with fail
          go_quiet (fail)
          have HM := Lib.hid (HL.out.drewN nq)
          generalize wr.drewN nq = wq at HM ⊢
          clear p0 p1 p2 q0 q1 q2 HL
          have p1' := HM.out.t2.c1
          have f1' := HM.out.t2.f 1
          have HS := Lib.hid (HM.out.set2 1 (.int .i64 ((y : Int) + 1)) (.int .i64 (x : Int)) (.int .i64 ((y : Int) + 1)) (.int .i64 0) (HM.out.t2.set1 _))
          have p0 := HS.out.t2.c0
          have p1 := HS.out.t2.c1
          have p2 := HS.out.t2.c2
          have r0 := HS.out.t3.c0
          have r1 := HS.out.t3.c1
          have r2 := HS.out.t3.c2
          have f0 := HS.out.t3.f 0
          have f1 := HS.out.t3.f 1
          have f2 := HS.out.t3.f 2
          go_wp2
          have HR := HS.out.t3.set (.int .i64 (x : Int)) (.int .i64 ((y : Int) + 1)) (.int .i64 0)
          have HBf := below_set3 HS.out.bel (Nat.le_trans (Nat.le_succ _) (Nat.le_succ _) : w.heap.size ≤ w.heap.size + 1 + 1) (.int .i64 (x : Int)) (.int .i64 ((y : Int) + 1)) (.int .i64 0)
          generalize ((((wq.setCell ⟨w.heap.size + 1, 1, none⟩ (.int .i64 ((y : Int) + 1))).setCell ⟨w.heap.size + 1 + 1, 0, none⟩ (.int .i64 (x : Int))).setCell ⟨w.heap.size + 1 + 1, 1, none⟩ (.int .i64 ((y : Int) + 1))).setCell ⟨w.heap.size + 1 + 1, 2, none⟩ (.int .i64 0)) = wf at HR HBf ⊢
          have e0 := HR.c0
          have e1 := HR.c1
          have e2 := HR.c2
          refine bodyPost_ret (v := .tuple #[.agg #[.int .i64 (x : Int), .int .i64 ((y : Int) + 1), .int .i64 0], .bool true]) (by simp [results, go_sem, e0, e1, e2]) rfl ?_
          obtain ⟨rfl, rfl⟩ := E.out
          exact ⟨by simp, HBf⟩
        · have hge : ¬ ((y : Int) < (b : Int)) := by omega
          have hd : decide ((y : Int) < (b : Int)) = false := decide_eq_false hge
          go_wp2_with fail
          go_quiet (fail)
          have HM := Lib.hid (HL.out.drewN nq)
          generalize wr.drewN nq = wq at HM ⊢
          clear p0 p1 p2 q0 q1 q2 HL
          have p1' := HM.out.t2.c1
          have f1' := HM.out.t2.f 1
          have HS := Lib.hid (HM.out.set2 1 (.int .i64 0) (.int .i64 (x : Int)) (.int .i64 0) (.int .i64 0) (HM.out.t2.set1 _))
          go_wp2
          go_roundw
          case rel => exact ⟨2, 1 - 1, by omega, by first | rfl | simp, by simp, by simpa using HS, Lib.hid (fun h => by first | omega | (exact HC.out (by omega))), Lib.hid (fun h => by first | omega | (exact HB.out (by omega))), Lib.hid (fun h => by first | omega | (exact HA.out (by omega)))⟩
          case measure => simp [intOf]
      · by_cases k2 : k = 2
        · subst k2
          obtain rfl : m = 0 := by omega
          clear hm
          simp only [show  (2 < 3) by decide, show ¬ (2 < 2) by decide, show ¬ (2 < 1) by decide, if_true, if_false] at HL
          have p0 := HL.out.t2.c0
          have p1 := HL.out.t2.c1
          have p2 := HL.out.t2.c2
          by_cases hlt : x < a
          · have E : Hid (P = (x + 1, 0, 0) ∧ ok = true) := Lib.hid (by
              have h := HN.out
              have hn : nextR (a, b, c) (x, y, z) = some (x + 1, 0, 0) := by
                have hkC : 0 < 2 → z = c := HC.out
                have hkB : 1 < 2 → y = b := HB.out
                simp only [nextR]
                rw [if_neg (by omega)]
                rw [if_neg (by omega)]
                rw [if_pos hlt]
              rw [hn] at h
              cases ok
              · cases h
              · exact ⟨(Option.some.inj h).symm, rfl⟩)
            have hltI : (x : Int) < (a : Int) := by omega
            go_wp2_with fail
            go_quiet (fail)
            have HM := Lib.hid (HL.out.drewN nq)
            generalize wr.drewN nq = wq at HM ⊢
            clear p0 p1 p2 q0 q1 q2 HL
            have p0' := HM.out.t2.c0
            have f0' := HM.out.t2.f 0
            have HS := Lib.hid (HM.out.set2 0 (.int .i64 ((x : Int) + 1)) (.int .i64 ((x : Int) + 1)) (.int .i64 0) (.int .i64 0) (HM.out.t2.set0 _))
            have p0 := HS.out.t2.c0
            have p1 := HS.out.t2.c1
            have p2 := HS.out.t2.c2
            have r0 := HS.out.t3.c0
            have r1 := HS.out.t3.c1
            have r2 := HS.out.t3.c2
            have f0 := HS.out.t3.f 0
            have f1 := HS.out.t3.f 1
            have f2 := HS.out.t3.f 2
            go_wp2
            have HR := HS.out.t3.set (.int .i64 ((x : Int) + 1)) (.int .i64 0) (.int .i64 0)
            have HBf := below_set3 HS.out.bel (Nat.le_trans (Nat.le_succ _) (Nat.le_succ _) : w.heap.size ≤ w.heap.size + 1 + 1) (.int .i64 ((x : Int) + 1)) (.int .i64 0) (.int .i64 0)
            generalize ((((wq.setCell ⟨w.heap.size + 1, 0, none⟩ (.int .i64 ((x : Int) + 1))).setCell ⟨w.heap.size + 1 + 1, 0, none⟩ (.int .i64 ((x : Int) + 1))).setCell ⟨w.heap.size + 1 + 1, 1, none⟩ (.int .i64 0)).setCell ⟨w.heap.size + 1 + 1, 2, none⟩ (.int .i64 0)) = wf at HR HBf ⊢
            have e0 := HR.c0
            have e1 := HR.c1
            have e2 := HR.c2
            refine bodyPost_ret (v := .tuple #[.agg #[.int .i64 ((x : Int) + 1), .int .i64 0, .int .i64 0], .bool true]) (by simp [results, go_sem, e0, e1, e2]) rfl ?_
            obtain ⟨rfl, rfl⟩ := E.out
            exact ⟨by simp, HBf⟩
          · have hge : ¬ ((x : Int) < (a : Int)) := by omega
            have hd : decide ((x : Int) < (a : Int)) = false := decide_eq_false hge
            go_wp2_with fail
            go_quiet (fail)
            have HM := Lib.hid (HL.out.drewN nq)
            generalize wr.drewN nq = wq at HM ⊢
            clear p0 p1 p2 q0 q1 q2 HL
            have p0' := HM.out.t2.c0
            have f0' := HM.out.t2.f 0
            have HS := Lib.hid (HM.out.set2 0 (.int .i64 0) (.int .i64 0) (.int .i64 0) (.int .i64 0) (HM.out.t2.set0 _))
            go_wp2
            go_roundw
            case rel => exact ⟨3, 0 - 1, by omega, by first | rfl | simp, by simp, by simpa using HS, Lib.hid (fun h => by first | omega | (exact HC.out (by omega))), Lib.hid (fun h => by first | omega | (exact HB.out (by omega))), Lib.hid (fun h => by first | omega | (exact HA.out (by omega)))⟩
            case measure => simp [intOf]
        · obtain rfl : k = 3 := by omega
          have hm0 : m < 0 := by omega
          simp only [show ¬ (3 < 3) by decide, show ¬ (3 < 2) by decide, show ¬ (3 < 1) by decide, if_false] at HL
          have E : Hid (P = (0, 0, 0) ∧ ok = false) := Lib.hid (by
            have h1 := HC.out (by omega)
            have h2 := HB.out (by omega)
            have h3 := HA.out (by omega)
            have h := HN.out
            have hn : nextR (a, b, c) (x, y, z) = none := by
              simp only [nextR]
              rw [if_neg (by omega), if_neg (by omega), if_neg (by omega)]
            rw [hn] at h
            cases hok : ok
            · exact ⟨HN0.out hok, rfl⟩
            · rw [hok] at h; cases h)
          clear hm
          have r0 := HL.out.t3.c0
          have r1 := HL.out.t3.c1
          have r2 := HL.out.t3.c2
          have f0 := HL.out.t3.f 0
          have f1 := HL.out.t3.f 1
          have f2 := HL.out.t3.f 2
          go_wp2
          have HR := HL.out.t3.set (.int .i64 0) (.int .i64 0) (.int .i64 0)
          have HBf := below_set3 HL.out.bel (Nat.le_trans (Nat.le_succ _) (Nat.le_succ _) : w.heap.size ≤ w.heap.size + 1 + 1) (.int .i64 0) (.int .i64 0) (.int .i64 0)
          generalize (((wr.setCell ⟨w.heap.size + 1 + 1, 0, none⟩ (.int .i64 0)).setCell ⟨w.heap.size + 1 + 1, 1, none⟩ (.int .i64 0)).setCell ⟨w.heap.size + 1 + 1, 2, none⟩ (.int .i64 0)) = wf at HR HBf ⊢
          have e0 := HR.c0
          have e1 := HR.c1
          have e2 := HR.c2
          refine bodyPost_ret (v := .tuple #[.agg #[.int .i64 0, .int .i64 0, .int .i64 0], .bool false]) (by simp [results, go_sem, e0, e1, e2]) rfl ?_
          obtain ⟨rfl, rfl⟩ := E.out
          exact ⟨by simp, HBf⟩
/-- The split behind the i-th one. -/
theorem splitAfter_any (r : Row) (i : Nat) (w : World) (h8 : rsum r ≤ 8) (hi : i < cntR r) :
    Calls Try.prog 78 #[.agg #[.int .i64 (r.1 : Int), .int .i64 (r.2.1 : Int), .int .i64 (r.2.2 : Int)], .agg #[.int .i64 ((splitR r i).1 : Int), .int .i64 ((splitR r i).2.1 : Int), .int .i64 ((splitR r i).2.2 : Int)]] w fun e w' =>
      e = .returned (.tuple #[.agg #[.int .i64 ((if i + 1 < cntR r then splitR r (i + 1) else (0, 0, 0) : Row).1 : Int), .int .i64 ((if i + 1 < cntR r then splitR r (i + 1) else (0, 0, 0) : Row).2.1 : Int), .int .i64 ((if i + 1 < cntR r then splitR r (i + 1) else (0, 0, 0) : Row).2.2 : Int)], .bool (decide (i + 1 < cntR r))]) ∧ Below w.heap.size w w' := by
  have hf := split_fits h8 hi
  unfold Fits at hf
  refine splitAfter_nat r.1 r.2.1 r.2.2 _ _ _ w h8 hf.1 hf.2.1 hf.2.2 _ _ ?_ ?_
  · have h := split_next h8 hi
    show nextR r (splitR r i) = _
    rw [h]
    by_cases hc : i + 1 < cntR r
    · simp [hc]
    · simp [hc]
  · intro h
    rw [decide_eq_false_iff_not] at h
    rw [if_neg h]
end Go.Proofs.Ythpnkeecpaflfaa
