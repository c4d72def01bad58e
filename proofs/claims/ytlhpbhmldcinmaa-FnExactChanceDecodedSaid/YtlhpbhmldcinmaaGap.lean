/- Gaps: of words in memory, of numbers. -/
import Derived.Test.YtlhpbhmldcinmaaTrueWs
import Derived.Laws.StructEq
namespace Go.Proofs.Ytlhpbhmldcinmaa
open Go.RowKit Go.ChangeShapes Go.WideShapes
set_option linter.unusedVariables false

theorem under_bool : Try.prog.underlying 4 = some .bool := by kernel_rfl
theorem infoB : (Try.prog.info? 4).isSome = true := by kernel_rfl
theorem eqItems14 (p q : Nat → Bool) (w : World) : ∀ (is : List Nat), (∀ i ∈ is, i < 14) → (Op.eqItems 9999 4 (Try.prog.cellsOf 4) (bwv p) (bwv q) is).run Try.prog w = .ok (is.all fun i => p i == q i) w
  | [], _ => by simp [Op.eqItems]
  | i :: is, h => by
    have hc : Try.prog.cellsOf 4 = 1 := by kernel_rfl
    have he : Try.prog.plainKey 4 = true := by kernel_rfl
    have hi : i < 14 := h i (by simp)
    have p1 := run_part_plain (P := Try.prog) w he (bwv_at p hi)
    have p2 := run_part_plain (P := Try.prog) w he (bwv_at q hi)
    have ih := eqItems14 p q w is (fun j hj => h j (by simp [hj]))
    have e1 := run_equalIn_bool (P := Try.prog) w 9998 4 (p i) (q i) under_bool
    rw [show (9998 + 1 : Nat) = 9999 from rfl] at e1
    rw [hc] at ih ⊢
    simp only [Op.eqItems, Nat.mul_one, Sem.run_bind, p1, p2, Result.andThen_ok, e1]
    cases hpq : (p i == q i) with
    | true => simpa [hpq] using ih
    | false => simp [hpq]
theorem eq14 (p q : Nat → Bool) (w : World) : (Op.equalIn 10000 102 (.agg (bwv p)) (.agg (bwv q))).run Try.prog w = .ok ((List.range 14).all fun i => p i == q i) w := by
  obtain ⟨i0, hi0⟩ := Option.isSome_iff_exists.1 infoB
  rw [show (10000 : Nat) = 9999 + 1 from rfl, run_equalIn_array w 9999 _ _ under_word hi0]
  exact eqItems14 p q w _ (fun i hi => List.mem_range.1 hi)
theorem all14 (a b : Nat) : ((List.range 14).all fun i => a.testBit i == b.testBit i) = decide (apartN a b = 0) := by
  rw [Bool.eq_iff_iff, decide_eq_true_iff, List.all_eq_true]
  constructor
  · intro h
    exact cntB_none _ fun i hi => by
      have := h i (List.mem_range.2 hi)
      simpa using this
  · intro h i hi
    have := cntB_zero h i (List.mem_range.1 hi)
    simpa using this
theorem gapN_zero' {ws : List Nat} {k i : Nat} (h1 : k < ws.length) (h2 : i < k) (h : apartN (ws.getD k 0) (ws.getD i 0) = 0) : gapN ws = 0 := by
  have := gTo_at (ws := ws) h1 h2
  unfold gapN
  rw [if_neg (by omega)]
  omega
theorem gIn_step (ws : List Nat) (k j g : Nat) : gIn ws k (j + 1) g = min (gIn ws k j g) (apartN (ws.getD k 0) (ws.getD j 0)) := rfl

set_option maxRecDepth 100000 in
set_option maxHeartbeats 4000000 in
theorem gapOf_any (b : Nat) (c : Nat) (qs : List Int) (n : Nat) (w : World) (hW : Wds w b (twN qs) n) (hn : 1 ≤ n ∧ n ≤ 12) :
    Calls Try.prog 108 #[.slice (some ⟨b, 0, none⟩) n n] w fun e w' => e = .returned (.int .i64 (gapN (twL qs n) : Int)) ∧ Below w.heap.size w w' := by
  by_cases h1 : n = 1
  · subst h1
    go_enter Try.func108, Try.ntmps108
    go_wp2
    go_ret
    exact ⟨rfl, Below.refl _ _⟩
  · have HW0 := Lib.hid hW
    have hblt := hW.lt
    have HG : Hid (gapN (twL qs n) = gTo (twL qs n) n) := Lib.hid (by unfold gapN; rw [twL_len, if_neg (by omega)])
    have HE := Lib.hid (fun p q W => eq14 p q W)
    have HA := Lib.hid (fun p q W => apart_any p q W)
    have HB0 := Lib.hid (Below.refl w.heap.size w)
    have hn1 : ((n : Int) == 1) = false := by simp; omega
    clear hW
    go_enter Try.func108, Try.ntmps108
    go_wp2_with fail
    try rw [hn1]
    clear hn1
    go_loopw [3, 13] (fun x i wr => ∃ (k : Nat), k ≤ n ∧ i = .int .i64 k ∧ x = .int .i64 (gTo (twL qs n) k : Int) ∧ Hid (Wds wr b (twN qs) n) ∧ Hid (Below w.heap.size w wr)) (fun _ i _ => n - (intOf i).toNat)
    case atStart => exact ⟨0, Nat.zero_le _, rfl, rfl, HW0, HB0⟩
    case round =>
      clear HW0 HB0
      obtain ⟨k, hk, rfl, rfl, HW, HB⟩ := hrel
      rename World => wr
      by_cases hlt : k < n
      · have HZ := Lib.hid (W14.new0 wr)
        have HP := Lib.hid (HZ.out.put (twN qs k).testBit)
        have HBn := Lib.hid (below_new14 wr (twN qs k).testBit)
        go_wp2_with (first | (with_reducible refine wpList_load14at rfl (.tmp 16) rfl b n k (twN qs) rfl HW.out hlt ?_) | (with_reducible refine wpList_store14 rfl (.tmp 5) (.tmp 17) rfl wr.heap.size (fun _ => false) (twN qs k).testBit rfl rfl HZ.out ?_))
        have HW2 := Lib.hid (HW.out.step HBn.out)
        have HB2 := Lib.hid (below_trans HB.out HBn.out)
        generalize ((wr.alloc (.cells #[.bool false, .bool false, .bool false, .bool false, .bool false, .bool false, .bool false, .bool false, .bool false, .bool false, .bool false, .bool false, .bool false, .bool false] 102)).setRow wr.heap.size (bwv (twN qs k).testBit)) = w5 at HP HW2 HB2 ⊢
        have hgl := HP.out.lt
        clear HZ HBn HW HB
        generalize wr.heap.size = g at HP hgl ⊢
        go_loopw [3, 22] (fun x i wr => ∃ (j : Nat), j ≤ k ∧ i = .int .i64 j ∧ x = .int .i64 (gIn (twL qs n) k j (gTo (twL qs n) k) : Int) ∧ Hid (W14 wr g (twN qs k).testBit) ∧ Hid (Wds wr b (twN qs) n) ∧ Hid (Below w.heap.size w wr)) (fun _ i _ => k - (intOf i).toNat)
        case atStart => exact ⟨0, Nat.zero_le _, rfl, rfl, HP, HW2, HB2⟩
        case round =>
          clear HP HW2 HB2
          obtain ⟨j, hj, rfl, rfl, HP, HW, HB⟩ := hrel
          rename World => wq
          by_cases hlj : j < k
          · have HZ := Lib.hid (W14.new0 wq)
            have HQ := Lib.hid (HZ.out.put (twN qs j).testBit)
            have HBn := Lib.hid (below_new14 wq (twN qs j).testBit)
            have HP2 := Lib.hid (HP.out.step HBn.out)
            have HW2 := Lib.hid (HW.out.step HBn.out)
            have HB2 := Lib.hid (below_trans HB.out HBn.out)
            have hap := apartN_le (twN qs k) (twN qs j)
            have hgi := gIn_le14 (twL qs n) k j
            have HS : Hid (gIn (twL qs n) k (j + 1) (gTo (twL qs n) k) = min (gIn (twL qs n) k j (gTo (twL qs n) k)) (apartN (twN qs k) (twN qs j))) := Lib.hid (by rw [gIn_step, twL_at hlt, twL_at (by omega)])
            have hjn : j < n := Nat.lt_trans hlj hlt
            clear HBn HP HB
            by_cases he : apartN (twN qs k) (twN qs j) = 0
            · have heq := fun W => HE.out (twN qs k).testBit (twN qs j).testBit W
              simp only [all14, he, decide_true] at heq
              have HR : Hid (gapN (twL qs n) = 0) := Lib.hid (gapN_zero' (k := k) (i := j) (by rw [twL_len]; exact hlt) hlj (by rw [twL_at hlt, twL_at (by omega)]; exact he))
              clear HS he
              go_wp2_with (first | (with_reducible refine wpList_load14at rfl (.tmp 24) rfl b n j (twN qs) rfl HW.out hjn ?_) | (with_reducible refine wpList_store14 rfl (.tmp 7) (.tmp 25) rfl wq.heap.size (fun _ => false) (twN qs j).testBit rfl rfl HZ.out ?_) | (with_reducible refine wpList_load14 rfl (.tmp 5) rfl g (twN qs k).testBit rfl HP2.out ?_) | (with_reducible refine wpList_load14 rfl (.tmp 7) rfl wq.heap.size (twN qs j).testBit rfl HQ.out ?_))
              go_ret
              rw [HR.out]
              exact ⟨rfl, HB2.out⟩
            · have heq := fun W => HE.out (twN qs k).testBit (twN qs j).testBit W
              simp only [all14, decide_eq_false he] at heq
              have HAk := Lib.hid (fun W => HA.out (twN qs k).testBit (twN qs j).testBit W)
              rw [show cntB (fun i => (twN qs k).testBit i != (twN qs j).testBit i) 14 = apartN (twN qs k) (twN qs j) from rfl] at HAk
              generalize apartN (twN qs k) (twN qs j) = a at HAk HS hap he
              generalize gIn (twL qs n) k j (gTo (twL qs n) k) = x at HS hgi ⊢
              by_cases hmin : (x : Int) ≤ (a : Int)
              all_goals
                first
                | (rw [show min x a = x by omega] at HS)
                | (rw [show min x a = a by omega] at HS)
                go_wp2_with (first | (with_reducible refine wpList_load14at rfl (.tmp 24) rfl b n j (twN qs) rfl HW.out hjn ?_) | (with_reducible refine wpList_store14 rfl (.tmp 7) (.tmp 25) rfl wq.heap.size (fun _ => false) (twN qs j).testBit rfl rfl HZ.out ?_) | (with_reducible refine wpList_load14 rfl (.tmp 5) rfl g (twN qs k).testBit rfl HP2.out ?_) | (with_reducible refine wpList_load14 rfl (.tmp 7) rfl wq.heap.size (twN qs j).testBit rfl HQ.out ?_))
                refine (HAk.out _).mono ?_
                rintro e w7 ⟨rfl, hb⟩
                have HP3 := Lib.hid (HP2.out.step hb)
                have HW3 := Lib.hid (HW2.out.step hb)
                have HB3 := Lib.hid (below_trans HB2.out hb)
                clear hb HP2 HW2 HB2 HQ HZ HW heq
                go_wp2
                go_roundw
                case rel => exact ⟨j + 1, by omega, by go_num, by rw [HS.out], HP3, HW3, HB3⟩
                case measure => simp [intOf]; omega
          · obtain rfl : j = k := by omega
            go_wp2
            go_roundw
            case rel => exact ⟨j + 1, by omega, by go_num, rfl, HW, HB⟩
            case measure => simp [intOf]; omega
      · obtain rfl : k = n := by omega
        go_wp2
        go_ret
        rw [HG.out]
        exact ⟨rfl, HB.out⟩
end Go.Proofs.Ytlhpbhmldcinmaa
