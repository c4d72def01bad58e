/- The first state. -/
import Derived.Test.YtkdhmhbabbeokaaOwn
import Derived.Test.YtkdhmhbabbeokaaQuest
namespace Go.Proofs.Ytkdhmhbabbeokaa
open Go.RowKit Go.ChangeShapes Go.WideShapes
set_option linter.unusedVariables false

theorem makeIntsA (n : Nat) (h : n ≤ 1048576) (w : World) :
    (Instr.makeSlice 28 (.int .i64 (n : Int)) (.int .i64 (n : Int))).run Try.prog w = .ok (.slice (some ⟨w.heap.size, 0, none⟩) n n) (w.alloc (.cells (Array.replicate n (Value.int .i64 0)) 3)) := by
  simpa using makeInts n h w
theorem zeros_res (w : World) (n lo g : Nat) (h : lo ≤ g) (hr : w.heap[g]? = some (.cells (Array.replicate n (Value.int .i64 0)) 3 (0, 0))) : Res w lo w.heap.size (some ⟨g, 0, none⟩) (List.replicate n 0) :=
  ⟨.inr ⟨g, _, rfl, h, row_ltI hr, hr, by simp, fun j x hx => by
    have hj : j < n := by
      rcases Nat.lt_or_ge j (List.replicate n (0 : Int)).length with h1 | h1
      · simpa using h1
      · rw [List.getElem?_eq_none h1] at hx; cases hx
    rw [List.getElem?_replicate, if_pos hj] at hx
    injection hx with hx
    subst hx
    rw [Array.getElem?_replicate, if_pos hj]⟩, Nat.le_refl _⟩

set_option maxHeartbeats 1000000 in
theorem l2Start_any (k : Nat) (m : Int) (w : World) (hk : k ≤ 12) :
    Calls Try.prog 87 #[.int .i64 (k : Int), .int .i64 m] w fun e w' => ∃ g, e = .returned (.agg #[.slice (some ⟨g, 0, none⟩) k k, .int .i64 m]) ∧ w.heap.size ≤ g ∧ w'.heap[g]? = some (.cells (Array.replicate k (Value.int .i64 0)) 3 (0, 0)) ∧ Below w.heap.size w w' := by
  have hmk := makeIntsA k (by omega)
  go_enter Try.func87, Try.ntmps87
  go_wp2
  refine bodyPost_ret (v := .agg #[.slice (some ⟨w.heap.size + 1, 0, none⟩) k k, .int .i64 m]) (by simp [results, go_sem]) rfl ?_
  refine ⟨_, rfl, by omega, ?_, ?_⟩
  · exact alloc_row' _ _ _ _ (by simp)
  · exact ((Below.refl _ _).alloc (Nat.le_refl _) _).alloc (by simp) _
set_option maxHeartbeats 1000000 in
theorem startState_impl (k : Nat) (m : Int) (w : World) (h1 : 1 ≤ k) (hk : k ≤ 12) (hm : inB m 0 2 = true) :
    Calls Try.prog 42 #[.int .i64 (k : Int), .int .i64 m] w fun e w' => ∃ g, e = .returned (.tuple #[.agg #[.slice (some ⟨g, 0, none⟩) k k, .int .i64 m], .bool true]) ∧ w.heap.size ≤ g ∧ w'.heap[g]? = some (.cells (Array.replicate k (Value.int .i64 0)) 3 (0, 0)) ∧ Below w.heap.size w w' := by
  have hmk := makeIntsA k (by omega)
  have HC := Lib.hid (fun W => isSize_any (k : Int) W)
  rw [inB_t (x := (k : Int)) (a := 1) (b := 12) (by omega) (by omega)] at HC
  have HD := Lib.hid (fun W => isMost_any m W)
  rw [hm] at HD
  go_enter Try.func42, Try.ntmps42
  go_wp2_with (first | (go_at_call 71; refine (HC.out _).mono ?_; rintro e w1 ⟨rfl, rfl⟩) | (go_at_call 78; refine (HD.out _).mono ?_; rintro e w1 ⟨rfl, rfl⟩))
  refine bodyPost_ret (v := .tuple #[.agg #[.slice (some ⟨w.heap.size + 1, 0, none⟩) k k, .int .i64 m], .bool true]) (by simp [results, go_sem]) rfl ?_
  refine ⟨_, rfl, by omega, ?_, ?_⟩
  · exact alloc_row' _ _ _ _ (by simp)
  · exact ((Below.refl _ _).alloc (Nat.le_refl _) _).alloc (by simp) _
set_option maxHeartbeats 1000000 in
theorem startState_no (n m : Int) (w : World) (h : inB n 1 12 = false ∨ inB m 0 2 = false) :
    Calls Try.prog 42 #[.int .i64 n, .int .i64 m] w fun e w' => e = .returned (.tuple #[.agg #[.slice none 0 0, .int .i64 0], .bool false]) ∧ Below w.heap.size w w' := by
  have HC := Lib.hid (fun W => isSize_any n W)
  have HD := Lib.hid (fun W => isMost_any m W)
  cases hn : inB n 1 12 with
  | true =>
    rw [hn] at HC h
    have hm : inB m 0 2 = false := by simpa using h
    rw [hm] at HD
    go_enter Try.func42, Try.ntmps42
    go_wp2_with (first | (go_at_call 71; refine (HC.out _).mono ?_; rintro e w1 ⟨rfl, rfl⟩) | (go_at_call 78; refine (HD.out _).mono ?_; rintro e w1 ⟨rfl, rfl⟩))
    refine bodyPost_ret (v := .tuple #[.agg #[.slice none 0 0, .int .i64 0], .bool false]) (by simp [results, go_sem]) rfl ?_
    exact ⟨rfl, (Below.refl _ _).alloc (Nat.le_refl _) _⟩
  | false =>
    rw [hn] at HC
    go_enter Try.func42, Try.ntmps42
    go_wp2_with (first | (go_at_call 71; refine (HC.out _).mono ?_; rintro e w1 ⟨rfl, rfl⟩) | (go_at_call 78; refine (HD.out _).mono ?_; rintro e w1 ⟨rfl, rfl⟩))
    refine bodyPost_ret (v := .tuple #[.agg #[.slice none 0 0, .int .i64 0], .bool false]) (by simp [results, go_sem]) rfl ?_
    exact ⟨rfl, (Below.refl _ _).alloc (Nat.le_refl _) _⟩
set_option maxHeartbeats 1000000 in
theorem specStartState_any (k : Nat) (m : Int) (w : World) (h1 : 1 ≤ k) (hk : k ≤ 12) (hm : inB m 0 2 = true) :
    Calls Try.prog 41 #[.int .i64 (k : Int), .int .i64 m] w fun e w' => ∃ g, e = .returned (.tuple #[.agg #[.slice (some ⟨g, 0, none⟩) k k, .int .i64 m], .bool true]) ∧ w.heap.size ≤ g ∧ w'.heap[g]? = some (.cells (Array.replicate k (Value.int .i64 0)) 3 (0, 0)) ∧ Below w.heap.size w w' := by
  have HC := Lib.hid (fun W => l2Numbers_any (k : Int) W)
  rw [inB_t (x := (k : Int)) (a := 1) (b := 12) (by omega) (by omega)] at HC
  have HD := Lib.hid (fun W => l1In_any m 0 2 W)
  rw [hm] at HD
  have HX0 := Lib.hid (Arg.next (Below.refl w.heap.size w) (.slice none 0 0) (.int .i64 0) 36 w.heap.size rfl)
  have hrow := alloc_row w #[.slice none 0 0, .int .i64 0] 36
  go_enter Try.func41, Try.ntmps41
  go_wp2_with fail
  refine (HC.out _).mono ?_
  rintro e w1 ⟨rfl, rfl⟩
  go_wp2_with fail
  refine (HD.out _).mono ?_
  rintro e w1 ⟨rfl, rfl⟩
  go_wp2_with fail
  generalize w.alloc (.cells #[.slice none 0 0, .int .i64 0] 36) = wa at HX0 hrow ⊢
  refine (l2Start_any k m wa hk).mono ?_
  rintro e wb ⟨g, rfl, hg, hr, hb⟩
  have hrow' : wb.heap[w.heap.size]? = _ := (hb.block _ HX0.out.hi).trans hrow
  have HG := Lib.hid hr
  have HB := Lib.hid (below_trans HX0.out.below hb)
  have hgg : w.heap.size + 1 ≤ g := Nat.le_trans HX0.out.hi hg
  clear hrow hr hb
  have h0 := two0 hrow'
  have h1 := two1 hrow'
  have f0 := row_freeI hrow' 0
  have f1 := row_freeI hrow' 1
  go_wp2
  obtain ⟨hs, hw⟩ := stored2 hrow' (.slice (some ⟨g, 0, none⟩) k k) (.int .i64 m)
  generalize ((wb.setCell ⟨w.heap.size, 0, none⟩ (.slice (some ⟨g, 0, none⟩) k k)).setCell ⟨w.heap.size, 1, none⟩ (.int .i64 m)) = wc at hs hw ⊢
  have e0 := two0 hs
  have e1 := two1 hs
  refine bodyPost_ret (v := .tuple #[.agg #[.slice (some ⟨g, 0, none⟩) k k, .int .i64 m], .bool true]) (by simp [results, go_sem, e0, e1]) rfl ?_
  exact ⟨g, rfl, by omega, (hw.block g (row_ltI HG.out) (.inr hgg)).trans HG.out, HB.out.trans (hw.below (Nat.le_refl _) HB.out.size)⟩
set_option maxHeartbeats 1000000 in
theorem specStartState_no (n m : Int) (w : World) (h : inB n 1 12 = false ∨ inB m 0 2 = false) :
    Calls Try.prog 41 #[.int .i64 n, .int .i64 m] w fun e w' => e = .returned (.tuple #[.agg #[.slice none 0 0, .int .i64 0], .bool false]) ∧ Below w.heap.size w w' := by
  have HC := Lib.hid (fun W => l2Numbers_any n W)
  have HD := Lib.hid (fun W => l1In_any m 0 2 W)
  cases hn : inB n 1 12 with
  | true =>
    rw [hn] at HC h
    have hm : inB m 0 2 = false := by simpa using h
    rw [hm] at HD
    go_enter Try.func41, Try.ntmps41
    go_wp2_with fail
    refine (HC.out _).mono ?_
    rintro e w1 ⟨rfl, rfl⟩
    go_wp2_with fail
    refine (HD.out _).mono ?_
    rintro e w1 ⟨rfl, rfl⟩
    go_wp2
    refine bodyPost_ret (v := .tuple #[.agg #[.slice none 0 0, .int .i64 0], .bool false]) (by simp [results, go_sem]) rfl ?_
    exact ⟨rfl, (Below.refl _ _).alloc (Nat.le_refl _) _⟩
  | false =>
    rw [hn] at HC
    go_enter Try.func41, Try.ntmps41
    go_wp2_with fail
    refine (HC.out _).mono ?_
    rintro e w1 ⟨rfl, rfl⟩
    go_wp2
    refine bodyPost_ret (v := .tuple #[.agg #[.slice none 0 0, .int .i64 0], .bool false]) (by simp [results, go_sem]) rfl ?_
    exact ⟨rfl, (Below.refl _ _).alloc (Nat.le_refl _) _⟩
theorem startState_both (n m : Int) : ∃ (r0 : List Int) (u0 : Int) (r1 : Bool), r0.length ≤ 1048576 ∧
    (∀ (w : World), Calls Try.prog 42 #[.int .i64 n, .int .i64 m] w fun e w' => ∃ B c', e = .returned (.tuple #[.agg #[.slice B r0.length c', .int .i64 u0], .bool r1]) ∧ Res w' w.heap.size w'.heap.size B r0 ∧ Below w.heap.size w w') ∧
    (∀ (w : World), Calls Try.prog 41 #[.int .i64 n, .int .i64 m] w fun e w' => ∃ B c', e = .returned (.tuple #[.agg #[.slice B r0.length c', .int .i64 u0], .bool r1]) ∧ Res w' w.heap.size w'.heap.size B r0 ∧ Below w.heap.size w w') := by
  by_cases h : inB n 1 12 = true ∧ inB m 0 2 = true
  · have hn := inB_iff.1 h.1
    obtain ⟨k, rfl⟩ : ∃ k : Nat, n = (k : Int) := ⟨n.toNat, by omega⟩
    refine ⟨List.replicate k 0, m, true, by simp; omega, fun w => ?_, fun w => ?_⟩
    · refine (startState_impl k m w (by omega) (by omega) h.2).mono ?_
      rintro e w' ⟨g, rfl, hg, hr, hb⟩
      exact ⟨_, k, by simp, zeros_res w' k _ g hg hr, hb⟩
    · refine (specStartState_any k m w (by omega) (by omega) h.2).mono ?_
      rintro e w' ⟨g, rfl, hg, hr, hb⟩
      exact ⟨_, k, by simp, zeros_res w' k _ g hg hr, hb⟩
  · have h' : inB n 1 12 = false ∨ inB m 0 2 = false := by
      cases h1 : inB n 1 12 <;> cases h2 : inB m 0 2 <;> simp_all
    refine ⟨[], 0, false, by simp, fun w => ?_, fun w => ?_⟩
    · refine (startState_no n m w h').mono ?_
      rintro e w' ⟨rfl, hb⟩
      exact ⟨none, 0, rfl, Res.none w' _ _ (Nat.le_refl _), hb⟩
    · refine (specStartState_no n m w h').mono ?_
      rintro e w' ⟨rfl, hb⟩
      exact ⟨none, 0, rfl, Res.none w' _ _ (Nat.le_refl _), hb⟩
end Go.Proofs.Ytkdhmhbabbeokaa
