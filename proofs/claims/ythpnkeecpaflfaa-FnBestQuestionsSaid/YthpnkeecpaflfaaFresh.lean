/- Numbers without false answers: of impl, of spec. -/
import Derived.Test.YthpnkeecpaflfaaNeeds
import Derived.Test.YthpnkeecpaflfaaPlanOf
namespace Go.Proofs.Ythpnkeecpaflfaa
open Go.RowKit Go.ChangeShapes Go.WideShapes
set_option linter.unusedVariables false

def freshR (m n : Nat) : Row := if m = 0 then (0, 0, n) else if m = 1 then (0, n, 0) else (n, 0, 0)
theorem fresh_wide {m n : Nat} (hm : m ≤ 2) : Wide (m + 1) (freshR m n) := by
  obtain rfl | rfl | rfl : m = 0 ∨ m = 1 ∨ m = 2 := by omega
  · exact .inl ⟨rfl, rfl, rfl⟩
  · exact .inr (.inl ⟨rfl, rfl⟩)
  · exact .inr (.inr rfl)
theorem fresh_sum {m n : Nat} : rsum (freshR m n) = n := by
  unfold freshR rsum
  split
  · simp
  · split <;> simp
theorem fresh_lst {m n : Nat} (hm : m ≤ 2) : (List.replicate (m + 1) (0 : Int)).set 0 (n : Int) = lstR (m + 1) (freshR m n) := by
  obtain rfl | rfl | rfl : m = 0 ∨ m = 1 ∨ m = 2 := by omega
  · rfl
  · rfl
  · rfl
theorem fresh_arr {m n : Nat} (hm : m ≤ 2) : (Array.replicate (m + 1) (Value.int .i64 0)).setIfInBounds 0 (.int .i64 (n : Int)) = ((lstR (m + 1) (freshR m n)).map (Value.int .i64)).toArray := by
  obtain rfl | rfl | rfl : m = 0 ∨ m = 1 ∨ m = 2 := by omega
  · rfl
  · rfl
  · rfl
theorem fresh_own {m n : Nat} (hm : m ≤ 2) (w : World) : Own (w.alloc (.cells ((Array.replicate (m + 1) (Value.int .i64 0)).setIfInBounds 0 (.int .i64 (n : Int))) 3)) w.heap.size (w.heap.size + 1) (some ⟨w.heap.size, 0, none⟩) (lstR (m + 1) (freshR m n)) := by
  rw [fresh_arr hm]
  exact Own.new w _ _ _ (Nat.le_refl _) (Nat.lt_succ_self _)
set_option maxRecDepth 100000 in
set_option maxHeartbeats 800000 in
theorem l4Fresh_any (m n : Nat) (w : World) (hm : m ≤ 2) :
    Calls Try.prog 41 #[.int .i64 (n : Int), .int .i64 (m : Int)] w fun e w' => ∃ g, e = .returned (.slice (some ⟨g, 0, none⟩) (m + 1) (m + 1)) ∧ w.heap.size ≤ g ∧ Own w' g (g + 1) (some ⟨g, 0, none⟩) (lstR (m + 1) (freshR m n)) ∧ Below w.heap.size w w' := by
  have hmk := makeInts1 m (by omega)
  have HO3 := Lib.hid (fresh_own (n := n) hm w)
  have HB := Lib.hid ((Below.refl w.heap.size w).alloc (Nat.le_refl _) (.cells ((Array.replicate (m + 1) (Value.int .i64 0)).setIfInBounds 0 (.int .i64 (n : Int))) 3))
  go_enter Try.func41, Try.ntmps41
  go_wp2
  all_goals
    go_ret
    exact ⟨_, rfl, Nat.le_refl _, HO3.out, HB.out⟩
set_option maxRecDepth 100000 in
set_option maxHeartbeats 800000 in
theorem freshCounts_any (m n : Nat) (w : World) (hm : m ≤ 2) :
    Calls Try.prog 68 #[.int .i64 (n : Int), .int .i64 (m : Int)] w fun e w' => e = .returned (.agg #[.int .i64 ((freshR m n).1 : Int), .int .i64 ((freshR m n).2.1 : Int), .int .i64 ((freshR m n).2.2 : Int)]) ∧ Below w.heap.size w w' := by
  have hmk := makeInts1 m (by omega)
  have T0 := Three.new w (.int .i64 0) (.int .i64 0) (.int .i64 0) w.heap.size rfl
  have B0 := (Below.refl w.heap.size w).alloc (Nat.le_refl _) (.cells #[.int .i64 0, .int .i64 0, .int .i64 0] 70)
  have HT0 := Lib.hid T0
  have HB0 := Lib.hid B0
  clear T0 B0
  go_enter Try.func68, Try.ntmps68
  go_upto_region 1 with fail
  generalize w.alloc (.cells #[.int .i64 0, .int .i64 0, .int .i64 0] 70) = wa at HT0 HB0 ⊢
  have A2 := (Below.refl _ wa).alloc (Nat.le_refl _) (.cells ((Array.replicate (m + 1) (Value.int .i64 0)).setIfInBounds 0 (.int .i64 (n : Int))) 3)
  have HT1 := Lib.hid (HT0.out.step A2)
  have HB1 := Lib.hid (below_trans HB0.out A2)
  have HO2 := fresh_own (n := n) hm wa
  have HI := Lib.hid (Ins.mk HO2.ints (own_lt HO2))
  clear HO2 A2
  have HR := Lib.hid (fun W h => rowOf_any (some ⟨wa.heap.size, 0, none⟩) (m + 1) wa.heap.size (wa.heap.size + 1) (m + 1) (freshR m n) W h (fresh_wide hm))
  go_wp2_with fail
  clear hmk
  refine (HR.out _ HI.out).mono ?_
  rintro e w2 ⟨rfl, hb⟩
  have HT2 := Lib.hid (HT1.out.step hb)
  have HB2 := Lib.hid (below_trans HB1.out hb)
  clear hb
  have c0 := HT2.out.c0
  have c1 := HT2.out.c1
  have c2 := HT2.out.c2
  have f0 := HT2.out.f 0
  have f1 := HT2.out.f 1
  have f2 := HT2.out.f 2
  go_wp2
  all_goals
    have HS := HT2.out.set (.int .i64 ((freshR m n).1 : Int)) (.int .i64 ((freshR m n).2.1 : Int)) (.int .i64 ((freshR m n).2.2 : Int))
    have HBf := below_set3 HB2.out (Nat.le_refl _) (.int .i64 ((freshR m n).1 : Int)) (.int .i64 ((freshR m n).2.1 : Int)) (.int .i64 ((freshR m n).2.2 : Int))
    generalize (((w2.setCell ⟨w.heap.size, 0, none⟩ (.int .i64 ((freshR m n).1 : Int))).setCell ⟨w.heap.size, 1, none⟩ (.int .i64 ((freshR m n).2.1 : Int))).setCell ⟨w.heap.size, 2, none⟩ (.int .i64 ((freshR m n).2.2 : Int))) = wf at HS HBf ⊢
    have e0 := HS.c0
    have e1 := HS.c1
    have e2 := HS.c2
    refine bodyPost_ret (v := .agg #[.int .i64 ((freshR m n).1 : Int), .int .i64 ((freshR m n).2.1 : Int), .int .i64 ((freshR m n).2.2 : Int)]) (by simp [results, go_sem, e0, e1, e2]) rfl ?_
    exact ⟨rfl, HBf⟩
end Go.Proofs.Ythpnkeecpaflfaa
