/- Balanced questions: the comparisons of both sides. -/
import Derived.Test.YtdolonmjhlhkeabAnsW
import Derived.Test.YtdolonmjhlhkeabTold
import Derived.ChangeKeysEq
namespace Go.Proofs.Ytdolonmjhlhkeab
open Go.RowKit Go.ChangeShapes Go.WideShapes
set_option linter.unusedVariables false

/-- The greater weight behind both answers to a question, with q questions ahead behind it. -/
def wst (q M : Nat) (zs : List Int) (k : Int) : Nat := max (behW q M zs k true) (behW q M zs k false)
def isBal (q M : Nat) (zs : List Int) (k : Int) : Bool := decide (wst q M zs k ≤ 2 ^ q)
theorem wst_bd {q M : Nat} {zs : List Int} (k : Int) (hq : q ≤ 30) (hn : zs.length ≤ 12) : wst q M zs k ≤ 12884901888 := by
  have h1 := behW_bd (M := M) k true hq hn
  have h2 := behW_bd (M := M) k false hq hn
  unfold wst
  omega
theorem isBal_int {q M : Nat} {zs : List Int} {k : Int} : isBal q M zs k = decide (((wst q M zs k : Nat) : Int) ≤ 2 ^ q) := by
  unfold isBal
  rw [Bool.eq_iff_iff, decide_eq_true_iff, decide_eq_true_iff]
  have := pow_cast q
  omega
theorem isBal_both {q M : Nat} {zs : List Int} {k : Int} : isBal q M zs k = decide (((behW q M zs k true : Nat) : Int) ≤ 2 ^ q ∧ ((behW q M zs k false : Nat) : Int) ≤ 2 ^ q) := by
  unfold isBal wst
  rw [Bool.eq_iff_iff, decide_eq_true_iff, decide_eq_true_iff]
  have := pow_cast q
  omega

theorem under_arr2 : Try.prog.underlying 42 = some (.array 2 3) := by kernel_rfl
theorem eq_arr2 (a b c d : Int) (w : World) : (Op.equalIn 10000 42 (.agg #[.int .i64 a, .int .i64 b]) (.agg #[.int .i64 c, .int .i64 d])).run Try.prog w = .ok (decide (a = c) && decide (b = d)) w := by
  obtain ⟨i0, hi0, hz0, hz1, hz2⟩ := info_parts infoI3
  rw [show (10000 : Nat) = 9999 + 1 from rfl, run_equalIn_array w 9999 _ _ under_arr2 hi0]
  have hc : Try.prog.cellsOf 3 = 1 := by kernel_rfl
  have he : Try.prog.plainKey 3 = true := by kernel_rfl
  have hu : Try.prog.underlying 3 = some (.int .i64) := by kernel_rfl
  have p1 := run_part_plain (P := Try.prog) w he (xs := #[.int .i64 a, .int .i64 b]) (off := 0) (v := .int .i64 a) rfl
  have p2 := run_part_plain (P := Try.prog) w he (xs := #[.int .i64 a, .int .i64 b]) (off := 1) (v := .int .i64 b) rfl
  have p3 := run_part_plain (P := Try.prog) w he (xs := #[.int .i64 c, .int .i64 d]) (off := 0) (v := .int .i64 c) rfl
  have p4 := run_part_plain (P := Try.prog) w he (xs := #[.int .i64 c, .int .i64 d]) (off := 1) (v := .int .i64 d) rfl
  have q1 := run_equalIn_int (P := Try.prog) w 9998 3 .i64 .i64 a c hu
  have q2 := run_equalIn_int (P := Try.prog) w 9998 3 .i64 .i64 b d hu
  rw [show (9998 + 1 : Nat) = 9999 from rfl] at q1 q2
  simp [Op.eqItems, List.range, List.range.loop, hc, p1, p2, p3, p4, q1, q2]
  by_cases h1 : a = c <;> by_cases h2 : b = d <;> simp [h1, h2]
set_option maxRecDepth 100000 in
set_option maxHeartbeats 4000000 in
theorem areBalanced_any (x y : Int) (q : Nat) (w : World) (hq : q ≤ 29) (hx : 0 ≤ x ∧ x ≤ 12884901888) (hy : 0 ≤ y ∧ y ≤ 12884901888) :
    Calls Try.prog 94 #[.agg #[.int .i64 x, .int .i64 y], .int .i64 ((q : Int) + 1)] w fun e w' => e = .returned (.bool (decide (x ≤ 2 ^ q ∧ y ≤ 2 ^ q))) ∧ Below w.heap.size w w' := by
  have HT := Lib.hid (Two.new w (.int .i64 x) (.int .i64 y) 42 w.heap.size rfl)
  have HB := Lib.hid ((Below.refl w.heap.size w).alloc (Nat.le_refl _) (.cells #[.int .i64 x, .int .i64 y] 42))
  have hp := pow_le30 q (by omega)
  go_enter Try.func94, Try.ntmps94
  have h0 := HT.out.c0
  have h1 := HT.out.c1
  have heq := eq_arr2
  by_cases hx2 : x ≤ 2 ^ q <;> by_cases hy2 : y ≤ 2 ^ q
  all_goals
    go_wp2
    all_goals
      go_ret
      refine ⟨?_, HB.out⟩
      show Ending.returned (.bool _) = Ending.returned (.bool _)
      congr 2
      rw [Bool.eq_iff_iff]
      simp
      first | done | omega
/-- The greater one of two. -/
theorem greaterOf_any (x y v : Int) (w : World) (h : (y ≤ x ∧ v = x) ∨ (x ≤ y ∧ v = y)) :
    Calls Try.prog 97 #[.agg #[.int .i64 x, .int .i64 y]] w fun e w' => e = .returned (.int .i64 v) ∧ Below w.heap.size w w' := by
  have HT := Lib.hid (Two.new w (.int .i64 x) (.int .i64 y) 42 w.heap.size rfl)
  have HB := Lib.hid ((Below.refl w.heap.size w).alloc (Nat.le_refl _) (.cells #[.int .i64 x, .int .i64 y] 42))
  have HV := Lib.hid h
  clear h
  go_enter Try.func97, Try.ntmps97
  have h0 := HT.out.c0
  have h1 := HT.out.c1
  go_wp2
  all_goals
    go_ret
    refine ⟨?_, HB.out⟩
    have hv := HV.out
    show Ending.returned (.int .i64 _) = Ending.returned (.int .i64 _)
    congr 2
    omega
set_option maxHeartbeats 4000000 in
theorem l3Most_any (A : Option Addr) (c lo hi : Nat) (zs : List Int) (M q : Nat) (k Q : Int) (w : World) (hS : Ins w lo hi A zs) (hst : isSt zs (M : Int) = true) (hq : q ≤ 29) (hQ : Q = (q : Int) + 1) :
    Calls Try.prog 95 #[.agg #[.slice A zs.length c, .int .i64 (M : Int)], .int .i64 k, .int .i64 Q] w fun e w' => e = .returned (.int .i64 (wst q M zs k : Int)) ∧ Below w.heap.size w w' := by
  subst hQ
  have HB := Lib.hid ((Below.refl w.heap.size w).alloc (Nat.le_refl _) (.cells #[.slice A zs.length c, .int .i64 (M : Int)] 26))
  have HI := Lib.hid (hS.step HB.out)
  have HC := Lib.hid (fun W h => l3Answers_any A c lo hi zs M q k ((q : Int) + 1) W h hst hq rfl)
  have HM := Lib.hid (fun W => l1Most_any (behW q M zs k true : Int) (behW q M zs k false : Int) W)
  rw [show (if (behW q M zs k false : Int) ≤ (behW q M zs k true : Int) then (behW q M zs k true : Int) else (behW q M zs k false : Int)) = (wst q M zs k : Int) by unfold wst; split <;> omega] at HM
  generalize ((wst q M zs k : Nat) : Int) = x at HM ⊢
  generalize ((behW q M zs k true : Nat) : Int) = x1 at HM HC
  generalize ((behW q M zs k false : Nat) : Int) = x2 at HM HC
  clear hS hst
  go_enter Try.func95, Try.ntmps95
  go_wp2_with fail
  generalize w.alloc (.cells #[.slice A zs.length c, .int .i64 (M : Int)] 26) = wa at HI HB ⊢
  refine (HC.out wa HI.out).mono ?_
  rintro e wb ⟨rfl, hb⟩
  replace HB := Lib.hid (below_trans HB.out hb)
  clear hb HC HI
  have HN := Lib.hid (Two.new wb (.int .i64 x1) (.int .i64 x2) 42 wb.heap.size rfl)
  have h0 := HN.out.c0
  have h1 := HN.out.c1
  go_wp2_with fail
  refine (HM.out _).mono ?_
  rintro e w1 ⟨rfl, hw⟩
  have hw := hw.symm
  subst hw
  go_wp2
  go_ret
  exact ⟨rfl, HB.out.alloc HB.out.size _⟩
end Go.Proofs.Ytdolonmjhlhkeab
