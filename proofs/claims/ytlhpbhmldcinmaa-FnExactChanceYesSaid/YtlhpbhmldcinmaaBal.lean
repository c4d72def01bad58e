/- Balanced questions: the comparisons of both sides. -/
import Derived.Test.YtlhpbhmldcinmaaAnsW
import Derived.Test.YtlhpbhmldcinmaaTold
import Derived.ChangeKeysEq
namespace Go.Proofs.Ytlhpbhmldcinmaa
open Go.RowKit Go.ChangeShapes Go.WideShapes
set_option linter.unusedVariables false

/-- The greater weight behind both answers to a question, with q questions ahead behind it. -/
def wst (q M : Nat) (zs : List Int) (k : Int) : Nat := max (behW q M zs k true) (behW q M zs k false)
def isBal (q M : Nat) (zs : List Int) (k : Int) : Bool := decide (wst q M zs k ≤ 2 ^ q)
theorem wst_bd {q M : Nat} {zs : List Int} (k : Int) (hq : q ≤ 30) (hn : zs.length ≤ 12) : wst q M zs k ≤ 12884901888 := by
  have h1 := behW_bd (M := M) k true hq hn
  have h2 := behW_bd (M := M) k false hq hn
  unfold wst
  omega
theorem isBal_int {q M : Nat} {zs : List Int} {k : Int} : isBal q M zs k = decide (((wst q M zs k : Nat) : Int) ≤ 2 ^ q) := by
  unfold isBal
  rw [Bool.eq_iff_iff, decide_eq_true_iff, decide_eq_true_iff]
  have := pow_cast q
  omega
theorem isBal_both {q M : Nat} {zs : List Int} {k : Int} : isBal q M zs k = decide (((behW q M zs k true : Nat) : Int) ≤ 2 ^ q ∧ ((behW q M zs k false : Nat) : Int) ≤ 2 ^ q) := by
  unfold isBal wst
  rw [Bool.eq_iff_iff, decide_eq_true_iff, decide_eq_true_iff]
  have := pow_cast q
  omega

theorem under_arr2 : Try.prog.underlying 28 = some (.array 2 3) := by kernel_rfl
theorem eq_arr2 (a b c d : Int) (w : World) : (Op.equalIn 10000 28 (.agg #[.int .i64 a, .int .i64 b]) (.agg #[.int .i64 c, .int .i64 d])).run Try.prog w = .ok (decide (a = c) && decide (b = d)) w := by
  obtain ⟨i0, hi0, hz0, hz1, hz2⟩ := info_parts infoI3
  rw [show (10000 : Nat) = 9999 + 1 from rfl, run_equalIn_array w 9999 _ _ under_arr2 hi0]
  have hc : Try.prog.cellsOf 3 = 1 := by kernel_rfl
  have he : Try.prog.plainKey 3 = true := by kernel_rfl
  have hu : Try.prog.underlying 3 = some (.int .i64) := by kernel_rfl
  have p1 := run_part_plain (P := Try.prog) w he (xs := #[.int .i64 a, .int .i64 b]) (off := 0) (v := .int .i64 a) rfl
  have p2 := run_part_plain (P := Try.prog) w he (xs := #[.int .i64 a, .int .i64 b]) (off := 1) (v := .int .i64 b) rfl
  have p3 := run_part_plain (P := Try.prog) w he (xs := #[.int .i64 c, .int .i64 d]) (off := 0) (v := .int .i64 c) rfl
  have p4 := run_part_plain (P := Try.prog) w he (xs := #[.int .i64 c, .int .i64 d]) (off := 1) (v := .int .i64 d) rfl
  have q1 := run_equalIn_int (P := Try.prog) w 9998 3 .i64 .i64 a c hu
  have q2 := run_equalIn_int (P := Try.prog) w 9998 3 .i64 .i64 b d hu
  rw [show (9998 + 1 : Nat) = 9999 from rfl] at q1 q2
  simp [Op.eqItems, List.range, List.range.loop, hc, p1, p2, p3, p4, q1, q2]
  by_cases h1 : a = c <;> by_cases h2 : b = d <;> simp [h1, h2]
end Go.Proofs.Ytlhpbhmldcinmaa
