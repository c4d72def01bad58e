/- One-way plans compared. -/
import Derived.Test.YtdkffkgoalgjmaaL10M
namespace Go.Proofs.Ytdkffkgoalgjmaa
open Go.RowKit Go.ChangeShapes Go.WideShapes Go.Maps
set_option linter.unusedVariables false

theorem eq_rowO (a b c x y z : Int) (w : World) : (Op.equalIn 9999 75 (.agg #[.int .i64 a, .int .i64 b, .int .i64 c]) (.agg #[.int .i64 x, .int .i64 y, .int .i64 z])).run Try.prog w = .ok (decide (a = x) && (decide (b = y) && decide (c = z))) w := by
  obtain ⟨i0, hi0, hz0, hz1, hz2⟩ := info_parts infoI3
  rw [show (9999 : Nat) = 9998 + 1 from rfl, run_equalIn_array w 9998 _ _ under_row hi0]
  have hc : Try.prog.cellsOf 3 = 1 := by kernel_rfl
  have he : Try.prog.plainKey 3 = true := by kernel_rfl
  have hu : Try.prog.underlying 3 = some (.int .i64) := by kernel_rfl
  have p1 := run_part_plain (P := Try.prog) w he (xs := #[.int .i64 a, .int .i64 b, .int .i64 c]) (off := 0) (v := .int .i64 a) rfl
  have p2 := run_part_plain (P := Try.prog) w he (xs := #[.int .i64 a, .int .i64 b, .int .i64 c]) (off := 1) (v := .int .i64 b) rfl
  have p3 := run_part_plain (P := Try.prog) w he (xs := #[.int .i64 a, .int .i64 b, .int .i64 c]) (off := 2) (v := .int .i64 c) rfl
  have p4 := run_part_plain (P := Try.prog) w he (xs := #[.int .i64 x, .int .i64 y, .int .i64 z]) (off := 0) (v := .int .i64 x) rfl
  have p5 := run_part_plain (P := Try.prog) w he (xs := #[.int .i64 x, .int .i64 y, .int .i64 z]) (off := 1) (v := .int .i64 y) rfl
  have p6 := run_part_plain (P := Try.prog) w he (xs := #[.int .i64 x, .int .i64 y, .int .i64 z]) (off := 2) (v := .int .i64 z) rfl
  have q1 := run_equalIn_int (P := Try.prog) w 9997 3 .i64 .i64 a x hu
  have q2 := run_equalIn_int (P := Try.prog) w 9997 3 .i64 .i64 b y hu
  have q3 := run_equalIn_int (P := Try.prog) w 9997 3 .i64 .i64 c z hu
  rw [show (9997 + 1 : Nat) = 9998 from rfl] at q1 q2 q3
  simp [Op.eqItems, List.range, List.range.loop, hc, p1, p2, p3, p4, p5, p6, q1, q2, q3]
  by_cases h1 : a = x <;> by_cases h2 : b = y <;> by_cases h3 : c = z <;> simp [h1, h2, h3]
theorem part_rowO (a b x y z : Int) (w : World) : (part 75 #[.int .i64 a, .int .i64 b, .int .i64 x, .int .i64 y, .int .i64 z] 2).run Try.prog w = .ok (.agg #[.int .i64 x, .int .i64 y, .int .i64 z]) w := by kernel_rfl
theorem eq_planO (a b x y z : Int) (w : World) : (Op.equalIn 10000 77 (.agg #[.int .i64 a, .int .i64 b, .int .i64 x, .int .i64 y, .int .i64 z]) (.agg #[.int .i64 0, .int .i64 0, .int .i64 0, .int .i64 0, .int .i64 0])).run Try.prog w = .ok (decide (a = 0) && (decide (b = 0) && (decide (x = 0) && (decide (y = 0) && decide (z = 0))))) w := by
  have u3 := Try.underlying3
  have a3 := Try.isAgg3
  have z3 := Try.sizeOf3
  have hS : Try.prog.underlying 77 = some (.struct (Try.prog.fieldsOf 77)) := by kernel_rfl
  have hp : Try.prog.stoodInHeld 77 = false := by kernel_rfl
  have p1 := part_rowO a b x y z
  have p2 := part_rowO 0 0 0 0 0
  have r1 := fun w => eq_rowO x y z 0 0 0 w
  rw [show (10000 : Nat) = 9999 + 1 from rfl, run_equalIn_agg w 9999 77 _ _ hS hp]
  simp only [Program.fieldsOf, Try.underlying77]
  go_simp
  by_cases h1 : a = 0 <;> by_cases h2 : b = 0 <;> by_cases h3 : x = 0 <;> by_cases h4 : y = 0 <;> by_cases h5 : z = 0 <;> simp [h1, h2, h3, h4, h5]
end Go.Proofs.Ytdkffkgoalgjmaa
