/- Arrays of two integers: compared, in the laws as well; rows as arguments. -/
import Derived.Test.YtnomgnjfamideaaAfter
import Derived.Test.YtnomgnjfamideaaCounts
import Derived.ChangeKeysEq
namespace Go.Proofs.Ytnomgnjfamideaa
open Go.RowKit Go.ChangeShapes Go.WideShapes
set_option linter.unusedVariables false

theorem row_ins70 {w : World} {g : Nat} {l : List Int} (h : w.heap[g]? = some (.cells (l.map (Value.int .i64)).toArray 3 (0, 0))) : Ins w g (g + 1) (some ⟨g, 0, none⟩) l :=
  ⟨Own.ints (.inr ⟨g, _, rfl, Nat.le_refl _, Nat.lt_succ_self _, h, by simp, fun j x hx => by simp [hx]⟩), row_ltI h⟩
theorem under_arr27 : Try.prog.underlying 62 = some (.array 2 3) := by kernel_rfl
theorem eq_arr27 (a b c d : Int) (w : World) : (Op.equalIn 10000 62 (.agg #[.int .i64 a, .int .i64 b]) (.agg #[.int .i64 c, .int .i64 d])).run Try.prog w = .ok (decide (a = c) && decide (b = d)) w := by
  obtain ⟨i0, hi0, hz0, hz1, hz2⟩ := info_parts infoI3
  rw [show (10000 : Nat) = 9999 + 1 from rfl, run_equalIn_array w 9999 _ _ under_arr27 hi0]
  have hc : Try.prog.cellsOf 3 = 1 := by kernel_rfl
  have he : Try.prog.plainKey 3 = true := by kernel_rfl
  have hu : Try.prog.underlying 3 = some (.int .i64) := by kernel_rfl
  have p1 := run_part_plain (P := Try.prog) w he (xs := #[.int .i64 a, .int .i64 b]) (off := 0) (v := .int .i64 a) rfl
  have p2 := run_part_plain (P := Try.prog) w he (xs := #[.int .i64 a, .int .i64 b]) (off := 1) (v := .int .i64 b) rfl
  have p3 := run_part_plain (P := Try.prog) w he (xs := #[.int .i64 c, .int .i64 d]) (off := 0) (v := .int .i64 c) rfl
  have p4 := run_part_plain (P := Try.prog) w he (xs := #[.int .i64 c, .int .i64 d]) (off := 1) (v := .int .i64 d) rfl
  have q1 := run_equalIn_int (P := Try.prog) w 9998 3 .i64 .i64 a c hu
  have q2 := run_equalIn_int (P := Try.prog) w 9998 3 .i64 .i64 b d hu
  rw [show (9998 + 1 : Nat) = 9999 from rfl] at q1 q2
  simp [Op.eqItems, List.range, List.range.loop, hc, p1, p2, p3, p4, q1, q2]
  by_cases h1 : a = c <;> by_cases h2 : b = d <;> simp [h1, h2]
set_option maxRecDepth 100000 in
set_option maxHeartbeats 4000000 in
theorem eqIntA2_same7 (x y : Int) (w : World) :
    Calls Try.prog 50 #[.agg #[.int .i64 x, .int .i64 y], .agg #[.int .i64 x, .int .i64 y]] w fun e w' => e = .returned (.bool true) ∧ Below w.heap.size w w' := by
  have HT := Lib.hid (Two.new w (.int .i64 x) (.int .i64 y) 62 w.heap.size rfl)
  have HB := Lib.hid ((Below.refl w.heap.size w).alloc (Nat.le_refl _) (.cells #[.int .i64 x, .int .i64 y] 62))
  have HU := Lib.hid (Two.new (w.alloc (.cells #[.int .i64 x, .int .i64 y] 62)) (.int .i64 x) (.int .i64 y) 62 (w.heap.size + 1) (by simp))
  replace HT := Lib.hid (HT.out.step ((Below.refl _ _).alloc (Nat.le_refl _) (.cells #[.int .i64 x, .int .i64 y] 62)))
  replace HB := Lib.hid (HB.out.alloc HB.out.size (.cells #[.int .i64 x, .int .i64 y] 62))
  go_enter Try.func50, Try.ntmps50
  go_wp2_with fail
  generalize (w.alloc (.cells #[.int .i64 x, .int .i64 y] 62)).alloc (.cells #[.int .i64 x, .int .i64 y] 62) = wa at HT HU HB ⊢
  go_loopw [5] (fun i wr => ∃ (k q : Nat), k ≤ 2 ∧ i = .int .i64 k ∧ wr = wa.drewN q) (fun i _ => 2 - (intOf i).toNat)
  case atStart => exact ⟨0, 0, Nat.zero_le _, rfl, rfl⟩
  case round =>
    obtain ⟨k, q, hk, rfl, rfl⟩ := hrel
    have h0 := HT.out.c0
    have h1 := HT.out.c1
    have h2 := HU.out.c0
    have h3 := HU.out.c1
    by_cases k0 : k = 0
    · subst k0
      go_wp2_with fail
      go_quiet (fail)
      go_wp2
      go_roundw
      case rel => exact ⟨1, _, by omega, by go_num, rfl⟩
      case measure => simp [intOf]
    · by_cases k1 : k = 1
      · subst k1
        go_wp2_with fail
        go_quiet (fail)
        go_wp2
        go_roundw
        case rel => exact ⟨2, _, by omega, by go_num, rfl⟩
        case measure => simp [intOf]
      · obtain rfl : k = 2 := by omega
        go_wp2
        go_ret
        exact ⟨rfl, below_drewN HB.out _⟩
end Go.Proofs.Ytnomgnjfamideaa
