/- Rooms compared. -/
import Derived.Test.YtpjoljaamakagaaL12R
namespace Go.Proofs.Ytpjoljaamakagaa
open Go.RowKit Go.ChangeShapes Go.WideShapes
set_option linter.unusedVariables false

theorem plainInt12 : Try.prog.plainKey 3 = true := by kernel_rfl
theorem cells1_12 : Try.prog.cellsOf 3 = 1 := by kernel_rfl
theorem run_eqItems12 (d : Nat) (xs ys : Array Value) (f g : Nat → Int) (w : World) : ∀ is : List Nat, (∀ i ∈ is, xs[i]? = some (.int .i64 (f i)) ∧ ys[i]? = some (.int .i64 (g i))) →
    (Op.eqItems (d + 1) 3 1 xs ys is).run Try.prog w = .ok (is.all fun i => f i == g i) w
  | [], _ => by simp [Op.eqItems]
  | i :: is, h => by
    obtain ⟨h1, h2⟩ := h i (by simp)
    have p1 := run_part_plain (P := Try.prog) w plainInt12 h1
    have p2 := run_part_plain (P := Try.prog) w plainInt12 h2
    have p3 := run_equalIn_int (P := Try.prog) w d 3 .i64 .i64 (f i) (g i) Try.underlying3
    have ih := run_eqItems12 d xs ys f g w is (fun j hj => h j (by simp [hj]))
    simp only [Op.eqItems, Sem.run_bind, Nat.mul_one, p1, p2, p3, Result.andThen_ok, List.all_cons]
    cases hb : f i == g i with
    | false => simp
    | true => simp [ih]
theorem eq_iA12 (d : Nat) (p q : Nat → Int) (w : World) : (Op.equalIn (d + 2) 22 (.agg (iA p)) (.agg (iA q))).run Try.prog w = .ok ((List.range 12).all fun i => p i == q i) w := by
  obtain ⟨i0, hi0, hz0, hz1, hz2⟩ := info_parts infoI3
  rw [show d + 2 = (d + 1) + 1 from rfl, run_equalIn_array w (d + 1) _ _ under12 hi0, cells1_12]
  exact run_eqItems12 d _ _ p q w _ (fun i hi => ⟨iA_at p (List.mem_range.1 hi), iA_at q (List.mem_range.1 hi)⟩)
theorem fields12 : (Try.prog.fieldsOf 26).toList.map (fun f => (f.name != "_", f.type, f.offset)) = [(true, 22, 0), (true, 3, 12), (true, 3, 13), (true, 3, 14)] := by kernel_rfl
theorem underRmF : Try.prog.underlying 26 = some (.struct (Try.prog.fieldsOf 26)) := by kernel_rfl
theorem stoodRm : Try.prog.stoodInHeld 26 = false := by kernel_rfl
theorem part_lies (p : Nat → Int) (n m c : Int) (w : World) : (part 22 (rmA p n m c) 0).run Try.prog w = .ok (.agg (iA p)) w := by
  have hagg : (isAgg 22).run Try.prog w = .ok true w := by
    unfold isAgg
    rw [Sem.run_bind, run_underlying under12 w]
    rfl
  cases hq : Try.prog.info? 22 with
  | none => have := info12; simp [hq] at this
  | some i =>
    have hs : i.size = 12 := by have := info12; simpa [hq] using this
    simp [part, Sem.run_bind, hagg, sizeOf, typeInfo, hq, hs]
    rfl
set_option maxRecDepth 100000 in
theorem eq_rm (p q : Nat → Int) (n m c n' m' c' : Int) (w : World) :
    (Op.equalIn 10000 26 (.agg (rmA p n m c)) (.agg (rmA q n' m' c'))).run Try.prog w = .ok ((List.range 12).all (fun i => p i == q i) && (n == n') && (m == m') && (c == c')) w := by
  rw [show (10000 : Nat) = 9999 + 1 from rfl, run_equalIn_struct w 9999 _ _ _ underRmF stoodRm]
  have hf := fields12
  have hlen : (Try.prog.fieldsOf 26).toList.length = 4 := by simpa using congrArg List.length hf
  generalize (Try.prog.fieldsOf 26).toList = fs at hf hlen ⊢
  match fs, hlen with
  | [f0, f1, f2, f3], _ =>
    simp only [List.map_cons, List.map_nil, List.cons.injEq, Prod.mk.injEq, bne_iff_ne, and_true] at hf
    obtain ⟨⟨a0, b0, c0⟩, ⟨a1, b1, c1⟩, ⟨a2, b2, c2⟩, ⟨a3, b3, c3⟩⟩ := hf
    have e0 : (Op.equalIn 9999 22 (.agg (iA p)) (.agg (iA q))).run Try.prog w = _ := eq_iA12 9997 p q w
    have q1 := run_equalIn_int (P := Try.prog) w 9998 3 .i64 .i64 n n' Try.underlying3
    have q2 := run_equalIn_int (P := Try.prog) w 9998 3 .i64 .i64 m m' Try.underlying3
    have q3 := run_equalIn_int (P := Try.prog) w 9998 3 .i64 .i64 c c' Try.underlying3
    rw [show (9998 + 1 : Nat) = 9999 from rfl] at q1 q2 q3
    have p1 := run_part_plain (P := Try.prog) w plainInt12 (xs := rmA p n m c) (off := 12) (v := .int .i64 n) rfl
    have p2 := run_part_plain (P := Try.prog) w plainInt12 (xs := rmA p n m c) (off := 13) (v := .int .i64 m) rfl
    have p3 := run_part_plain (P := Try.prog) w plainInt12 (xs := rmA p n m c) (off := 14) (v := .int .i64 c) rfl
    have r1 := run_part_plain (P := Try.prog) w plainInt12 (xs := rmA q n' m' c') (off := 12) (v := .int .i64 n') rfl
    have r2 := run_part_plain (P := Try.prog) w plainInt12 (xs := rmA q n' m' c') (off := 13) (v := .int .i64 m') rfl
    have r3 := run_part_plain (P := Try.prog) w plainInt12 (xs := rmA q n' m' c') (off := 14) (v := .int .i64 c') rfl
    have s0 := part_lies p n m c w
    have t0 := part_lies q n' m' c' w
    generalize (List.range 12).all (fun i => p i == q i) = b at e0 ⊢
    generalize rmA p n m c = X at p1 p2 p3 s0 ⊢
    generalize rmA q n' m' c' = Y at r1 r2 r3 t0 ⊢
    simp only [Op.eqFields, ne_eq, a0, a1, a2, a3, b0, b1, b2, b3, c0, c1, c2, c3, not_false_eq_true, if_true, Sem.run_bind, Sem.run_ite, e0, s0, t0, Result.andThen_ok]
    cases b with
    | false => simp
    | true =>
      simp only [Bool.not_true, Bool.false_eq_true, if_false, p1, r1, q1, Result.andThen_ok]
      cases n == n' with
      | false => simp
      | true =>
        simp only [Bool.not_true, Bool.false_eq_true, if_false, p2, r2, q2, Result.andThen_ok]
        cases m == m' with
        | false => simp
        | true =>
          simp only [Bool.not_true, Bool.false_eq_true, if_false, p3, r3, q3, Result.andThen_ok]
          cases c == c' <;> simp
end Go.Proofs.Ytpjoljaamakagaa
