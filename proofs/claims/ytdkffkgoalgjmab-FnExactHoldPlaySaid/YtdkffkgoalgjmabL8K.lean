/- The answerer: the longest list that holds. -/
import Derived.Test.YtdkffkgoalgjmabL8D
import Derived.WalkMore
namespace Go.Proofs.Ytdkffkgoalgjmab
open Go.RowKit Go.ChangeShapes Go.WideShapes Go.Maps
set_option linter.unusedVariables false

theorem elem_ints8 : Try.prog.underlying 22 = some (.slice (Try.prog.elem 22)) := by kernel_rfl
theorem elem_int8 : Try.prog.elem 22 = 3 := by kernel_rfl
theorem size_int8 (w : World) : (sizeOf 3).run Try.prog w = .ok 1 w := by kernel_rfl
theorem addr_zero8 (A : Option Addr) : A.map (·.add 0) = A := by
  cases A with
  | none => rfl
  | some a => simp [Addr.add]
theorem slice_to8 (A : Option Addr) (n c k : Nat) (h : k ≤ c) (w : World) : (Instr.slice 22 (.slice A n c) none (some (.int .i64 (k : Int))) none).run Try.prog w = .ok (.slice A k c) w := by
  rw [run_slice_h (P := Try.prog) w 22 A n c elem_ints8 .i64 (k : Int) (by omega) (by omega), elem_int8, size_int8]
  simp only [Result.andThen, sliced, Int.toNat_natCast, Nat.zero_mul, addr_zero8, Nat.sub_zero, ite_self]
theorem Ins.take8 {w : World} {lo hi : Nat} {A : Option Addr} {qs : List Int} (h : Ins w lo hi A qs) (k : Nat) : Ins w lo hi A (qs.take k) :=
  ⟨fun h0 => by
    obtain ⟨b, o, e, h1, h2, hc⟩ := h.ints (by rw [List.length_take] at h0; omega)
    refine ⟨b, o, e, h1, h2, fun j x hx => hc j x ?_⟩
    have hj : j < k := by
      rcases Nat.lt_or_ge j (qs.take k).length with hl | hl
      · rw [List.length_take] at hl; omega
      · rw [List.getElem?_eq_none hl] at hx; cases hx
    rwa [List.getElem?_take_of_lt hj] at hx, h.top⟩
theorem Listed.take {zs : List Int} {m : Int} {qs : List Int} (h : Listed zs m qs) (k : Nat) : Listed zs m (qs.take k) :=
  ⟨h.st, by rw [List.length_take]; have := h.q8; omega, fun q hq => h.ok q (List.mem_of_mem_take hq)⟩
theorem take_len8 {qs : List Int} {k : Nat} (h : k ≤ qs.length) : (qs.take k).length = k := by rw [List.length_take]; omega
theorem tell_none {m : Int} {zs qs : List Int} (h : tellB m zs qs = true) : ∀ j, j < (opnL m zs qs).length → ¬ 2 ≤ (opnL m zs qs).getD j 0 := by
  have h0 : geC m zs qs 2 = 0 := by simpa [tellB] using h
  unfold geC at h0
  intro j hj
  exact geTo_zero.1 h0 j (by rw [opnL_len] at hj; exact hj)
theorem tell_some {m : Int} {zs qs : List Int} (h : tellB m zs qs = false) : ∃ d, FirstGe (opnL m zs qs) 2 d := by
  have h0 : geC m zs qs 2 ≠ 0 := by simpa [tellB] using h
  rcases first_or (opnL m zs qs) 2 (opnL m zs qs).length (Nat.le_refl _) with hN | ⟨d, _, hF⟩
  · exfalso
    apply h0
    unfold geC
    exact geTo_zero.2 fun j hj => hN j (by rw [opnL_len]; exact hj)
  · exact ⟨d, hF⟩
theorem lng_yes {m : Int} {zs qs : List Int} {k : Nat} (h : tellB m zs (qs.take k) = true) : lngTo m zs qs (k + 1) = lngTo m zs qs k := by rw [lngTo, if_pos h]
theorem lng_no {m : Int} {zs qs : List Int} {k : Nat} (h : tellB m zs (qs.take k) = false) : lngTo m zs qs (k + 1) = (k : Int) := by rw [lngTo, if_neg (by rw [h]; decide)]
end Go.Proofs.Ytdkffkgoalgjmab
