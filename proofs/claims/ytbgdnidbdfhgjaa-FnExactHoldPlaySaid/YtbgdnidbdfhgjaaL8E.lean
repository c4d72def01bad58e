/- The answerer of the specification: answers of a number, the state at their end, how many lists leave so many open. -/
import Derived.Test.YtbgdnidbdfhgjaaL8A
import Derived.Test.YtbgdnidbdfhgjaaL8B
import Derived.Test.YtbgdnidbdfhgjaaRow8
import Derived.StillTailTactics
namespace Go.Proofs.Ytbgdnidbdfhgjaa
open Go.RowKit Go.ChangeShapes Go.WideShapes Go.Maps
set_option linter.unusedVariables false

theorem inQ_bitsN (c k : Nat) : (bits .and .i64 ((c : Int) / 2 ^ k) 1 == 1) = inQ (c : Int) k := rfl
theorem and_one8 (x : Nat) (hx : x < 4096) : (bits .and .i64 (x : Int) 1 == 1) = decide (x % 2 = 1) := by
  have h : ∀ a, a < 64 → ∀ b, b < 64 → (bits .and .i64 ((64 * a + b : Nat) : Int) 1 == 1) = decide ((64 * a + b) % 2 = 1) := by decide +kernel
  have := h (x / 64) (by omega) (x % 64) (by omega)
  rwa [show 64 * (x / 64) + x % 64 = x by omega] at this
theorem inQ_bit8 {a j : Nat} (ha : a < 4096) : inQ (a : Int) j = a.testBit j := by
  show (bits .and .i64 ((a : Int) / 2 ^ j) 1 == 1) = _
  have e : ((a : Int) / 2 ^ j) = ((a / 2 ^ j : Nat) : Int) := by norm_cast
  rw [e, and_one8 _ (Nat.lt_of_le_of_lt (Nat.div_le_self _ _) ha), Nat.testBit_eq_decide_div_mod_eq]
theorem bool_snoc8 {w : World} {B n : Nat} {v : Value} {bs : List Bool} {y : Bool} (h : w.ownsRow B 4 1 v (n + 1) (bs.map Value.bool ++ [Value.bool y])) (hn : n = bs.length) : w.ownsRow B 4 1 v (bs ++ [y]).length ((bs ++ [y]).map Value.bool) := by
  subst hn
  simpa using h
theorem B0_any (w : World) (B : Nat) (h : B ≤ w.heap.size) : (w.alloc (.cells #[] 4)).ownsRow B 4 1 (.slice (some ⟨w.heap.size, 0, none⟩) 0 0) 0 [] :=
  World.ownsRow_lit w (e := 4) (size := 1) (base := B) #[] 0 h (by unfold maxLen; omega) rfl
theorem bits_take (n c : Nat) (j : Nat) (hj : j < n) (hc : c < 4096) : (bitsB n c).take (n - j) = (bitsB n c).take (n - (j + 1)) ++ [inQ (c : Int) j] := by
  have e : n - j = n - (j + 1) + 1 := by omega
  have hl : n - (j + 1) < (bitsB n c).length := by rw [bitsB_len]; omega
  have ha := bitsB_at n c (n - (j + 1)) (by omega)
  rw [List.getElem?_eq_getElem hl] at ha
  injection ha with ha
  rw [e, List.take_succ_eq_append_getElem hl, ha, inQ_bit8 hc]
  congr 3
  omega
theorem shr_id8 (c j : Nat) (hj : j ≤ 8) : (c : Int) / 2 ^ j = ((c / 2 ^ j : Nat) : Int) := by norm_cast

set_option maxRecDepth 100000 in
set_option maxHeartbeats 4000000 in
theorem l8Answers_any (c n : Nat) (w : World) (hn : n ≤ 8) (hc : c < 256) :
    Calls Try.prog 62 #[.int .i64 (c : Int), .int .i64 (n : Int)] w fun e w' => ∃ v, e = .returned v ∧ w'.ownsRow w.heap.size 4 1 v n ((bitsB n c).map Value.bool) ∧ Below w.heap.size w w' := by
  obtain ⟨i0, hi0, hz0, hz1, hz2⟩ := info_parts infoB8
  have HO0 := Lib.hid (B0_any w w.heap.size (Nat.le_refl _))
  have HB0 := Lib.hid ((Below.refl w.heap.size w).alloc (Nat.le_refl _) (.cells #[] 4))
  go_enter Try.func62, Try.ntmps62
  go_wp2_with fail
  generalize w.alloc (.cells #[] 4) = w0 at HO0 HB0 ⊢
  go_loopw [5, 6] (fun ov i wr => ∃ (j : Nat), j ≤ n ∧ i = .int .i64 ((j : Int) - 1) ∧ Hid (wr.ownsRow w.heap.size 4 1 ov ((bitsB n c).take (n - j)).length (((bitsB n c).take (n - j)).map Value.bool)) ∧ Hid (Below w.heap.size w wr)) (fun _ i _ => (intOf i + 1).toNat)
  case atStart => exact ⟨n, Nat.le_refl _, rfl, by rw [Nat.sub_self, List.take_zero]; exact HO0, HB0⟩
  case round =>
    clear HO0 HB0
    obtain ⟨j, hj, rfl, HO, HB⟩ := hrel
    by_cases hlt : 0 < j
    · obtain ⟨j, rfl⟩ : ∃ i, j = i + 1 := ⟨j - 1, by omega⟩
      have HT := Lib.hid (bits_take n c j (by omega) (by omega))
      have hlen : ((bitsB n c).take (n - (j + 1))).length ≤ 8 := by rw [List.length_take, bitsB_len]; omega
      generalize (bitsB n c).take (n - (j + 1)) = L at HO HT hlen
      have hji : ((j + 1 : Nat) : Int) - 1 = (j : Int) := by omega
      rw [hji]
      have hj8 : j ≤ 7 := by omega
      have hbit := inQ_bitsN c j
      have hown := HO.out
      have hws := HB.out.size
      clear hji
      generalize hx : inQ (c : Int) j = x at HT hbit
      go_wp2_with (at_builtin; refine wpList_append_own _ rfl _ _ 25 rfl w.heap.size 4 i0 (.bool false) 1 1 Try.underlying25 hi0 hz0 hz1 hz2 rfl (by decide) _ _ _ rfl (hown.alloc _) ⟨_, 0, none⟩ 1 1 [.bool x] rfl rfl (cell_one_new _ _ _) (by simp [Value.oneCell']) (by unfold maxLen; omega) (by omega) (by simp; omega) ?_; intro v' w1 hown' hgrow _)
      have HO2 := Lib.hid (bool_snoc8 hown' rfl)
      have hps := Past.grown hown hgrow
      have HB2 := Lib.hid (HB.out.trans (hps.below (Nat.le_refl _) hws))
      clear hown' hgrow hown HO hps HB hbit
      go_wp2
      go_roundw
      case rel => exact ⟨j, by omega, by go_num, by rw [HT.out]; exact HO2, HB2⟩
      case measure => (simp [intOf] <;> omega)
    · obtain rfl : j = 0 := by omega
      go_wp2
      go_ret
      have e : (bitsB n c).take (n - 0) = bitsB n c := List.take_of_length_le (by rw [bitsB_len]; omega)
      rw [e, bitsB_len] at HO
      exact ⟨_, rfl, HO.out, HB.out⟩
end Go.Proofs.Ytbgdnidbdfhgjaa
