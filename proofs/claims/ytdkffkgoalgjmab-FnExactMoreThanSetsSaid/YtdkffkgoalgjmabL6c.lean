/- The state of a number. -/
import Derived.Test.YtdkffkgoalgjmabL6b
import Derived.Test.YtdkffkgoalgjmabStart
import Derived.RegionTactic
import Derived.BigRegion
namespace Go.Proofs.Ytdkffkgoalgjmab
open Go.RowKit Go.ChangeShapes Go.WideShapes
set_option linter.unusedVariables false

theorem zeros6_own {w : World} {n g : Nat} (hr : w.heap[g]? = some (.cells (Array.replicate n (Value.int .i64 0)) 3 (0, 0))) : Own w g (g + 1) (some ⟨g, 0, none⟩) (List.replicate n 0) :=
  .inr ⟨g, _, rfl, Nat.le_refl _, Nat.lt_succ_self _, hr, by simp, fun j x hx => by
    have hj : j < n := by
      rcases Nat.lt_or_ge j (List.replicate n (0 : Int)).length with h1 | h1
      · simpa using h1
      · rw [List.getElem?_eq_none h1] at hx; cases hx
    rw [List.getElem?_replicate, if_pos hj] at hx
    injection hx with hx
    subst hx
    rw [Array.getElem?_replicate, if_pos hj]⟩
theorem rep_set (k : Nat) (T : List Int) (v : Int) : (List.replicate (k + 1) 0 ++ T).set k v = List.replicate k 0 ++ v :: T := by
  rw [List.replicate_succ', List.append_assoc, List.set_append_right _ _ (by simp)]
  simp
theorem stOf_step {M n κ k K : Nat} {T : List Int} (h : stOf M n κ = stOf M (k + 1) K ++ T) : stOf M n κ = stOf M k (K / (M + 2)) ++ (((K % (M + 2) : Nat) : Int) - 1) :: T := by
  rw [h, stOf, List.append_assoc]
  rfl
theorem tmod_nat (a b : Nat) : Int.tmod (a : Int) (b : Int) = ((a % b : Nat) : Int) := rfl
theorem tdiv_nat (a b : Nat) : Int.tdiv (a : Int) (b : Int) = ((a / b : Nat) : Int) := rfl

set_option maxRecDepth 100000 in
set_option maxHeartbeats 4000000 in
theorem l6Of_any (κ n M : Nat) (w : World) (hM : M ≤ 1) (h1 : 1 ≤ n) (h5 : n ≤ 5) (hκ : κ ≤ 243) :
    Calls Try.prog 121 #[.int .i64 (κ : Int), .int .i64 (n : Int), .int .i64 (M : Int)] w fun e w' => ∃ g, e = .returned (.agg #[.slice (some ⟨g, 0, none⟩) n n, .int .i64 (M : Int)]) ∧ w.heap.size ≤ g ∧ Own w' g (g + 1) (some ⟨g, 0, none⟩) (stOf M n κ) ∧ Below w.heap.size w w' := by
  have HR := Lib.hid (Two.new w (.slice none 0 0) (.int .i64 0) 36 w.heap.size rfl)
  have HB := Lib.hid ((Below.refl w.heap.size w).alloc (Nat.le_refl _) (.cells #[.slice none 0 0, .int .i64 0] 36))
  have HC := Lib.hid (fun W => l2Start_any n (M : Int) W (by omega))
  go_enter Try.func121, Try.ntmps121
  go_wp2_with fail
  generalize w.alloc (.cells #[.slice none 0 0, .int .i64 0] 36) = wa at HB HR ⊢
  refine (HC.out wa).mono ?_
  rintro e wb ⟨g, rfl, hg, hr, hb⟩
  have hga : w.heap.size + 1 ≤ g := Nat.le_trans HR.out.lt hg
  replace HR := Lib.hid (HR.out.step hb)
  replace HB := Lib.hid (below_trans HB.out hb)
  have HO := Lib.hid (zeros6_own hr)
  have hgb := row_ltI hr
  clear hr hb hg HC
  have HT := Lib.hid (Two.new wb (.slice (some ⟨g, 0, none⟩) n n) (.int .i64 (M : Int)) 36 wb.heap.size rfl)
  have hbb := (Below.refl wb.heap.size wb).alloc (Nat.le_refl _) (.cells #[.slice (some ⟨g, 0, none⟩) n n, .int .i64 (M : Int)] 36)
  replace HR := Lib.hid (HR.out.step hbb)
  replace HB := Lib.hid (below_trans HB.out hbb)
  replace HO := Lib.hid (own_same HO.out (hbb.block g hgb))
  clear hbb
  go_wp2_with fail
  generalize wb.alloc (.cells #[.slice (some ⟨g, 0, none⟩) n n, .int .i64 (M : Int)] 36) = wc at HT HR HB HO ⊢
  go_loopw [0, 8] (fun x i wr => ∃ (k K : Nat) (j : Int) (T : List Int), k ≤ n ∧ i = .int .i64 j ∧ j = (k : Int) - 1 ∧ x = .int .i64 (K : Int) ∧ K ≤ 243 ∧ Hid (stOf M n κ = stOf M k K ++ T) ∧ Hid (Own wr g (g + 1) (some ⟨g, 0, none⟩) (List.replicate k 0 ++ T)) ∧ Hid (Within g (g + 1) wc wr)) (fun _ i _ => (intOf i + 1).toNat)
  case atStart => exact ⟨n, κ, _, [], Nat.le_refl _, rfl, rfl, rfl, hκ, Lib.hid (by simp), Lib.hid (by rw [List.append_nil]; exact HO.out), Lib.hid (Within.refl _ _ _)⟩
  case round =>
    clear HO
    obtain ⟨k, K, j, T, hk, rfl, hj, rfl, hK, HS, HO, HW⟩ := hrel
    rename World => wr
    have ht0 := (HT.out.within HW.out (.inr (by omega))).c0
    have ht1 := (HT.out.within HW.out (.inr (by omega))).c1
    by_cases h0 : 0 ≤ j
    · obtain ⟨i, rfl⟩ : ∃ i : Nat, j = (i : Int) := ⟨j.toNat, by omega⟩
      obtain rfl : k = i + 1 := by omega
      clear hj h0
      have eM : ((K % (M + 2) : Nat) : Int) = (K : Int) % ((M : Int) + 2) := by simp
      have eD : ((K / (M + 2) : Nat) : Int) = (K : Int) / ((M : Int) + 2) := by simp
      have HS2 := Lib.hid (stOf_step HS.out)
      have hmod : K % (M + 2) < M + 2 := Nat.mod_lt _ (by omega)
      have hM3 : M + 2 ≤ 3 := Nat.add_le_add_right hM 2
      have hmod2 : K % (M + 2) ≤ 2 := Nat.le_of_lt_succ (Nat.lt_of_lt_of_le hmod hM3)
      have hdiv : K / (M + 2) ≤ 243 := Nat.le_trans (Nat.div_le_self _ _) hK
      have hm1 : 0 ≤ (K : Int) % ((M : Int) + 2) ∧ (K : Int) % ((M : Int) + 2) ≤ 2 := by rw [← eM]; exact ⟨Int.natCast_nonneg _, Int.ofNat_le.2 hmod2⟩
      have hd1 : 0 ≤ (K : Int) / ((M : Int) + 2) ∧ (K : Int) / ((M : Int) + 2) ≤ 243 := by rw [← eD]; exact ⟨Int.natCast_nonneg _, Int.ofNat_le.2 hdiv⟩
      have HD := Lib.hid eD
      rw [eM] at HS2
      clear eM eD hmod hmod2 hM3
      have hc := own_cell HO.out (k := i) (by simp; omega)
      have hf := own_free HO.out i
      have HO2 := Lib.hid (own_set HO.out (k := i) (by simp; omega) ((K : Int) % ((M : Int) + 2) - 1))
      rw [rep_set] at HO2
      have HW2 := Lib.hid (HW.out.trans (within_set (Within.refl g (g + 1) wr) (Nat.le_refl _) (Nat.lt_succ_self _) i (.int .i64 ((K : Int) % ((M : Int) + 2) - 1))))
      generalize (List.replicate (i + 1) 0 ++ T).getD i 0 = z at hc
      have hin : (i : Int) < (n : Int) := by omega
      go_wp2_with fail
      go_region
      all_goals
        go_wp2
        go_roundw
        case rel => exact ⟨i, K / (M + 2), (i : Int) - 1, _, by omega, rfl, rfl, by rw [HD.out], hdiv, HS2, Lib.hid (own_same HO2.out rfl), Lib.hid (HW2.out.drewN 1)⟩
        case measure => simp [intOf]
    · obtain rfl : k = 0 := by omega
      have HSf : Hid (stOf M n κ = T) := Lib.hid (by rw [HS.out]; rfl)
      rw [List.replicate_zero, List.nil_append, ← HSf.out] at HO
      clear hj
      have HRr := Lib.hid (HR.out.within HW.out (.inl (by omega)))
      replace HB := Lib.hid (HB.out.trans (HW.out.below (by omega) HB.out.size))
      have r0 := HRr.out.c0
      have r1 := HRr.out.c1
      have r2 := HRr.out.f0
      have r3 := HRr.out.f1
      go_wp2
      obtain ⟨hs, hw⟩ := stored2 HRr.out.row (.slice (some ⟨g, 0, none⟩) n n) (.int .i64 (M : Int))
      generalize ((wr.setCell ⟨w.heap.size, 0, none⟩ (.slice (some ⟨g, 0, none⟩) n n)).setCell ⟨w.heap.size, 1, none⟩ (.int .i64 (M : Int))) = wf at hs hw ⊢
      have e0 := two0 hs
      have e1 := two1 hs
      refine bodyPost_ret (v := .agg #[.slice (some ⟨g, 0, none⟩) n n, .int .i64 (M : Int)]) (by simp [results, go_sem, e0, e1]) rfl ?_
      exact ⟨g, rfl, by omega, own_same HO.out (hw.block g (own_lt HO.out) (.inr (by omega))), HB.out.trans (hw.below (Nat.le_refl _) HB.out.size)⟩
end Go.Proofs.Ytdkffkgoalgjmab
