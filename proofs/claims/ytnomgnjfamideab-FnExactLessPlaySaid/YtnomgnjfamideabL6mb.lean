/- LessPlay: both sides. -/
import Derived.Test.YtnomgnjfamideabL6mc
namespace Go.Proofs.Ytnomgnjfamideab
open Go.RowKit Go.ChangeShapes Go.WideShapes Go.Maps
set_option linter.unusedVariables false

theorem lessPlay_impl_fail (x lie : Int) (A : Option Addr) (c lo hi : Nat) (zs : List Int) (M : Nat) (w : World) (hS : Ins w lo hi A zs) (hs : Short M zs) (hlo : ¬ lie < -1) (hno : ¬ (opens (pSt M x lie zs 10) = [x] ∧ lie < ((pL M x lie zs 10).length : Int))) :
    Calls Try.prog 21 #[.agg #[.slice A zs.length c, .int .i64 (M : Int)], .int .i64 x, .int .i64 lie] w fun e w' => ∃ B c', e = .returned (.tuple #[.slice B ([] : List (Int × Bool)).length c', .bool false]) ∧ AMade w' w.heap.size w'.heap.size B ([] : List (Int × Bool)) ∧ Below w.heap.size w w' := by
  by_cases h1 : (opens (pSt M x lie zs 10)).length = 1
  · obtain ⟨t, ht⟩ := List.length_eq_one_iff.1 h1
    by_cases htx : t = x
    · rw [htx] at ht
      refine lessPlay_past x lie A c lo hi zs M w hS hs hlo ht ?_
      by_cases h : lie < ((pL M x lie zs 10).length : Int)
      · exact absurd ⟨ht, h⟩ hno
      · omega
    · exact lessPlay_other x lie A c lo hi zs M w hS hs hlo t ht htx
  · exact lessPlay_none x lie A c lo hi zs M w hS hs hlo h1
theorem lessPlay_spec_fail (x lie : Int) (A : Option Addr) (c lo hi : Nat) (zs : List Int) (M : Nat) (w : World) (hS : Ins w lo hi A zs) (hs : Short M zs) (hno : ¬ (¬ lie < -1 ∧ fitP M x lie zs)) :
    Calls Try.prog 19 #[.agg #[.slice A zs.length c, .int .i64 (M : Int)], .int .i64 x, .int .i64 lie] w fun e w' => ∃ B c', e = .returned (.tuple #[.slice B ([] : List (Int × Bool)).length c', .bool false]) ∧ AMade w' w.heap.size w'.heap.size B ([] : List (Int × Bool)) ∧ Below w.heap.size w w' := by
  by_cases hx : 0 ≤ x ∧ x ≤ (zs.length : Int) - 1
  · obtain ⟨j, hj⟩ : ∃ j : Nat, x = (j : Int) := ⟨x.toNat, by omega⟩
    have hjl : j < zs.length := by omega
    by_cases hz0 : zs[j] < 0
    · exact lessPlay_sclosed x lie A c lo hi zs M w hS hs j hj hjl _ rfl hz0
    · by_cases hlo : lie < -1
      · exact lessPlay_slow x lie A c lo hi zs M w hS hs j hj hjl _ rfl hz0 hlo
      · by_cases hl0 : 0 ≤ lie ∧ (M : Int) ≤ zs[j]
        · exact lessPlay_sfull x lie A c lo hi zs M w hS hs j hj hjl _ rfl hz0 hlo hl0.1 hl0.2
        · exact absurd ⟨hlo, j, hj, zs[j], List.getElem?_eq_getElem hjl, by omega, fun h => by omega⟩ hno
  · exact lessPlay_sout x lie A c lo hi zs M w hS hs hx
theorem lessPlay_spec_yes (x lie : Int) (A : Option Addr) (c lo hi : Nat) (zs : List Int) (M : Nat) (w : World) (hS : Ins w lo hi A zs) (hs : Short M zs) (hlo : ¬ lie < -1) (hf : fitP M x lie zs) (hend : lie < ((pL M x lie zs 10).length : Int)) :
    Calls Try.prog 19 #[.agg #[.slice A zs.length c, .int .i64 (M : Int)], .int .i64 x, .int .i64 lie] w fun e w' => ∃ B c', e = .returned (.tuple #[.slice B (pL M x lie zs 10).length c', .bool true]) ∧ AMade w' w.heap.size w'.heap.size B (pL M x lie zs 10) ∧ Below w.heap.size w w' := by
  obtain ⟨j, hj, z, hz, hz0, hzl⟩ := hf
  obtain ⟨hjl, hz⟩ := List.getElem?_eq_some_iff.1 hz
  have key : ∀ {e w'}, (∃ v, e = Ending.returned (.tuple #[v, .bool true]) ∧ w'.ownsRow w.heap.size 72 2 v (pL M x lie zs 10).length (cellsA (pL M x lie zs 10)) ∧ Below w.heap.size w w') → ∃ B c', e = .returned (.tuple #[.slice B (pL M x lie zs 10).length c', .bool true]) ∧ AMade w' w.heap.size w'.heap.size B (pL M x lie zs 10) ∧ Below w.heap.size w w' := by
    rintro e w' ⟨v, he, ho, hb⟩
    obtain ⟨A, c, rfl, hr⟩ := own_resA ho rfl
    exact ⟨A, c, he, hr, hb⟩
  by_cases hl0 : 0 ≤ lie
  · exact (lessPlay_smain1 x lie A c lo hi zs M w hS hs j hj hjl z hz (by omega) hlo hl0 (by have := hzl hl0; omega) hend).mono fun _ _ => key
  · exact (lessPlay_smain0 x lie A c lo hi zs M w hS hs j hj hjl z hz (by omega) hlo hl0 hend).mono fun _ _ => key
theorem lessPlay_both (zs : List Int) (m : Int) (h : zs.length ≤ 1048576) (x lie : Int) : ∃ (r0 : List (Int × Bool)) (r1 : Bool), r0.length ≤ 1048576 ∧
    (∀ (w : World) (B : Option Addr) (c lo hi : Nat), Ins w lo hi B zs → Calls Try.prog 21 #[.agg #[.slice B zs.length c, .int .i64 m], .int .i64 x, .int .i64 lie] w fun e w' => ∃ B c', e = .returned (.tuple #[.slice B r0.length c', .bool r1]) ∧ AMade w' w.heap.size w'.heap.size B r0 ∧ Below w.heap.size w w') ∧
    (∀ (w : World) (B : Option Addr) (c lo hi : Nat), Ins w lo hi B zs → Calls Try.prog 19 #[.agg #[.slice B zs.length c, .int .i64 m], .int .i64 x, .int .i64 lie] w fun e w' => ∃ B c', e = .returned (.tuple #[.slice B r0.length c', .bool r1]) ∧ AMade w' w.heap.size w'.heap.size B r0 ∧ Below w.heap.size w w') := by
  cases hsh : shortB zs m with
  | false => exact ⟨[], false, by simp, fun w B c lo hi hS => lessPlay_no x lie B c lo hi zs m w hS h hsh, fun w B c lo hi hS => lessPlay_sno x lie B c lo hi zs m w hS h hsh⟩
  | true =>
    obtain ⟨M, rfl, hs⟩ := shortB_iff.1 hsh
    by_cases hlo : lie < -1
    · exact ⟨[], false, by simp, fun w B c lo hi hS => lessPlay_low x lie B c lo hi zs (M : Int) w hS h hsh hlo, fun w B c lo hi hS => lessPlay_spec_fail x lie B c lo hi zs M w hS hs (fun k => k.1 hlo)⟩
    by_cases hf : fitP M x lie zs
    · by_cases hend : lie < ((pL M x lie zs 10).length : Int)
      · have hm := (play_mem hs (by omega) hend).2 hf
        obtain ⟨t, ht⟩ := only_done (pSt_short (x := x) (lie := lie) hs 10).1 (play_ends hs) (List.length_pos_of_mem hm)
        have htx : opens (pSt M x lie zs 10) = [x] := by
          rw [ht] at hm ⊢
          rw [List.mem_singleton.1 hm]
        exact ⟨pL M x lie zs 10, true, by have := pL_len M x lie zs 10; omega, fun w B c lo hi hS => lessPlay_yes x lie B c lo hi zs M w hS hs hlo htx hend, fun w B c lo hi hS => lessPlay_spec_yes x lie B c lo hi zs M w hS hs hlo hf hend⟩
      · obtain ⟨j, hj, z, hz, hz0, hzl⟩ := hf
        obtain ⟨hjl, hz⟩ := List.getElem?_eq_some_iff.1 hz
        have hl0 : 0 ≤ lie := by omega
        exact ⟨[], false, by simp, fun w B c lo hi hS => lessPlay_impl_fail x lie B c lo hi zs M w hS hs hlo (fun k => hend k.2), fun w B c lo hi hS => lessPlay_spast x lie B c lo hi zs M w hS hs j hj hjl z hz (by omega) hlo hl0 (by have := hzl hl0; omega) (by omega)⟩
    · refine ⟨[], false, by simp, fun w B c lo hi hS => lessPlay_impl_fail x lie B c lo hi zs M w hS hs hlo (fun k => hf ?_), fun w B c lo hi hS => lessPlay_spec_fail x lie B c lo hi zs M w hS hs (fun k => hf k.2)⟩
      exact (play_mem hs (by omega) k.2).1 (by rw [k.1]; exact List.mem_singleton.2 rfl)
end Go.Proofs.Ytnomgnjfamideab
