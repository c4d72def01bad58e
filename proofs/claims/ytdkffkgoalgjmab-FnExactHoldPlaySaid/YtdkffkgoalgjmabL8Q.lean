/- The answerer: questions without which the others still tell. -/
import Derived.Test.YtdkffkgoalgjmabL8K
import Derived.Deep.Upon
namespace Go.Proofs.Ytdkffkgoalgjmab
open Go.RowKit Go.ChangeShapes Go.WideShapes Go.Maps
set_option linter.unusedVariables false

def without8 (qs : List Int) (k : Nat) : List Int := qs.take k ++ qs.drop (k + 1)
theorem without_len {qs : List Int} {k : Nat} (h : k < qs.length) : (without8 qs k).length = qs.length - 1 := by
  unfold without8
  rw [List.length_append, List.length_take, List.length_drop]
  omega
theorem Listed.without {zs : List Int} {m : Int} {qs : List Int} (h : Listed zs m qs) {k : Nat} (hk : k < qs.length) : Listed zs m (without8 qs k) :=
  ⟨h.st, by rw [without_len hk]; have := h.q8; omega, fun q hq => by
    rcases List.mem_append.1 hq with hq | hq
    · exact h.ok q (List.mem_of_mem_take hq)
    · exact h.ok q (List.mem_of_mem_drop hq)⟩
def fromA (A : Option Addr) (c k : Nat) : Option Addr := if c = k then A else A.map (·.add k)
theorem slice_from8 (A : Option Addr) (n c k : Nat) (h : k ≤ n) (w : World) : (Instr.slice 22 (.slice A n c) (some (.int .i64 (k : Int))) none none).run Try.prog w = .ok (.slice (fromA A c k) (n - k) (c - k)) w := by
  rw [run_slice_l (P := Try.prog) w 22 A n c elem_ints8 .i64 (k : Int) (by omega) (by omega), elem_int8, size_int8]
  simp only [Result.andThen, sliced, Int.toNat_natCast, Nat.mul_one, fromA]
theorem slice_cap8 (A : Option Addr) (n c k : Nat) (h : k ≤ c) (w : World) : (Instr.slice 22 (.slice A n c) none (some (.int .i64 (k : Int))) (some (.int .i64 (k : Int)))).run Try.prog w = .ok (.slice A k k) w := by
  rw [run_slice_hm (P := Try.prog) w 22 A n c elem_ints8 .i64 .i64 (k : Int) (k : Int) (by omega) (by omega) (by omega), elem_int8, size_int8]
  simp only [Result.andThen, sliced, Int.toNat_natCast, Nat.zero_mul, addr_zero8, Nat.sub_zero, ite_self]
theorem Ins.from8 {w : World} {lo hi : Nat} {A : Option Addr} {qs : List Int} (h : Ins w lo hi A qs) (k c : Nat) (hc : qs.length ≤ c) : Ins w lo hi (fromA A c k) (qs.drop k) :=
  ⟨fun h0 => by
    rw [List.length_drop] at h0
    obtain ⟨b, o, rfl, h1, h2, hcell⟩ := h.ints (by omega)
    refine ⟨b, o + k, ?_, h1, h2, fun j x hx => ?_⟩
    · unfold fromA
      rw [if_neg (by omega)]
      by_cases hk : k = 0
      · subst hk; simp [Addr.add]
      · simp [Addr.add, hk]
    · rw [List.getElem?_drop] at hx
      have := hcell (k + j) x hx
      rwa [← Nat.add_assoc] at this, h.top⟩
theorem ints_of_row8 {w : World} {g : Nat} {cur : Array Value} {l : List Int} (h : w.heap[g]? = some (.cells cur 3 (0, 0))) (hc : ∀ (j : Nat) (x : Int), l[j]? = some x → cur[j]? = some (Value.int .i64 x)) : Ins w g (g + 1) (some ⟨g, 0, none⟩) l :=
  ⟨fun _ => ⟨g, 0, rfl, Nat.le_refl _, Nat.lt_succ_self _, fun j x hx => by rw [Nat.zero_add, row_cellI h]; exact hc j x hx⟩, row_ltI h⟩
/-- A question is left out: of the program. -/
theorem append_cut8 (b o c : Nat) (qs : List Int) (k lo hi : Nat) (W : World) (hI : Ins W lo hi (some ⟨b, o, none⟩) qs) (hk : k < qs.length) (h8 : qs.length ≤ 8) (hc : qs.length ≤ c) :
    ∃ A' c' W', (Builtin.append_ #[22, 22] 22 #[.slice (some ⟨b, o, none⟩) k k, .slice (fromA (some ⟨b, o, none⟩) c (k + 1)) (qs.length - (k + 1)) (c - (k + 1))]).run Try.prog W = .ok (.slice A' (qs.length - 1) c') W' ∧
      (∃ lo' hi', Ins W' lo' hi' A' (without8 qs k)) ∧ Below W.heap.size W W' := by
  obtain ⟨i0, hi0, hz0, hz1, hz2⟩ := info_parts infoI3
  have hd := hI.from8 (k + 1) c hc
  have ht := hI.take8 k
  by_cases hm : qs.length = k + 1
  · have e1 : qs.drop (k + 1) = [] := List.drop_of_length_le (by omega)
    have e2 : without8 qs k = qs.take k := by unfold without8; rw [e1, List.append_nil]
    have e3 : qs.length - 1 = k := by omega
    have e4 : qs.length - (k + 1) = 0 := by omega
    rw [e2, e3, e4]
    refine ⟨some ⟨b, o, none⟩, k, W, ?_, ⟨lo, hi, ht⟩, Below.refl _ _⟩
    have hf : ∃ a, fromA (some (⟨b, o, none⟩ : Addr)) c (k + 1) = some a := by unfold fromA; split <;> exact ⟨_, rfl⟩
    obtain ⟨a, ha⟩ := hf
    rw [ha]
    exact run_append_nothing (P := Try.prog) W 22 22 22 3 i0 Try.underlying22 hi0 _ k k (Nat.le_refl _) _ (Src.ofSlice (P := Try.prog) W Try.underlying22 a 0 _ [] (by simp) (fun j u h => by simp at h) (fun u h => by cases h))
  · obtain ⟨b3, o3, e, _, _, hc3⟩ := hd.ints (by rw [List.length_drop]; omega)
    obtain ⟨b0, o0, e0, _, _, hc0⟩ := hI.ints (by omega)
    injection e0 with e0
    injection e0 with e0 e0'
    subst e0 e0'
    have hold : ∀ j v, ((qs.take k).map (Value.int .i64))[j]? = some v → W.cell? ((⟨b, o, none⟩ : Addr).add j) = some v := Ints.add (fun j x hx => hc0 j x (by
      have hj : j < k := by
        rcases Nat.lt_or_ge j (qs.take k).length with hl | hl
        · rw [List.length_take] at hl; omega
        · rw [List.getElem?_eq_none hl] at hx; cases hx
      rwa [List.getElem?_take_of_lt hj] at hx))
    have hnew : ∀ j v, ((qs.drop (k + 1)).map (Value.int .i64))[j]? = some v → W.cell? ((⟨b3, o3, none⟩ : Addr).add j) = some v := Ints.add hc3
    have hr := run_append_grow (P := Try.prog) W 22 22 3 i0 (.int .i64 0) Try.underlying22 hi0 hz0 ⟨b, o, none⟩ k k ((qs.take k).map (Value.int .i64)) (by rw [hz1]; simp; omega) hold ⟨b3, o3, none⟩ (qs.length - (k + 1)) (c - (k + 1)) ((qs.drop (k + 1)).map (Value.int .i64)) (by rw [hz1]; simp) hnew (by omega) (by omega) (by rw [hz2]; exact growslice_fits (by omega) (by omega))
    rw [e]
    have e3 : k + (qs.length - (k + 1)) = qs.length - 1 := by omega
    rw [e3] at hr
    refine ⟨_, _, _, hr, ⟨_, _, ints_of_row8 (alloc_row W.drew _ _) fun j x hx => ?_⟩, ((Below.refl _ W).drew).alloc (Nat.le_refl _) _⟩
    have hj : j < (without8 qs k).length := by
      rcases Nat.lt_or_ge j (without8 qs k).length with hl | hl
      · exact hl
      · rw [List.getElem?_eq_none hl] at hx; cases hx
    have hmap : ((without8 qs k).map (Value.int .i64))[j]? = some (Value.int .i64 x) := by rw [List.getElem?_map, hx]; rfl
    unfold without8 at hmap hj
    rw [List.map_append] at hmap
    rw [Array.getElem?_append_left (by simp at hj ⊢; omega), List.append_toArray, List.getElem?_toArray]
    exact hmap
/-- A question is left out: of the specification. -/
theorem append_own8 (B : Nat) (v : Value) (A : Option Addr) (c : Nat) (qs : List Int) (k lo hi : Nat) (W : World) (ho : W.ownsRow B 3 1 v k ((qs.take k).map (Value.int .i64))) (hI : Ins W lo hi A qs) (hk : k < qs.length) (h8 : qs.length ≤ 8) (hc : qs.length ≤ c) (hB : B ≤ W.heap.size) :
    ∃ A' c' W', (Builtin.append_ #[22, 22] 22 #[v, .slice (fromA A c (k + 1)) (qs.length - (k + 1)) (c - (k + 1))]).run Try.prog W = .ok (.slice A' (qs.length - 1) c') W' ∧
      (∃ lo' hi', Ins W' lo' hi' A' (without8 qs k)) ∧ Past B W W' := by
  obtain ⟨i0, hi0, hz0, hz1, hz2⟩ := info_parts infoI3
  have hd := hI.from8 (k + 1) c hc
  have hkl : (qs.take k).length = k := by rw [List.length_take]; omega
  obtain ⟨Av, cv, rfl, hle, hR⟩ := own_res ho hkl.symm
  rw [hkl] at hle
  obtain ⟨b0, o0, rfl, _, _, _⟩ := hI.ints (by omega)
  by_cases hm : qs.length = k + 1
  · have e1 : qs.drop (k + 1) = [] := List.drop_of_length_le (by omega)
    have e2 : without8 qs k = qs.take k := by unfold without8; rw [e1, List.append_nil]
    have e3 : qs.length - 1 = k := by omega
    have e4 : qs.length - (k + 1) = 0 := by omega
    rw [e2, e3, e4, hkl]
    refine ⟨Av, cv, W, ?_, ⟨_, _, hR.ins⟩, Past.refl _ _⟩
    obtain ⟨a, ha⟩ : ∃ a, fromA (some (⟨b0, o0, none⟩ : Addr)) c (k + 1) = some a := by unfold fromA; split <;> exact ⟨_, rfl⟩
    rw [ha]
    exact run_append_nothing (P := Try.prog) W 22 22 22 3 i0 Try.underlying22 hi0 _ k cv hle _ (Src.ofSlice (P := Try.prog) W Try.underlying22 a 0 _ [] (by simp) (fun j u h => by simp at h) (fun u h => by cases h))
  · obtain ⟨b3, o3, e, _, _, hc3⟩ := hd.ints (by rw [List.length_drop]; omega)
    rw [e]
    have hnew : ∀ j v, ((qs.drop (k + 1)).map (Value.int .i64))[j]? = some v → W.cell? ((⟨b3, o3, none⟩ : Addr).add j) = some v := Ints.add hc3
    obtain ⟨v', W', hr, h2, h3, h4⟩ := run_append_own (P := Try.prog) W B 22 22 3 i0 (.int .i64 0) 1 8 Try.underlying22 hi0 hz0 hz1 hz2 rfl (by decide) _ k _ ho ⟨b3, o3, none⟩ (qs.length - (k + 1)) (c - (k + 1)) ((qs.drop (k + 1)).map (Value.int .i64)) (by simp) hnew (ones _) (by unfold maxLen; omega) (by omega) hB
    have e3 : k + (qs.length - (k + 1)) = qs.length - 1 := by omega
    rw [e3, ← List.map_append] at h2
    obtain ⟨A', c', e', _, hR'⟩ := own_res h2 (without_len hk).symm
    rw [show (qs.take k ++ qs.drop (k + 1)).length = qs.length - 1 from without_len hk] at e'
    rw [e'] at hr
    exact ⟨A', c', W', hr, ⟨_, _, hR'.ins⟩, Past.of_within (within_grown ho h3) (Nat.le_refl _)⟩
theorem ownsRow_lit8 (w : World) : (w.alloc (.cells #[] 3)).ownsRow w.heap.size 3 1 (.slice (some ⟨w.heap.size, 0, none⟩) 0 0) 0 [] := World.ownsRow_lit w (e := 3) (size := 1) (base := w.heap.size) #[] 0 (Nat.le_refl _) (by unfold maxLen; omega) rfl
set_option maxHeartbeats 2000000 in
theorem l1Own_nil8 (b o c : Nat) (w : World) :
    Calls Try.prog 70 #[.slice (some ⟨b, o, none⟩) 0 c] w fun e w' => ∃ v, e = .returned v ∧ w'.ownsRow w.heap.size 3 1 v 0 [] ∧ Below w.heap.size w w' := by
  obtain ⟨i0, hi0, hz0, hz1, hz2⟩ := info_parts infoI3
  have hr := run_append_nothing (P := Try.prog) (w.alloc (.cells #[] 3)) 22 22 22 3 i0 Try.underlying22 hi0 (some ⟨w.heap.size, 0, none⟩) 0 0 (Nat.le_refl _) _ (Src.ofSlice (P := Try.prog) _ Try.underlying22 ⟨b, o, none⟩ 0 c [] (by simp) (fun j u h => by simp at h) (fun u h => by cases h))
  go_enter Try.func70, Try.ntmps70
  go_wp2
  go_ret
  exact ⟨_, rfl, ownsRow_lit8 w, (Below.refl _ _).alloc (Nat.le_refl _) _⟩
theorem l1Own_take8 (b o c lo hi : Nat) (qs : List Int) (k : Nat) (w : World) (hI : Ins w lo hi (some ⟨b, o, none⟩) qs) (hk : k < qs.length) (h8 : qs.length ≤ 8) :
    Calls Try.prog 70 #[.slice (some ⟨b, o, none⟩) k c] w fun e w' => ∃ v, e = .returned v ∧ w'.ownsRow w.heap.size 3 1 v k ((qs.take k).map (Value.int .i64)) ∧ Below w.heap.size w w' := by
  by_cases h0 : k = 0
  · subst h0
    exact l1Own_nil8 b o c w
  · have hkl := take_len8 (qs := qs) (k := k) (by omega)
    have := l1Own_any (some ⟨b, o, none⟩) c lo hi (qs.take k) w (hI.take8 k) (by omega) (by omega)
    rwa [hkl] at this
end Go.Proofs.Ytdkffkgoalgjmab
