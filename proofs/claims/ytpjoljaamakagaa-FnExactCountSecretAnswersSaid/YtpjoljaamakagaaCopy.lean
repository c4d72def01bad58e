/- Copies of a state's numbers. -/
import Derived.Test.YtpjoljaamakagaaStart
import Derived.Test.YtpjoljaamakagaaOpenN
import Derived.Laws.CopyOwn
namespace Go.Proofs.Ytpjoljaamakagaa
open Go.RowKit Go.ChangeShapes Go.WideShapes
set_option linter.unusedVariables false

theorem Ints.add {w : World} {b o : Nat} {zs : List Int} (h : ∀ (j : Nat) (x : Int), zs[j]? = some x → w.cell? ⟨b, o + j, none⟩ = some (.int .i64 x)) :
    ∀ (j : Nat) (v : Value), (zs.map (Value.int .i64))[j]? = some v → w.cell? ((⟨b, o, none⟩ : Addr).add j) = some v := fun j v hv => by
  rw [List.getElem?_map] at hv
  cases hz : zs[j]? with
  | none => rw [hz] at hv; cases hv
  | some x =>
    rw [hz] at hv
    injection hv with hv
    subst hv
    have := h j x hz
    by_cases hj : j = 0
    · subst hj
      simpa [Addr.add] using this
    · simpa [Addr.add, hj] using this
theorem ones (zs : List Int) : ∀ v ∈ zs.map (Value.int .i64), v.oneCell' = true := fun v hv => by
  obtain ⟨x, _, rfl⟩ := List.mem_map.1 hv
  rfl
theorem sz1 : (Try.prog.info? 3).map (·.size) = some 1 := by kernel_rfl

set_option maxRecDepth 100000 in
set_option maxHeartbeats 2000000 in
theorem l1Own_any (A : Option Addr) (c lo hi : Nat) (zs : List Int) (w : World) (hS : Ins w lo hi A zs) (h1 : 1 ≤ zs.length) (hn : zs.length ≤ 12) :
    Calls Try.prog 124 #[.slice A zs.length c] w fun e w' => ∃ v, e = .returned v ∧ w'.ownsRow w.heap.size 3 1 v zs.length (zs.map (Value.int .i64)) ∧ Below w.heap.size w w' := by
  obtain ⟨i0, hi0, hz0, hz1, hz2⟩ := info_parts infoI3
  obtain ⟨b, o, rfl, _, hb, hc⟩ := (hS.step ((Below.refl _ _).alloc (Nat.le_refl _) (.cells #[] 3))).ints (by omega)
  have HN := Lib.hid (Ints.add hc)
  have hown := O0_any w w.heap.size (Nat.le_refl _)
  have hO := ones zs
  have HO1 := Lib.hid hO
  clear hS hc hO
  go_enter Try.func124, Try.ntmps124
  go_wp2_with (at_builtin; refine wpList_append_own _ rfl _ _ 29 rfl w.heap.size 3 i0 (.int .i64 0) 1 8 Try.underlying29 hi0 hz0 hz1 hz2 rfl (by decide) _ _ _ rfl hown ⟨b, o, none⟩ zs.length c (zs.map (Value.int .i64)) rfl (by simp) HN.out HO1.out (by unfold maxLen; omega) (by omega) (by simp) ?_; intro v' w1 hown' hgrow _)
  have HW := Lib.hid (show w1.ownsRow w.heap.size 3 1 v' zs.length (zs.map (Value.int .i64)) from by simpa using hown')
  have HB := Lib.hid (((Below.refl w.heap.size w).alloc (Nat.le_refl _) (.cells #[] 3)).grown hgrow (by simp) (fun q hq => (hown.lt q hq).1))
  clear hown' hgrow hown
  go_wp2
  go_ret
  exact ⟨v', rfl, HW.out, HB.out⟩

set_option maxRecDepth 100000 in
set_option maxHeartbeats 2000000 in
theorem copyState_any (A : Option Addr) (c lo hi : Nat) (zs : List Int) (m : Int) (w : World) (hS : Ins w lo hi A zs) (h1 : 1 ≤ zs.length) (hn : zs.length ≤ 12) :
    Calls Try.prog 108 #[.agg #[.slice A zs.length c, .int .i64 m]] w fun e w' => ∃ g, e = .returned (.agg #[.slice (some ⟨g, 0, none⟩) zs.length zs.length, .int .i64 m]) ∧ w.heap.size ≤ g ∧ w'.heap[g]? = some (.cells (zs.map (Value.int .i64)).toArray 3 (0, 0)) ∧ Below w.heap.size w w' := by
  have hmk := makeIntsA zs.length (by omega)
  have hb1 : Below w.heap.size w (w.alloc (.cells #[.slice A zs.length c, .int .i64 m] 35)) := (Below.refl _ _).alloc (Nat.le_refl _) _
  have hb2 := hb1.alloc hb1.size (.cells #[.slice none 0 0, .int .i64 0] 35)
  have hb3 := hb2.alloc hb2.size (.cells (Array.replicate zs.length (Value.int .i64 0)) 3)
  have hr0 : (((w.alloc (.cells #[.slice A zs.length c, .int .i64 m] 35)).alloc (.cells #[.slice none 0 0, .int .i64 0] 35)).alloc (.cells (Array.replicate zs.length (Value.int .i64 0)) 3)).heap[w.heap.size + 1 + 1]? = some (.cells (List.replicate zs.length (Value.int .i64 0)).toArray 3 (0, 0)) := by
    rw [alloc_row' _ _ _ _ (by simp)]
    simp
  have hx0 := (Arg.next (Below.refl w.heap.size w) (.slice A zs.length c) (.int .i64 m) 35 w.heap.size rfl)
  have hx1 := hx0.step ((Below.refl _ _).alloc (Nat.le_refl _) (.cells #[.slice none 0 0, .int .i64 0] 35))
  have hx2 := hx1.step ((Below.refl _ _).alloc (Nat.le_refl _) (.cells (Array.replicate zs.length (Value.int .i64 0)) 3))
  have hrr : ((w.alloc (.cells #[.slice A zs.length c, .int .i64 m] 35)).alloc (.cells #[.slice none 0 0, .int .i64 0] 35)).heap[w.heap.size + 1]? = some (.cells #[.slice none 0 0, .int .i64 0] 35 (0, 0)) := alloc_row' _ _ _ _ (by simp)
  obtain ⟨b, o, rfl, _, hb, hc⟩ := (hS.step hb3).ints (by omega)
  have HN := Lib.hid (Ints.add hc)
  have HO1 := Lib.hid (ones zs)
  have HX2 := Lib.hid hx2
  have HR0 := Lib.hid hr0
  have HRR := Lib.hid ((((Below.refl _ ((w.alloc (.cells #[.slice (some ⟨b, o, none⟩) zs.length c, .int .i64 m] 35)).alloc (.cells #[.slice none 0 0, .int .i64 0] 35))).alloc (Nat.le_refl _) (.cells (Array.replicate zs.length (Value.int .i64 0)) 3)).block (w.heap.size + 1) (by simp)).trans hrr)
  have HB3 := Lib.hid hb3
  clear hS hc hb1 hb2 hb3 hx0 hx1 hx2 hr0 hrr
  go_enter Try.func108, Try.ntmps108
  go_wp2_with (with_reducible refine wpList_copy_splice (o := ⟨some 11, _, _, _, _, _⟩) rfl (.tmp 8) (.tmp 10) 29 29 rfl 3 Try.underlying29 sz1 (some ⟨w.heap.size + 1 + 1, 0, none⟩) (some ⟨b, o, none⟩) zs.length zs.length zs.length c rfl rfl (w.heap.size + 1 + 1) 0 (List.replicate zs.length (Value.int .i64 0)) 3 HR0.out (zs.map (Value.int .i64)) (by simp) (fun _ => ⟨rfl, _, rfl, HN.out⟩) (by simp) HO1.out (w.heap.size + 2) _ (Below.refl _ _) (by omega) ?_; intro w2 HG2 hB2; have hm1 := (hB2.cell (p := ⟨w.heap.size, 1, none⟩) (by show w.heap.size < w.heap.size + 2; omega)).trans HX2.out.c1; have HQ := Lib.hid ((hB2.block (w.heap.size + 1) (by omega)).trans HRR.out); have hq0 := two0 HQ.out; have hq1 := two1 HQ.out; have hf0 := row_freeI HQ.out 0; have hf1 := row_freeI HQ.out 1; have HB2 := Lib.hid hB2; clear hB2)
  obtain ⟨hs, hw⟩ := stored2 HQ.out (.slice (some ⟨w.heap.size + 1 + 1, 0, none⟩) zs.length zs.length) (.int .i64 m)
  generalize ((w2.setCell ⟨w.heap.size + 1, 0, none⟩ (.slice (some ⟨w.heap.size + 1 + 1, 0, none⟩) zs.length zs.length)).setCell ⟨w.heap.size + 1, 1, none⟩ (.int .i64 m)) = wc at hs hw ⊢
  have e0 := two0 hs
  have e1 := two1 hs
  refine bodyPost_ret (v := .agg #[.slice (some ⟨w.heap.size + 1 + 1, 0, none⟩) zs.length zs.length, .int .i64 m]) (by simp [results, go_sem, e0, e1]) rfl ?_
  have hg : w2.heap[w.heap.size + 1 + 1]? = some (.cells (zs.map (Value.int .i64)).toArray 3 (0, 0)) := by
    have := HG2.out
    rw [this]
    simp [splice]
  exact ⟨_, rfl, by omega, (hw.block _ (row_ltI hg) (.inr (by omega))).trans hg, (HB3.out.trans (HB2.out.mono (by omega))).trans (hw.below (by omega) (Nat.le_trans HB3.out.size HB2.out.size))⟩
end Go.Proofs.Ytpjoljaamakagaa
