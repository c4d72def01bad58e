/- Copies of a state's numbers. -/
import Derived.Test.YthpnkeecpaflfaaStart
import Derived.Test.YthpnkeecpaflfaaOpenN
import Derived.Laws.CopyOwn
namespace Go.Proofs.Ythpnkeecpaflfaa
open Go.RowKit Go.ChangeShapes Go.WideShapes
set_option linter.unusedVariables false

theorem Ints.add {w : World} {b o : Nat} {zs : List Int} (h : ∀ (j : Nat) (x : Int), zs[j]? = some x → w.cell? ⟨b, o + j, none⟩ = some (.int .i64 x)) :
    ∀ (j : Nat) (v : Value), (zs.map (Value.int .i64))[j]? = some v → w.cell? ((⟨b, o, none⟩ : Addr).add j) = some v := fun j v hv => by
  rw [List.getElem?_map] at hv
  cases hz : zs[j]? with
  | none => rw [hz] at hv; cases hv
  | some x =>
    rw [hz] at hv
    injection hv with hv
    subst hv
    have := h j x hz
    by_cases hj : j = 0
    · subst hj
      simpa [Addr.add] using this
    · simpa [Addr.add, hj] using this
theorem ones (zs : List Int) : ∀ v ∈ zs.map (Value.int .i64), v.oneCell' = true := fun v hv => by
  obtain ⟨x, _, rfl⟩ := List.mem_map.1 hv
  rfl
theorem sz1 : (Try.prog.info? 3).map (·.size) = some 1 := by kernel_rfl

set_option maxRecDepth 100000 in
set_option maxHeartbeats 2000000 in
theorem l1Own_any (A : Option Addr) (c lo hi : Nat) (zs : List Int) (w : World) (hS : Ins w lo hi A zs) (h1 : 1 ≤ zs.length) (hn : zs.length ≤ 12) :
    Calls Try.prog 27 #[.slice A zs.length c] w fun e w' => ∃ v, e = .returned v ∧ w'.ownsRow w.heap.size 3 1 v zs.length (zs.map (Value.int .i64)) ∧ Below w.heap.size w w' := by
  obtain ⟨i0, hi0, hz0, hz1, hz2⟩ := info_parts infoI3
  obtain ⟨b, o, rfl, _, hb, hc⟩ := (hS.step ((Below.refl _ _).alloc (Nat.le_refl _) (.cells #[] 3))).ints (by omega)
  have HN := Lib.hid (Ints.add hc)
  have hown := O0_any w w.heap.size (Nat.le_refl _)
  have hO := ones zs
  have HO1 := Lib.hid hO
  clear hS hc hO
  go_enter Try.func27, Try.ntmps27
  go_wp2_with (at_builtin; refine wpList_append_own _ rfl _ _ 24 rfl w.heap.size 3 i0 (.int .i64 0) 1 8 Try.underlying24 hi0 hz0 hz1 hz2 rfl (by decide) _ _ _ rfl hown ⟨b, o, none⟩ zs.length c (zs.map (Value.int .i64)) rfl (by simp) HN.out HO1.out (by unfold maxLen; omega) (by omega) (by simp) ?_; intro v' w1 hown' hgrow _)
  have HW := Lib.hid (show w1.ownsRow w.heap.size 3 1 v' zs.length (zs.map (Value.int .i64)) from by simpa using hown')
  have HB := Lib.hid (((Below.refl w.heap.size w).alloc (Nat.le_refl _) (.cells #[] 3)).grown hgrow (by simp) (fun q hq => (hown.lt q hq).1))
  clear hown' hgrow hown
  go_wp2
  go_ret
  exact ⟨v', rfl, HW.out, HB.out⟩

end Go.Proofs.Ythpnkeecpaflfaa
