/- Slices of slices of integers that a call has made; a copy of a row. -/
import Derived.Test.YthpnkeecpaflfaaSp4c
namespace Go.Proofs.Ythpnkeecpaflfaa
open Go.RowKit Go.ChangeShapes Go.WideShapes
set_option linter.unusedVariables false

theorem infoS : (Try.prog.info? 24).map (fun i => (i.zero, i.size, i.bytes)) = some (some (.slice none 0 0), 1, 24) := by kernel_rfl
/-- The slice v of slices reads as L: its own row, and each element's, lie in blocks from B on. -/
structure Rows2 (w : World) (B : Nat) (v : Value) (L : List (List Int)) : Prop where
  ex : ∃ vs : List Value, w.ownsRow B 24 1 v L.length vs ∧ ∀ i (h : i < L.length), ∃ g c, vs[i]? = some (.slice (some ⟨g, 0, none⟩) L[i].length c) ∧ B ≤ g ∧ Own w g (g + 1) (some ⟨g, 0, none⟩) L[i]
theorem ownsRow_past {w w' : World} {B n : Nat} {v : Value} {e : TypeId} {xs : List Value} (h : w.ownsRow B e 1 v n xs) (hp : Past w.heap.size w w') : w'.ownsRow B e 1 v n xs :=
  ⟨h.1, h.2.imp id fun ⟨g, cap, cur, a, b, hg, r⟩ => ⟨g, cap, cur, a, b, (hp.block g (row_ltI hg) (row_ltI hg)).trans hg, r⟩⟩
theorem Rows2.past {w w' : World} {B : Nat} {v : Value} {L : List (List Int)} (h : Rows2 w B v L) (hp : Past w.heap.size w w') : Rows2 w' B v L := by
  obtain ⟨vs, ho, he⟩ := h.ex
  refine ⟨vs, ownsRow_past ho hp, fun i hi => ?_⟩
  obtain ⟨g, c, h1, h2, h3⟩ := he i hi
  exact ⟨g, c, h1, h2, own_same h3 (hp.block g (own_lt h3) (own_lt h3))⟩
theorem Rows2.base {w : World} {B B' : Nat} {v : Value} {L : List (List Int)} (h : Rows2 w B v L) (hb : B' ≤ B) : Rows2 w B' v L := by
  obtain ⟨vs, ho, he⟩ := h.ex
  refine ⟨vs, own_base ho hb, fun i hi => ?_⟩
  obtain ⟨g, c, h1, h2, h3⟩ := he i hi
  exact ⟨g, c, h1, Nat.le_trans hb h2, h3⟩
theorem Rows2.at_ {w : World} {B : Nat} {v : Value} {L : List (List Int)} (h : Rows2 w B v L) {i : Nat} (hi : i < L.length) :
    ∃ gb cap g c, v = .slice (some ⟨gb, 0, none⟩) L.length cap ∧ w.cell? ⟨gb, i, none⟩ = some (.slice (some ⟨g, 0, none⟩) L[i].length c) ∧ B ≤ g ∧ Own w g (g + 1) (some ⟨g, 0, none⟩) L[i] := by
  obtain ⟨vs, ho, he⟩ := h.ex
  obtain ⟨g, c, h1, h2, h3⟩ := he i hi
  rcases ho.2 with ⟨_, h0⟩ | ⟨gb, cap, cur, rfl, hb, hg, hl, hm, hs, ht⟩
  · omega
  · refine ⟨gb, cap, g, c, rfl, ?_, h2, h3⟩
    rw [row_cellI hg]
    have e : (cur.toList.take (L.length * 1))[i]? = some (.slice (some ⟨g, 0, none⟩) L[i].length c) := by rw [ht]; exact h1
    rw [List.getElem?_take_of_lt (by omega)] at e
    simpa using e
theorem Rows2.slice {w : World} {B : Nat} {v : Value} {L : List (List Int)} (h : Rows2 w B v L) : ∃ A cap, v = .slice A L.length cap := by
  obtain ⟨vs, ho, _⟩ := h.ex
  rcases ho.2 with ⟨rfl, h0⟩ | ⟨gb, cap, cur, rfl, _⟩
  · exact ⟨none, 0, by rw [h0]⟩
  · exact ⟨_, cap, rfl⟩
theorem rows2_nil (w : World) (B : Nat) (h : B ≤ w.heap.size) : Rows2 (w.alloc (.cells #[] 24)) B (.slice (some ⟨w.heap.size, 0, none⟩) 0 0) [] :=
  ⟨[], ⟨rfl, .inr ⟨w.heap.size, 0, #[], rfl, h, alloc_row w _ _, Nat.le_refl _, by decide, rfl, rfl⟩⟩, fun i hi => by cases hi⟩
theorem type_ne : 24 ≠ 3 := by decide
/-- Behind an append of a row. -/
theorem Rows2.snoc {w0 w' : World} {B g c : Nat} {v v' : Value} {L : List (List Int)} {l : List Int} {vs : List Value} (ho : w0.ownsRow B 24 1 v L.length vs)
    (he : ∀ i (h : i < L.length), ∃ g c, vs[i]? = some (.slice (some ⟨g, 0, none⟩) L[i].length c) ∧ B ≤ g ∧ Own w0 g (g + 1) (some ⟨g, 0, none⟩) L[i])
    (hap : w'.ownsRow B 24 1 v' (L.length + 1) (vs ++ [.slice (some ⟨g, 0, none⟩) l.length c])) (hg : w0.grownBy w' v.ownBlock) (hB : B ≤ g) (hl : Own w0 g (g + 1) (some ⟨g, 0, none⟩) l) : Rows2 w' B v' (L ++ [l]) := by
  have hlen : vs.length = L.length := by have := ho.1; omega
  have hkeep : ∀ (x : Nat) (z : List Int), Own w0 x (x + 1) (some ⟨x, 0, none⟩) z → Own w' x (x + 1) (some ⟨x, 0, none⟩) z := fun x z hz => by
    refine own_same hz (hg.block x (own_lt hz) (fun e => ?_))
    obtain ⟨cur, hr, _⟩ := own_at hz
    rcases ho.2 with ⟨rfl, _⟩ | ⟨gb, cap, cur2, rfl, _, hg2, _⟩
    · cases e
    · have e2 : x = gb := by injection e
      rw [e2, hg2] at hr
      injection hr with hr
      injection hr with _ ht _
      exact type_ne ht
  refine ⟨vs ++ [.slice (some ⟨g, 0, none⟩) l.length c], by simpa using hap, fun i hi => ?_⟩
  by_cases hil : i < L.length
  · obtain ⟨g1, c1, h1, h2, h3⟩ := he i hil
    refine ⟨g1, c1, ?_, h2, ?_⟩
    · rw [List.getElem?_append_left (by omega), List.getElem_append_left hil]; exact h1
    · rw [List.getElem_append_left hil]; exact hkeep _ _ h3
  · have hie : i = L.length := by simp at hi; omega
    subst hie
    refine ⟨g, c, ?_, hB, ?_⟩
    · simp [hlen]
    · simpa using hkeep _ _ hl
/-- A row of one's own that is not empty. -/
theorem own_rowS {w : World} {B n : Nat} {v : Value} {zs : List Int} (h : w.ownsRow B 3 1 v n (zs.map (Value.int .i64))) (hn : n = zs.length) (h0 : 0 < n) : ∃ g c, v = .slice (some ⟨g, 0, none⟩) zs.length c ∧ B ≤ g ∧ Own w g (g + 1) (some ⟨g, 0, none⟩) zs := by
  subst hn
  rcases h.2 with ⟨rfl, h1⟩ | ⟨g, cap, cur, rfl, hb, hg, hl, hm, hs, ht⟩
  · omega
  · refine ⟨g, cap, rfl, hb, .inr ⟨g, cur, rfl, Nat.le_refl _, Nat.lt_succ_self _, hg, by omega, fun j x hx => ?_⟩⟩
    have hj : j < zs.length := by
      rcases Nat.lt_or_ge j zs.length with h1 | h1
      · exact h1
      · rw [List.getElem?_eq_none h1] at hx; cases hx
    have e : (cur.toList.take (zs.length * 1))[j]? = some (Value.int .i64 x) := by rw [ht]; simp [hx]
    rw [List.getElem?_take_of_lt (by omega)] at e
    simpa using e
theorem he_past {w w' : World} {B : Nat} {L : List (List Int)} {vs : List Value} (he : ∀ i (h : i < L.length), ∃ g c, vs[i]? = some (.slice (some ⟨g, 0, none⟩) L[i].length c) ∧ B ≤ g ∧ Own w g (g + 1) (some ⟨g, 0, none⟩) L[i]) (hp : Past w.heap.size w w') :
    ∀ i (h : i < L.length), ∃ g c, vs[i]? = some (.slice (some ⟨g, 0, none⟩) L[i].length c) ∧ B ≤ g ∧ Own w' g (g + 1) (some ⟨g, 0, none⟩) L[i] := fun i hi => by
  obtain ⟨g, c, h1, h2, h3⟩ := he i hi
  exact ⟨g, c, h1, h2, own_same h3 (hp.block g (own_lt h3) (own_lt h3))⟩

set_option maxRecDepth 100000 in
set_option maxHeartbeats 2000000 in
theorem l1OwnS_any (g c : Nat) (zs : List Int) (w : World) (hS : Own w g (g + 1) (some ⟨g, 0, none⟩) zs) (hn : zs.length ≤ 12) :
    Calls Try.prog 27 #[.slice (some ⟨g, 0, none⟩) zs.length c] w fun e w' => ∃ v, e = .returned v ∧ w'.ownsRow w.heap.size 3 1 v zs.length (zs.map (Value.int .i64)) ∧ Below w.heap.size w w' := by
  obtain ⟨i0, hi0, hz0, hz1, hz2⟩ := info_parts infoI3
  have hS2 := own_same hS (((Below.refl _ w).alloc (Nat.le_refl _) (.cells #[] 3)).block g (own_lt hS))
  obtain ⟨cur, hrow, _, hc⟩ := own_at hS2
  have HN : Hid (∀ j u, (zs.map (Value.int .i64))[j]? = some u → (w.alloc (.cells #[] 3)).cell? ((⟨g, 0, none⟩ : Addr).add j) = some u) := Lib.hid (fun j u hu => by
    rw [List.getElem?_map] at hu
    cases hz : zs[j]? with
    | none => rw [hz] at hu; cases hu
    | some x =>
      rw [hz] at hu
      injection hu with hu
      subst hu
      have e : (⟨g, 0, none⟩ : Addr).add j = ⟨g, j, none⟩ := by
        by_cases h : j = 0
        · subst h; simp [Addr.add]
        · simp [Addr.add, h]
      rw [e, row_cellI hrow]
      exact hc j x hz)
  have hown := O0_any w w.heap.size (Nat.le_refl _)
  have HO1 := Lib.hid (ones zs)
  clear hS hS2 hrow hc
  go_enter Try.func27, Try.ntmps27
  go_wp2_with (at_builtin; refine wpList_append_own _ rfl _ _ 24 rfl w.heap.size 3 i0 (.int .i64 0) 1 8 Try.underlying24 hi0 hz0 hz1 hz2 rfl (by decide) _ _ _ rfl hown ⟨g, 0, none⟩ zs.length c (zs.map (Value.int .i64)) rfl (by simp) HN.out HO1.out (by unfold maxLen; omega) (by omega) (by simp) ?_; intro v' w1 hown' hgrow _)
  have HW := Lib.hid (show w1.ownsRow w.heap.size 3 1 v' zs.length (zs.map (Value.int .i64)) from by simpa using hown')
  have HB := Lib.hid (((Below.refl w.heap.size w).alloc (Nat.le_refl _) (.cells #[] 3)).grown hgrow (by simp) (fun q hq => (hown.lt q hq).1))
  clear hown' hgrow hown
  go_wp2
  go_ret
  exact ⟨v', rfl, HW.out, HB.out⟩
end Go.Proofs.Ythpnkeecpaflfaa
