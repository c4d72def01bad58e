/- A code that is cut: bytes of its own. -/
import Derived.Test.YtdolonmjhlhkeabDrawW
namespace Go.Proofs.Ytdolonmjhlhkeab
open Go.RowKit Go.ChangeShapes Go.WideShapes
set_option linter.unusedVariables false

theorem infoB8 : (Try.prog.info? 5).map (fun i => (i.zero, i.size, i.bytes)) = some (some (.int .u8 0), 1, 1) := by kernel_rfl
theorem code_list {w : World} {B n b o : Nat} (h : ∀ j, j < n → ∃ z : UInt8, w.cell? ⟨b, o + j, none⟩ = some (.int .u8 (z.toNat : Int))) :
    ∃ zs : List UInt8, zs.length = n ∧ ∀ (j : Nat) (x : UInt8), zs[j]? = some x → w.cell? ⟨b, o + j, none⟩ = some (.int .u8 (x.toNat : Int)) := by
  induction n with
  | zero => exact ⟨[], rfl, fun j x hx => by simp at hx⟩
  | succ n ih =>
    obtain ⟨zs, hl, hc⟩ := ih (fun j hj => h j (by omega))
    obtain ⟨z, hz⟩ := h n (by omega)
    refine ⟨zs ++ [z], by simp [hl], fun j x hx => ?_⟩
    rw [List.getElem?_append] at hx
    by_cases hj : j < zs.length
    · rw [if_pos hj] at hx; exact hc j x hx
    · rw [if_neg hj] at hx
      have : j = zs.length := by
        rcases Nat.lt_or_ge (j - zs.length) 1 with h1 | h1
        · omega
        · rw [List.getElem?_eq_none (by simpa using h1)] at hx; cases hx
      subst this
      simp at hx
      subst hx
      rw [hl]; exact hz
theorem ownsRow_code {w : World} {B n : Nat} {v : Value} {bs : List UInt8} (h : w.ownsRow B 5 1 v n (bs.map fun x => Value.int .u8 (x.toNat : Int))) :
    ∃ A c, v = .slice A n c ∧ n ≤ c ∧ Code w w.heap.size A n := by
  have hl : n = bs.length := by have := h.1; simpa using this.symm
  rcases h.2 with ⟨rfl, h0⟩ | ⟨g, cap, cur, rfl, _, hg, hnc, _, _, ht⟩
  · exact ⟨none, 0, by rw [h0], by omega, fun hp => absurd hp (by omega)⟩
  · refine ⟨_, cap, rfl, hnc, fun _ => ⟨g, 0, rfl, row_ltI hg, fun j hj => ⟨bs[j]'(by omega), ?_⟩⟩⟩
    rw [row_cellI hg, Nat.zero_add]
    have e : (cur.toList.take (n * 1))[j]? = some (Value.int .u8 ((bs[j]'(by omega)).toNat : Int)) := by
      rw [ht]
      have : j < bs.length := by omega
      simp [this]
    rw [List.getElem?_take_of_lt (by omega)] at e
    simpa using e
theorem O0B_any (w : World) (B : Nat) (h : B ≤ w.heap.size) : (w.alloc (.cells #[] 5)).ownsRow B 5 1 (.slice (some ⟨w.heap.size, 0, none⟩) 0 0) 0 [] :=
  World.ownsRow_lit w (e := 5) (size := 1) (base := B) #[] 0 h (by unfold maxLen; omega) rfl
theorem below_own {w w1 : World} {B n : Nat} {v : Value} {xs : List Value} {e : TypeId} (ho : w.ownsRow B e 1 v n xs) (hg : w.grownBy w1 v.ownBlock) {C : Nat} (hC : C ≤ B) (hs : C ≤ w.heap.size) : Below C w w1 :=
  ⟨hg.os, hg.tape, hg.output, hg.size, fun j hj => hg.block j (by omega) (fun e' => by have := ho.lt j e'.symm; omega)⟩
/-- The cut code: bytes of its own, as many as there were, one at least. -/
def CutTo (w : World) (n : Nat) (e : Ending) (w' : World) : Prop := ∃ A' c', e = .returned (.slice A' n c') ∧ n ≤ c' ∧ Code w' w'.heap.size A' n ∧ Below w.heap.size w w'
set_option maxRecDepth 100000 in
set_option maxHeartbeats 4000000 in
theorem vCut_many (b o n c : Nat) (w : World) (hc : ∀ j, j < n → ∃ z : UInt8, w.cell? ⟨b, o + j, none⟩ = some (.int .u8 (z.toNat : Int))) (h1 : 2 ≤ n) (hn : n ≤ 65536) (hcap : n ≤ c) (hcm : c ≤ maxLen) :
    Calls Try.prog 17 #[.slice (some ⟨b, o, none⟩) n c, .int .i64 1] w (CutTo w n) := by
  obtain ⟨m, rfl⟩ : ∃ m, n = m + 1 := ⟨n - 1, by omega⟩
  obtain ⟨d, rfl⟩ : ∃ d, c = d + 1 := ⟨c - 1, by omega⟩
  obtain ⟨zs, hzl, hzc⟩ := code_list (B := 0) (b := b) (o := o + 1) (n := m) (w := w) (fun j hj => by
    obtain ⟨z, hz⟩ := hc (j + 1) (by omega)
    exact ⟨z, by rw [show o + 1 + j = o + (j + 1) by omega]; exact hz⟩)
  have hbl : b < w.heap.size := by
    obtain ⟨z, hz⟩ := hc 0 (by omega)
    rcases Nat.lt_or_ge b w.heap.size with h | h
    · exact h
    · simp [World.cell?, Array.getElem?_eq_none h] at hz
  unfold maxLen at hcm
  obtain ⟨i0, hi0, hy0, hy1, hy2⟩ := info_parts infoB8
  have HO0 := Lib.hid (O0B_any w w.heap.size (Nat.le_refl _))
  have HN : Hid (∀ (j : Nat) (u : Value), (zs.map fun x => Value.int .u8 (x.toNat : Int))[j]? = some u → (w.alloc (.cells #[] 5)).cell? ((⟨b, o + 1, none⟩ : Addr).add j) = some u) := fun j u hu => by
    rw [List.getElem?_map] at hu
    cases hz : zs[j]? with
    | none => rw [hz] at hu; cases hu
    | some x =>
      rw [hz] at hu
      injection hu with hu
      subst hu
      have h0 := hzc j x hz
      have ea : ((⟨b, o + 1, none⟩ : Addr).add j) = ⟨b, o + 1 + j, none⟩ := by
        unfold Addr.add
        split
        · rename_i hj; rw [hj]
        · rfl
      rw [ea, World.cell?_alloc_lt w _ ⟨b, o + 1 + j, none⟩ hbl]
      exact h0
  have hm1 : ¬ ((m : Int) + 1) < 1 := by omega
  have hm0 : 0 < m := by omega
  have hd0 : 0 < d := by omega
  clear hc hzc
  go_enter Try.func17, Try.ntmps17
  go_wp2_with (first
    | (at_builtin; refine wpList_append_own _ rfl _ _ 22 rfl w.heap.size 5 i0 (.int .u8 0) 1 1 Try.underlying22 hi0 hy0 hy1 hy2 rfl (by decide) _ _ _ rfl HO0.out ⟨b, o + 1, none⟩ m d (zs.map fun x => Value.int .u8 (x.toNat : Int)) rfl (by simpa using hzl) HN.out (by intro u hu; obtain ⟨x, _, rfl⟩ := List.mem_map.1 hu; rfl) (by unfold maxLen; omega) (by omega) (by simp) ?_; intro v1 w1 hown1 hgrow1 hnil1; have HO1 : Hid (w1.ownsRow w.heap.size 5 1 v1 m (zs.map fun x => Value.int .u8 (x.toNat : Int))) := (by simpa using hown1 : w1.ownsRow w.heap.size 5 1 v1 m (zs.map fun x => Value.int .u8 (x.toNat : Int))); obtain ⟨A1, c1, hv1, hm1c, _⟩ := ownsRow_code HO1.out; subst hv1; have HB1 := Lib.hid (((Below.refl w.heap.size w).alloc (Nat.le_refl _) (.cells #[] 5)).trans (below_own HO0.out hgrow1 (Nat.le_refl _) (by simp))); have hs1 := HB1.out.size; clear hown1 hgrow1 hnil1)
    | (at_builtin; have hX := HO1.out; have hY := hX.alloc (.cells #[.int .u8 1] 5); have hZ := cell_one_new w1 (.int .u8 1) 5; refine wpList_append_own (w1.alloc (.cells #[.int .u8 1] 5)) rfl _ _ 22 rfl w.heap.size 5 i0 (.int .u8 0) 1 1 Try.underlying22 hi0 hy0 hy1 hy2 rfl (by decide) (.slice A1 m c1) m (zs.map fun x => Value.int .u8 (x.toNat : Int)) rfl hY ⟨w1.heap.size, 0, none⟩ 1 1 [.int .u8 1] rfl rfl hZ (by simp [Value.oneCell']) (by unfold maxLen; omega) (by omega) (by simp; omega) ?_; intro v2 w2 hown2 hgrow2 hnil2))
  have HB2 := (HB1.out.alloc HB1.out.size (.cells #[.int .u8 1] 5)).trans (below_own hY hgrow2 (Nat.le_refl _) (by simp; omega))
  have e2 : zs.map (fun (x : UInt8) => Value.int .u8 (x.toNat : Int)) ++ [Value.int .u8 1] = (zs ++ [(1 : UInt8)]).map fun (x : UInt8) => Value.int .u8 (x.toNat : Int) := by rw [List.map_append]; rfl
  rw [e2] at hown2
  obtain ⟨A', c', hv, hle, hcode⟩ := ownsRow_code hown2
  subst hv
  clear hown2 hgrow2 hnil2 hX hY hZ e2
  go_ret
  exact ⟨A', c', rfl, hle, hcode, HB2⟩
/-- The cut code where nothing is left but the mark. -/
def Cut1 (w : World) (e : Ending) (w' : World) : Prop := ∃ A' c', e = .returned (.slice A' 1 c') ∧ 1 ≤ c' ∧ Code w' w'.heap.size A' 1 ∧ Below w.heap.size w w'
theorem cut1_end {w w2 : World} {K : UInt8} {v2 : Value} (hY : ((w.alloc (.cells #[] 5)).alloc (.cells #[.int .u8 (K.toNat : Int)] 5)).ownsRow w.heap.size 5 1 (.slice (some ⟨w.heap.size, 0, none⟩) 0 0) 0 [])
    (hown2 : w2.ownsRow w.heap.size 5 1 v2 (0 + 1) ([] ++ [.int .u8 (K.toNat : Int)])) (hgrow2 : ((w.alloc (.cells #[] 5)).alloc (.cells #[.int .u8 (K.toNat : Int)] 5)).grownBy w2 (Value.slice (some ⟨w.heap.size, 0, none⟩) 0 0).ownBlock) :
    ∃ A' c', v2 = .slice A' 1 c' ∧ 1 ≤ c' ∧ Code w2 w2.heap.size A' 1 ∧ Below w.heap.size w w2 := by
  have h : w2.ownsRow w.heap.size 5 1 v2 1 ([K].map fun (x : UInt8) => Value.int .u8 (x.toNat : Int)) := by simpa using hown2
  obtain ⟨A', c', hv, hle, hcode⟩ := ownsRow_code h
  have B1 := (Below.refl w.heap.size w).alloc (Nat.le_refl _) (.cells #[] 5)
  have B2 := B1.alloc B1.size (.cells #[.int .u8 (K.toNat : Int)] 5)
  exact ⟨A', c', hv, hle, hcode, B2.trans (below_own hY hgrow2 (Nat.le_refl _) B2.size)⟩
set_option maxRecDepth 100000 in
set_option maxHeartbeats 4000000 in
theorem vCut_one (b o c : Nat) (w : World) (hcap : 1 ≤ c) (hcm : c ≤ maxLen) :
    Calls Try.prog 17 #[.slice (some ⟨b, o, none⟩) 1 c, .int .i64 1] w (Cut1 w) := by
  unfold maxLen at hcm
  obtain ⟨i0, hi0, hy0, hy1, hy2⟩ := info_parts infoB8
  have HY := Lib.hid ((O0B_any w w.heap.size (Nat.le_refl _)).alloc (.cells #[.int .u8 ((1 : UInt8).toNat : Int)] 5))
  have HZ := Lib.hid (cell_one_new (w.alloc (.cells #[] 5)) (.int .u8 ((1 : UInt8).toNat : Int)) 5)
  rw [show (w.alloc (.cells #[] 5)).heap.size = w.heap.size + 1 by simp] at HZ
  by_cases hc1 : c = 1
  · subst hc1
    go_enter Try.func17, Try.ntmps17
    go_wp2_with (at_builtin; refine wpList_append_own ((w.alloc (.cells #[] 5)).alloc (.cells #[.int .u8 ((1 : UInt8).toNat : Int)] 5)) rfl _ _ 22 rfl w.heap.size 5 i0 (.int .u8 0) 1 1 Try.underlying22 hi0 hy0 hy1 hy2 rfl (by decide) (.slice (some ⟨w.heap.size, 0, none⟩) 0 0) 0 [] rfl HY.out ⟨w.heap.size + 1, 0, none⟩ 1 1 [.int .u8 ((1 : UInt8).toNat : Int)] rfl rfl HZ.out (by simp [Value.oneCell']) (by unfold maxLen; omega) (by omega) (by simp; omega) ?_; intro v2 w2 hown2 hgrow2 hnil2)
    obtain ⟨A', c', hv, h1, h2, h3⟩ := cut1_end HY.out hown2 hgrow2
    subst hv
    clear hown2 hgrow2 hnil2 HY HZ
    go_ret
    exact ⟨A', c', rfl, h1, h2, h3⟩
  · have hc2 : 1 < c := by omega
    go_enter Try.func17, Try.ntmps17
    go_wp2_with (at_builtin; refine wpList_append_own ((w.alloc (.cells #[] 5)).alloc (.cells #[.int .u8 ((1 : UInt8).toNat : Int)] 5)) rfl _ _ 22 rfl w.heap.size 5 i0 (.int .u8 0) 1 1 Try.underlying22 hi0 hy0 hy1 hy2 rfl (by decide) (.slice (some ⟨w.heap.size, 0, none⟩) 0 0) 0 [] rfl HY.out ⟨w.heap.size + 1, 0, none⟩ 1 1 [.int .u8 ((1 : UInt8).toNat : Int)] rfl rfl HZ.out (by simp [Value.oneCell']) (by unfold maxLen; omega) (by omega) (by simp; omega) ?_; intro v2 w2 hown2 hgrow2 hnil2)
    obtain ⟨A', c', hv, h1, h2, h3⟩ := cut1_end HY.out hown2 hgrow2
    subst hv
    clear hown2 hgrow2 hnil2 HY HZ
    go_ret
    exact ⟨A', c', rfl, h1, h2, h3⟩
set_option maxRecDepth 100000 in
set_option maxHeartbeats 4000000 in
theorem vCut_none (A : Option Addr) (c : Nat) (w : World) (hcm : c ≤ maxLen) (hA : A = none → c = 0) (hs : ∀ a, A = some a → a.spot = none) :
    Calls Try.prog 17 #[.slice A 0 c, .int .i64 1] w (Cut1 w) := by
  unfold maxLen at hcm
  obtain ⟨i0, hi0, hy0, hy1, hy2⟩ := info_parts infoB8
  have HY := Lib.hid ((O0B_any w w.heap.size (Nat.le_refl _)).alloc (.cells #[.int .u8 ((0 : UInt8).toNat : Int)] 5))
  have HZ := Lib.hid (cell_one_new (w.alloc (.cells #[] 5)) (.int .u8 ((0 : UInt8).toNat : Int)) 5)
  rw [show (w.alloc (.cells #[] 5)).heap.size = w.heap.size + 1 by simp] at HZ
  cases A with
  | none =>
    obtain rfl := hA rfl
    clear hA hs
    go_enter Try.func17, Try.ntmps17
    go_wp2_with (at_builtin; refine wpList_append_own ((w.alloc (.cells #[] 5)).alloc (.cells #[.int .u8 ((0 : UInt8).toNat : Int)] 5)) rfl _ _ 22 rfl w.heap.size 5 i0 (.int .u8 0) 1 1 Try.underlying22 hi0 hy0 hy1 hy2 rfl (by decide) (.slice (some ⟨w.heap.size, 0, none⟩) 0 0) 0 [] rfl HY.out ⟨w.heap.size + 1, 0, none⟩ 1 1 [.int .u8 ((0 : UInt8).toNat : Int)] rfl rfl HZ.out (by simp [Value.oneCell']) (by unfold maxLen; omega) (by omega) (by simp; omega) ?_; intro v2 w2 hown2 hgrow2 hnil2)
    obtain ⟨A', c', hv, h1, h2, h3⟩ := cut1_end HY.out hown2 hgrow2
    subst hv
    clear hown2 hgrow2 hnil2 HY HZ
    go_ret
    exact ⟨A', c', rfl, h1, h2, h3⟩
  | some a =>
    obtain ⟨b, o, spot⟩ := a
    obtain rfl : spot = none := hs _ rfl
    clear hA hs
    go_enter Try.func17, Try.ntmps17
    go_wp2_with (at_builtin; refine wpList_append_own ((w.alloc (.cells #[] 5)).alloc (.cells #[.int .u8 ((0 : UInt8).toNat : Int)] 5)) rfl _ _ 22 rfl w.heap.size 5 i0 (.int .u8 0) 1 1 Try.underlying22 hi0 hy0 hy1 hy2 rfl (by decide) (.slice (some ⟨w.heap.size, 0, none⟩) 0 0) 0 [] rfl HY.out ⟨w.heap.size + 1, 0, none⟩ 1 1 [.int .u8 ((0 : UInt8).toNat : Int)] rfl rfl HZ.out (by simp [Value.oneCell']) (by unfold maxLen; omega) (by omega) (by simp; omega) ?_; intro v2 w2 hown2 hgrow2 hnil2)
    all_goals
      obtain ⟨A', c', hv, h1, h2, h3⟩ := cut1_end HY.out hown2 hgrow2
      subst hv
      clear hown2 hgrow2 hnil2 HY HZ
      go_ret
      exact ⟨A', c', rfl, h1, h2, h3⟩
end Go.Proofs.Ytdolonmjhlhkeab
