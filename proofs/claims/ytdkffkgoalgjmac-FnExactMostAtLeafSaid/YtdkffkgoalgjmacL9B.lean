/- Trees of questions: branches that are told, in order. -/
import Derived.Test.YtdkffkgoalgjmacL9A
import Derived.Deep.AppendLies
import Derived.Deep.RegionLaw
import Derived.StillTail
namespace Go.Proofs.Ytdkffkgoalgjmac
open Go.RowKit Go.ChangeShapes Go.WideShapes
set_option linter.unusedVariables false

/-- A row of nodes of one's own: its cells. -/
theorem owns_rowN {w : World} {B g n cap : Nat} {l : List (Int × Int × Int)} (h : w.ownsRow B 125 3 (.slice (some ⟨g, 0, none⟩) n cap) n (cellsN l)) : n = l.length ∧ B ≤ g ∧ g < w.heap.size ∧ (∀ k i, k < n → i < 3 → (∃ u, w.cell? ⟨g, k * 3 + i, none⟩ = some u)) ∧ ∀ i, w.frozen? ⟨g, i, none⟩ = false := by
  have hl := h.1
  rw [cellsN_len] at hl
  rcases h.2 with ⟨e, _⟩ | ⟨g', cap', cur, e, hb, hg, hle, hm, hs, ht⟩
  · cases e
  · injection e with e1 e2 e3
    injection e1 with e1
    injection e1 with e1
    subst e1 e3
    refine ⟨by omega, hb, row_ltI hg, fun k i hk hi => ?_, fun i => row_freeI hg i⟩
    rw [row_cellI hg]
    exact ⟨_, Array.getElem?_eq_getElem (by omega)⟩
theorem owns_setN {w : World} {B g n cap k : Nat} {l : List (Int × Int × Int)} (h : w.ownsRow B 125 3 (.slice (some ⟨g, 0, none⟩) n cap) n (cellsN l)) (hk : k < l.length) (x : Int × Int × Int) :
    (((w.setCell ⟨g, k * 3, none⟩ (.int .i64 x.1)).setCell ⟨g, k * 3 + 1, none⟩ (.int .i64 x.2.1)).setCell ⟨g, k * 3 + 2, none⟩ (.int .i64 x.2.2)).ownsRow B 125 3 (.slice (some ⟨g, 0, none⟩) n cap) n (cellsN (l.set k x)) := by
  have hl := h.1
  rw [cellsN_len] at hl
  refine ⟨by rw [cellsN_len, List.length_set]; exact hl, ?_⟩
  rcases h.2 with ⟨e, _⟩ | ⟨g', cap', cur, e, hb, hg, hle, hm, hs, ht⟩
  · cases e
  · injection e with e1 e2 e3
    injection e1 with e1
    injection e1 with e1
    subst e1 e3
    refine .inr ⟨g, cap, _, rfl, hb, row_setI (row_setI (row_setI hg _ _) _ _) _ _, hle, hm, by simp only [Array.size_setIfInBounds]; exact hs, ?_⟩
    simp only [Array.toList_setIfInBounds, List.take_set]
    rw [ht]
    exact cellsN_set l k x hk
theorem within_set3 {g i : Nat} (w : World) (x y z : Value) : Within g (g + 1) w (((w.setCell ⟨g, i, none⟩ x).setCell ⟨g, i + 1, none⟩ y).setCell ⟨g, i + 2, none⟩ z) :=
  within_set (within_set (within_set (Within.refl _ _ w) (Nat.le_refl _) (Nat.lt_succ_self _) _ _) (Nat.le_refl _) (Nat.lt_succ_self _) _ _) (Nat.le_refl _) (Nat.lt_succ_self _) _ _
theorem one_ne {w : World} {a b : Nat} {x y : Value} {s t : TypeId} (h1 : One w a x s) (h2 : One w b y t) (hne : s ≠ t) : a ≠ b := by
  rintro rfl
  have e := h1.row.symm.trans h2.row
  injection e with e
  injection e with _ e3
  exact hne e3
theorem row_oneN {sz : Nat} {w w' : World} {B n b : Nat} {v x : Value} {e T : TypeId} {xs : List Value} (h : w.ownsRow B e sz v n xs) (t : One w b x T) (hne : e ≠ T) (hw : Within b (b + 1) w w') : w'.ownsRow B e sz v n xs :=
  ⟨h.1, h.2.imp id fun ⟨g, cap, cur, a, b', hg, r⟩ => ⟨g, cap, cur, a, b', (hw.block g (row_ltI hg) (by
    have : g ≠ b := by
      rintro rfl
      have e2 := hg.symm.trans t.row
      injection e2 with e2
      injection e2 with _ e3
      exact hne e3
    omega)).trans hg, r⟩⟩
theorem grown_one9 {sz : Nat} {w w' : World} {B n b : Nat} {v x : Value} {e T : TypeId} {xs : List Value} (h : w.ownsRow B e sz v n xs) (t : One w b x T) (hne : e ≠ T) (hg : w.grownBy w' v.ownBlock) : One w' b x T :=
  ⟨(hg.block b t.lt (grown_ne8 h t.row hne)).trans t.row⟩
/-- The row that is being told, in a variable, beside the function that tells. -/
structure Telling (w : World) (B gn gt : Nat) (V : Value) (L : List (Int × Int × Int)) : Prop where
  var : One w gn V 31
  row : w.ownsRow B 125 3 V L.length (cellsN L)
  fn : One w gt (.func (.func 169) #[] #[.pointer (some ⟨gn, 0, none⟩), .pointer (some ⟨gt, 0, none⟩)]) 164
  ln : B ≤ gn
  lt : B ≤ gt
  lb : B ≤ w.heap.size
theorem Telling.step {w w' : World} {B gn gt : Nat} {V : Value} {L : List (Int × Int × Int)} (h : Telling w B gn gt V L) (hb : Below w.heap.size w w') : Telling w' B gn gt V L :=
  ⟨h.var.step hb, past8 h.row (Past.of_below hb), h.fn.step hb, h.ln, h.lt, Nat.le_trans h.lb hb.size⟩
/-- Behind an append of one node, and its store into the variable. -/
theorem Telling.grown {w w1 w2 : World} {B gn gt : Nat} {V V' : Value} {L : List (Int × Int × Int)} {x : Int × Int × Int} {o : Obj} (h : Telling w B gn gt V L) (hg : (w.alloc o).grownBy w1 V.ownBlock)
    (hown : w1.ownsRow B 125 3 V' (L.length + 1) (cellsN L ++ [Value.int .i64 x.1, Value.int .i64 x.2.1, Value.int .i64 x.2.2])) (hw2 : w2 = w1.setCell ⟨gn, 0, none⟩ V') : Telling w2 B gn gt V' (L ++ [x]) ∧ Past B w w2 := by
  have ha := h.step ((Below.refl _ w).alloc (Nat.le_refl _) o)
  have hv := grown_one9 ha.row ha.var (by decide) hg
  have hf := grown_one9 ha.row ha.fn (by decide) hg
  obtain ⟨hs, hw⟩ := stored1 hv V'
  rw [← hw2] at hs hw
  have hne := one_ne hv hf (by decide)
  refine ⟨⟨hs, row_oneN (nds_snoc hown rfl) hv (by decide) hw, hf.within hw (by omega), h.ln, h.lt, Nat.le_trans h.lb (Nat.le_trans (by simp : w.heap.size ≤ (w.alloc o).heap.size) (Nat.le_trans hg.size hw.size))⟩, ?_⟩
  exact (pastGrown8 h.row hg).trans (Past.of_within hw h.ln)
theorem Telling.set {w w2 : World} {B gn gt g n cap k : Nat} {L : List (Int × Int × Int)} (h : Telling w B gn gt (.slice (some ⟨g, 0, none⟩) n cap) L) (hk : k < L.length) (x : Int × Int × Int)
    (hw2 : w2 = ((w.setCell ⟨g, k * 3, none⟩ (.int .i64 x.1)).setCell ⟨g, k * 3 + 1, none⟩ (.int .i64 x.2.1)).setCell ⟨g, k * 3 + 2, none⟩ (.int .i64 x.2.2)) : Telling w2 B gn gt (.slice (some ⟨g, 0, none⟩) n cap) (L.set k x) ∧ Past B w w2 := by
  have hn : n = L.length := by
    have h1 := h.row.2
    rcases h1 with ⟨e, _⟩ | ⟨g', cap', cur, e, _⟩
    · cases e
    · injection e
  have hrow := h.row
  rw [← hn] at hrow
  have hr := owns_rowN hrow
  have hw : Within g (g + 1) w w2 := by rw [hw2]; exact within_set3 w _ _ _
  have h1 : g ≠ gn := by
    rintro rfl
    exact grown_ne8 h.row h.var.row (by decide) rfl
  have h2 : g ≠ gt := by
    rintro rfl
    exact grown_ne8 h.row h.fn.row (by decide) rfl
  have hs := owns_setN hrow hk x
  rw [← hw2] at hs
  refine ⟨⟨h.var.within hw (by omega), by rw [List.length_set, ← hn]; exact hs, h.fn.within hw (by omega), h.ln, h.lt, Nat.le_trans h.lb hw.size⟩, Past.of_within hw hr.2.1⟩
theorem told_list (L : List (Int × Int × Int)) (q : Int) (y m : T9) : (((L ++ [lf9]) ++ tell9 y (L.length + 1)) ++ tell9 m (L.length + 1 + y.size)).set L.length (q, ((L.length + 1 : Nat) : Int), ((L.length + 1 + y.size : Nat) : Int)) = L ++ tell9 (.br q y m) L.length := by
  simp only [tell9]
  rw [List.append_assoc, List.append_assoc, List.set_append_right _ _ (Nat.le_refl _), Nat.sub_self]
  rfl

theorem Telling.some {w : World} {B gn gt : Nat} {V : Value} {L : List (Int × Int × Int)} (h : Telling w B gn gt V L) (hl : 0 < L.length) : ∃ g cap, V = .slice (some ⟨g, 0, none⟩) L.length cap := by
  rcases h.row.2 with ⟨_, h0⟩ | ⟨g, cap, cur, e, _⟩
  · omega
  · exact ⟨g, cap, e⟩
/-- The cells of what stands for an inner node. -/
structure Nd3p (w : World) (b : Nat) (x y z : Value) : Prop where
  c0 : w.cell? ⟨b, 0, none⟩ = some x
  c1 : w.cell? ⟨b, 1, none⟩ = some y
  c2 : w.cell? ⟨b, 2, none⟩ = some z
theorem Nd3p.past {w w' : World} {B b : Nat} {x y z : Value} (h : Nd3p w b x y z) (hp : Past B w w') (hb : b < B) : Nd3p w' b x y z :=
  ⟨cell_past hp h.c0 hb, cell_past hp h.c1 hb, cell_past hp h.c2 hb⟩
set_option maxRecDepth 100000 in
set_option maxHeartbeats 16000000 in
theorem tell9_any : ∀ (t : T9) (v : Option Addr) (w : World) (B gn gt hi : Nat) (V : Value) (L : List (Int × Int × Int)), Telling w B gn gt V L → BrI w hi t v → hi ≤ B → L.length + t.size ≤ 127 →
    Calls Try.prog 169 #[.pointer v, .pointer (some ⟨gn, 0, none⟩), .pointer (some ⟨gt, 0, none⟩)] w fun e w' => ∃ V', e = .returned (.int .i64 (L.length : Int)) ∧ Telling w' B gn gt V' (L ++ tell9 t L.length) ∧ Past B w w'
  | .leaf, v, w, B, gn, gt, hi, V, L, hT, hB, hh, hL => by
    obtain ⟨A, c, rfl⟩ := ownsRow_slice8 hT.row
    have hv : v = none := hB.br
    subst hv
    have HT := Lib.hid hT
    have HLf := Lib.hid (fun W => leafNode_any W)
    obtain ⟨i0, hi0, hz0, hz1, hz2⟩ := info_parts infoN
    have hcn := hT.var.c0
    have hL2 : L.length ≤ 126 := by simp only [T9.size] at hL; omega
    have hbB := hT.lb
    clear hT hB hL
    go_enter Try.func169, Try.ntmps169
    go_wp2_with fail
    have hcd : w.drew.cell? ⟨gn, 0, none⟩ = some (.slice A L.length c) := (HT.out.step (Below.refl _ w).drew).var.c0
    go_region_law (first
      | (go_simp; go_at_call 157; (with_reducible refine (HLf.out w.drew).mono ?_); rintro e v1 ⟨rfl, hb⟩; have HZ1 := Lib.hid (below_trans (Below.refl _ w).drew hb); have HT1 := Lib.hid (HT.out.step HZ1.out); have hc1 := HT1.out.var.c0; have hf1 := HT1.out.var.f0; have hgn1 := HT1.out.var.lt; clear hb)
      | (refine step_append_lies _ rfl (.tmp 10) (.tmp 12) 31 rfl B 125 i0 (.agg #[.int .i64 0, .int .i64 0, .int .i64 0]) 3 24 Try.underlying31 hi0 hz0 hz1 hz2 rfl (by decide) (.slice A L.length c) L.length (cellsN L) rfl (HT1.out.row.alloc _) ⟨v1.heap.size, 0, none⟩ 1 1 [.int .i64 (-1), .int .i64 (-1), .int .i64 (-1)] rfl rfl (cell_three_new _ _ _ _ _) (cellsN_one [lf9]) (by decide) (by unfold maxLen; omega) (by omega) (Nat.le_trans HT1.out.lb (Nat.le_of_lt (by simp))) _ rfl ?_; intro g cap w3 hown hgrow hat hlt3; have HG := Lib.hid (fun w2 hw2 => HT1.out.grown (x := lf9) (w2 := w2) hgrow hown hw2); have hc3 := (grown_one9 (HT1.out.step ((Below.refl _ v1).alloc (Nat.le_refl _) (.cells #[.int .i64 (-1), .int .i64 (-1), .int .i64 (-1)] 125))).row (HT1.out.step ((Below.refl _ v1).alloc (Nat.le_refl _) (.cells #[.int .i64 (-1), .int .i64 (-1), .int .i64 (-1)] 125))).var (by decide) hgrow).c0; have hf3 := (grown_one9 (HT1.out.step ((Below.refl _ v1).alloc (Nat.le_refl _) (.cells #[.int .i64 (-1), .int .i64 (-1), .int .i64 (-1)] 125))).row (HT1.out.step ((Below.refl _ v1).alloc (Nat.le_refl _) (.cells #[.int .i64 (-1), .int .i64 (-1), .int .i64 (-1)] 125))).var (by decide) hgrow).f0; clear hown hgrow hat hlt3))
    all_goals
      obtain ⟨hG1, hG2⟩ := HG.out _ rfl
      have HG1 := Lib.hid hG1
      have HG2 := Lib.hid (Past.trans (Past.of_below (B := B) (by have h9 := HZ1.out; exact h9)) hG2)
      clear hG1 hG2
      go_wp2
      go_ret
      exact ⟨_, rfl, HG1.out, HG2.out⟩
  | .br q y m, v, w, B, gn, gt, hi, V, L, hT, hB, hh, hL => by
    obtain ⟨A, c, rfl⟩ := ownsRow_slice8 hT.row
    obtain ⟨bb, vy, vm, rfl, hbb, k0, k1, k2, hbry, hbrm⟩ := hB.br
    have htop := hB.top
    have HT := Lib.hid hT
    have HLf := Lib.hid (fun W => leafNode_any W)
    obtain ⟨i0, hi0, hz0, hz1, hz2⟩ := info_parts infoN
    have hcn := hT.var.c0
    have hys := y.size_pos
    have hms := m.size_pos
    have hL1 : L.length + 1 + y.size + m.size ≤ 127 := by simp only [T9.size] at hL; omega
    have hL2 : L.length ≤ 126 := by omega
    have hbB := hT.lb
    have HBY : Hid (BrI w hi y vy) := Lib.hid ⟨hbry, htop⟩
    have HBM : Hid (BrI w hi m vm) := Lib.hid ⟨hbrm, htop⟩
    have HK := Lib.hid (show Nd3p w bb (.int .i64 q) (.pointer vy) (.pointer vm) from ⟨k0, k1, k2⟩)
    have IHy := Lib.hid (fun (W : World) V' L' h1 h2 h3 h4 (N : Int) (hN : N = (L'.length : Int)) => by rw [hN]; exact tell9_any y vy W B gn gt hi V' L' h1 h2 h3 h4 : ∀ (W : World) (V' : Value) (L' : List (Int × Int × Int)), Telling W B gn gt V' L' → BrI W hi y vy → hi ≤ B → L'.length + y.size ≤ 127 → ∀ (N : Int), N = (L'.length : Int) → Calls Try.prog 169 #[.pointer vy, .pointer (some ⟨gn, 0, none⟩), .pointer (some ⟨gt, 0, none⟩)] W fun e w' => ∃ V'', e = .returned (.int .i64 N) ∧ Telling w' B gn gt V'' (L' ++ tell9 y L'.length) ∧ Past B W w')
    have IHm := Lib.hid (fun (W : World) V' L' h1 h2 h3 h4 (N : Int) (hN : N = (L'.length : Int)) => by rw [hN]; exact tell9_any m vm W B gn gt hi V' L' h1 h2 h3 h4 : ∀ (W : World) (V' : Value) (L' : List (Int × Int × Int)), Telling W B gn gt V' L' → BrI W hi m vm → hi ≤ B → L'.length + m.size ≤ 127 → ∀ (N : Int), N = (L'.length : Int) → Calls Try.prog 169 #[.pointer vm, .pointer (some ⟨gn, 0, none⟩), .pointer (some ⟨gt, 0, none⟩)] W fun e w' => ∃ V'', e = .returned (.int .i64 N) ∧ Telling w' B gn gt V'' (L' ++ tell9 m L'.length) ∧ Past B W w')
    obtain ⟨N1, hN1⟩ : ∃ N1 : Int, N1 = ((L.length + 1 : Nat) : Int) := ⟨_, rfl⟩
    obtain ⟨N2, hN2⟩ : ∃ N2 : Int, N2 = ((L.length + 1 + y.size : Nat) : Int) := ⟨_, rfl⟩
    generalize hR : L ++ tell9 (.br q y m) L.length = R
    have HR := Lib.hid hR
    clear hR
    have HN1 := Lib.hid hN1
    have HN2 := Lib.hid hN2
    clear hN1 hN2
    clear hT hB hL hbry hbrm k0 k1 k2
    go_enter Try.func169, Try.ntmps169
    go_wp2_with fail
    have hcd : w.drew.cell? ⟨gn, 0, none⟩ = some (.slice A L.length c) := (HT.out.step (Below.refl _ w).drew).var.c0
    go_region_law (first
      | (go_simp; go_at_call 157; (with_reducible refine (HLf.out w.drew).mono ?_); rintro e v1 ⟨rfl, hb⟩; have HZ1 := Lib.hid (below_trans (Below.refl _ w).drew hb); have HT1 := Lib.hid (HT.out.step HZ1.out); have hc1 := HT1.out.var.c0; have hf1 := HT1.out.var.f0; have hgn1 := HT1.out.var.lt; clear hb)
      | (refine step_append_lies _ rfl (.tmp 10) (.tmp 12) 31 rfl B 125 i0 (.agg #[.int .i64 0, .int .i64 0, .int .i64 0]) 3 24 Try.underlying31 hi0 hz0 hz1 hz2 rfl (by decide) (.slice A L.length c) L.length (cellsN L) rfl (HT1.out.row.alloc _) ⟨v1.heap.size, 0, none⟩ 1 1 [.int .i64 (-1), .int .i64 (-1), .int .i64 (-1)] rfl rfl (cell_three_new _ _ _ _ _) (cellsN_one [lf9]) (by decide) (by unfold maxLen; omega) (by omega) (Nat.le_trans HT1.out.lb (Nat.le_of_lt (by simp))) _ rfl ?_; intro g cap w3 hown hgrow hat hlt3; have HG := Lib.hid (fun w2 hw2 => HT1.out.grown (x := lf9) (w2 := w2) hgrow hown hw2); have hc3 := (grown_one9 (HT1.out.step ((Below.refl _ v1).alloc (Nat.le_refl _) (.cells #[.int .i64 (-1), .int .i64 (-1), .int .i64 (-1)] 125))).row (HT1.out.step ((Below.refl _ v1).alloc (Nat.le_refl _) (.cells #[.int .i64 (-1), .int .i64 (-1), .int .i64 (-1)] 125))).var (by decide) hgrow).c0; have hf3 := (grown_one9 (HT1.out.step ((Below.refl _ v1).alloc (Nat.le_refl _) (.cells #[.int .i64 (-1), .int .i64 (-1), .int .i64 (-1)] 125))).row (HT1.out.step ((Below.refl _ v1).alloc (Nat.le_refl _) (.cells #[.int .i64 (-1), .int .i64 (-1), .int .i64 (-1)] 125))).var (by decide) hgrow).f0; clear hown hgrow hat hlt3))
    all_goals
      obtain ⟨hG1, hG2⟩ := HG.out _ rfl
      have HG1 := Lib.hid hG1
      have HP1 := Lib.hid (Past.trans (Past.of_below (B := B) HZ1.out) hG2)
      clear hG1 hG2 HG
      have HKn := Lib.hid (HK.out.past HP1.out (by omega))
      have HBYn := Lib.hid (HBY.out.past HP1.out hh)
      have HBMn := Lib.hid (HBM.out.past HP1.out hh)
      clear hcn hcd hc1 hf1 hgn1 hc3 hf3 HK HBY HBM HT1 HZ1 HT
      generalize World.setCell w3 ⟨gn, 0, none⟩ (.slice (some ⟨g, 0, none⟩) (L.length + 1) cap) = w4 at HG1 HP1 HKn HBYn HBMn ⊢
      go_wp2_with fail
      go_region_held3 (fun w' => w'.cell? ⟨gt, 0, none⟩ = some (.func (.func 169) #[] #[.pointer (some ⟨gn, 0, none⟩), .pointer (some ⟨gt, 0, none⟩)]) ∧ w'.cell? ⟨bb, 1, none⟩ = some (.pointer vy) ∧ w'.cell? ⟨bb, 2, none⟩ = some (.pointer vm))
        (first
         | exact ⟨(HG1.out.step (Below.refl _ w4).drew).fn.c0, (HKn.out.past (Past.of_below (B := B) (Below.refl _ w4).drew) (by omega)).c1, (HKn.out.past (Past.of_below (B := B) (Below.refl _ w4).drew) (by omega)).c2⟩
         | exact ⟨HG3.out.fn.c0, HK3.out.c1, HK3.out.c2⟩
         | exact ⟨HG2.out.fn.c0, HK2.out.c1, HK2.out.c2⟩)
        (first
         | (go_at_call 169; (with_reducible refine (IHm.out _ _ _ HG2.out HBM2.out hh (by rw [List.length_append, tell9_len, List.length_append]; simp only [List.length_cons, List.length_nil]; omega) N2 (by rw [HN2.out, List.length_append, tell9_len, List.length_append, List.length_singleton])).mono ?_); rintro e v3 ⟨V3, rfl, ht3, hp3⟩; have HG3 := Lib.hid ht3; have HK3 := Lib.hid (HK2.out.past hp3 (by omega)); have HP3 := Lib.hid (HP2.out.trans hp3); clear ht3 hp3)
         | (go_at_call 169; (with_reducible refine (IHy.out w4.drew _ _ (HG1.out.step (Below.refl _ w4).drew) (HBYn.out.step (Below.refl _ w4).drew) hh (by rw [List.length_append]; simp only [List.length_cons, List.length_nil]; omega) N1 (by rw [HN1.out, List.length_append, List.length_singleton])).mono ?_); rintro e v2 ⟨V2, rfl, ht2, hp2⟩; have HG2 := Lib.hid ht2; have HP2 := Lib.hid ((Past.of_below (B := B) (Below.refl _ w4).drew).trans hp2); have HK2 := Lib.hid (HKn.out.past HP2.out (by omega)); have HBM2 := Lib.hid (HBMn.out.past HP2.out hh); clear ht2 hp2))
      all_goals
        have HP4 := Lib.hid (HP1.out.trans HP3.out)
        have HLL : Hid (((L ++ [lf9]) ++ tell9 y (L ++ [lf9]).length ++ tell9 m ((L ++ [lf9]) ++ tell9 y (L ++ [lf9]).length).length).set L.length (q, N1, N2) = R) := Lib.hid (by
          rw [← HR.out]
          have h1 : (L ++ [lf9]).length = L.length + 1 := by simp
          have h2 : ((L ++ [lf9]) ++ tell9 y (L.length + 1)).length = L.length + 1 + y.size := by rw [List.length_append, tell9_len, h1]
          rw [h1, h2, HN1.out, HN2.out]
          exact told_list L q y m)
        have hl3 : L.length < ((L ++ [lf9]) ++ tell9 y (L ++ [lf9]).length ++ tell9 m ((L ++ [lf9]) ++ tell9 y (L ++ [lf9]).length).length).length := by rw [List.length_append, List.length_append, List.length_append]; simp only [List.length_cons, List.length_nil]; omega
        clear HG1 HG2 HP1 HP2 HP3 HKn HK2 HBYn HBMn HBM2 IHy IHm
        generalize ((L ++ [lf9]) ++ tell9 y (L ++ [lf9]).length ++ tell9 m ((L ++ [lf9]) ++ tell9 y (L ++ [lf9]).length).length) = L3 at HG3 HLL hl3
        obtain ⟨g3, cap3, hV3⟩ := HG3.out.some (by omega)
        subst hV3
        have hl3i : (L.length : Int) < (L3.length : Int) := by omega
        have hL0 : (0 : Int) ≤ (L.length : Int) := by omega
        have HG5 := Lib.hid (HG3.out.step (Below.refl _ v3).drew)
        have HK5 := Lib.hid (HK3.out.past (Past.of_below (B := B) (Below.refl _ v3).drew) (by omega))
        have HP5 := Lib.hid (HP4.out.trans (Past.of_below (B := B) (Below.refl _ v3).drew))
        clear HG3 HK3 HP4
        go_wp2_with fail
        refine wp_region_still_tail 10 (by kernel_rfl) (by kernel_rfl) ?_
        change wpStill _ _ v3.drew (fun a' => wpList _ _ _ _ a' v3.drew) _ _
        generalize v3.drew = w5 at HG5 HK5 HP5 ⊢
        have hv5 := HG5.out.var.c0
        have hq5 := HK5.out.c0
        simp only [List.take_succ_cons, List.take_zero, List.drop_succ_cons, List.drop_zero]
        repeat still_step
        refine wpStill_nil ?_
        have hro := owns_rowN HG5.out.row
        obtain ⟨u0, hu0⟩ := hro.2.2.2.1 L.length 0 hl3 (by omega)
        obtain ⟨u1, hu1⟩ := hro.2.2.2.1 L.length 1 hl3 (by omega)
        obtain ⟨u2, hu2⟩ := hro.2.2.2.1 L.length 2 hl3 (by omega)
        rw [Nat.add_zero] at hu0
        have hf0 := hro.2.2.2.2 (L.length * 3)
        have hf1 := hro.2.2.2.2 (L.length * 3 + 1)
        have hf2 := hro.2.2.2.2 (L.length * 3 + 2)
        obtain ⟨ht6, hp6⟩ := HG5.out.set (k := L.length) hl3 (q, N1, N2) rfl
        rw [HLL.out] at ht6
        have HT6 := Lib.hid ht6
        have HP6 := Lib.hid (HP5.out.trans hp6)
        clear hro ht6 hp6 HLL
        go_wp2
        go_ret
        exact ⟨rfl, ⟨_, HT6.out⟩, HP6.out⟩
end Go.Proofs.Ytdkffkgoalgjmac
