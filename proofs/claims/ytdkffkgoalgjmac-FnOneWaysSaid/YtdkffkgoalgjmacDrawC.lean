/- Counts and a split of them that are drawn. -/
import Derived.Test.YtdkffkgoalgjmacAmong
import Derived.Test.YtdkffkgoalgjmacOwn
namespace Go.Proofs.Ytdkffkgoalgjmac
open Go.RowKit Go.ChangeShapes Go.WideShapes
set_option linter.unusedVariables false

theorem farC_same {w w' : World} {b i : Nat} (hg : w.grownBy w' (some b)) (hi : i < w.heap.size) (hne : i ≠ b) : w'.heap[i]? = w.heap[i]? := hg.block i hi (fun e => hne (by injection e))
theorem Ins.far {w w' : World} {b lo hi : Nat} {A : Option Addr} {zs : List Int} (h : Ins w lo hi A zs) (hg : w.grownBy w' (some b)) (hb : b < lo) : Ins w' lo hi A zs :=
  ⟨fun h0 => by
    obtain ⟨g, o, e, h1, h2, hc⟩ := h.ints h0
    exact ⟨g, o, e, h1, h2, fun j x hx => (World.cell?_of_block (a := ⟨g, o + j, none⟩) (farC_same (i := g) hg (Nat.lt_of_lt_of_le h2 h.top) (Nat.ne_of_gt (Nat.lt_of_lt_of_le hb h1)))).trans (hc j x hx)⟩, Nat.le_trans h.top hg.size⟩
theorem owns_farC {w w' : World} {b B n : Nat} {v : Value} {xs : List Value} {e : TypeId} (h : w.ownsRow B e 1 v n xs) (hg : w.grownBy w' (some b)) (hb : b < B) : w'.ownsRow B e 1 v n xs :=
  h.kept hg (by
    cases hv : v.ownBlock with
    | none => exact .inl rfl
    | some g => exact .inr (fun e' => by injection e' with e'; have := h.lt g hv; omega))
theorem cur_ownC {w w1 : World} {b B n c k N : Nat} {A : Option Addr} {v : Value} {xs : List Value} {e : TypeId} (h : Cur w b A n c k) (ho : w.ownsRow B e 1 v N xs) (hB : b < B) (hg : w.grownBy w1 v.ownBlock) : Cur w1 b A n c k :=
  h.grown hg (fun g e' => by have := ho.lt g e'; omega)
theorem grown_ownC {a w w1 : World} {b B n : Nat} {v : Value} {xs : List Value} {e : TypeId} (h : a.grownBy w (some b)) (ho : w.ownsRow B e 1 v n xs) (hB : a.heap.size ≤ B) (hg : w.grownBy w1 v.ownBlock) : a.grownBy w1 (some b) :=
  ⟨hg.os.trans h.os, hg.tape.trans h.tape, hg.output.trans h.output, Nat.le_trans h.size hg.size, fun j hj hne => (hg.block j (Nat.lt_of_lt_of_le hj h.size) (fun e' => by have := ho.lt j e'.symm; omega)).trans (h.block j hj hne)⟩
theorem own_placeC {w : World} {lo hi k : Nat} {A : Option Addr} {l : List Int} (h : Own w lo hi A l) (hk : k < l.length) :
    ∃ g cur, A = some ⟨g, 0, none⟩ ∧ lo ≤ g ∧ g < hi ∧ w.heap[g]? = some (.cells cur 3 (0, 0)) ∧ w.cell? ⟨g, k, none⟩ = some (.int .i64 (l.getD k 0)) ∧ ∀ v : Int, Own (w.setCell ⟨g, k, none⟩ (.int .i64 v)) lo hi (some ⟨g, 0, none⟩) (l.set k v) := by
  rcases h with ⟨_, rfl⟩ | ⟨g, cur, rfl, h1, h2, hr, h3, h4⟩
  · simp at hk
  · refine ⟨g, cur, rfl, h1, h2, hr, ?_, fun v => .inr ⟨g, _, rfl, h1, h2, row_setI hr k _, by simpa using h3, fun j x hx => ?_⟩⟩
    · rw [row_cellI hr, h4 k l[k] (List.getElem?_eq_getElem hk)]
      simp [List.getD, hk]
    · rw [List.getElem?_set] at hx
      by_cases hj : k = j
      · subst hj
        rw [if_pos rfl, if_pos hk] at hx
        injection hx with hx
        subst hx
        have : k < cur.size := by omega
        simp [this]
      · rw [if_neg hj] at hx
        rw [Array.getElem?_setIfInBounds_ne hj]
        exact h4 j x hx
theorem grown_setC (w : World) (g i : Nat) (u : Value) : w.grownBy (w.setCell ⟨g, i, none⟩ u) (some g) :=
  ⟨rfl, rfl, rfl, by simp [World.setCell], fun k hk hne => Below.heap_setCell w ⟨g, i, none⟩ u k (fun e => hne (by have e' : k = g := e; rw [e']))⟩
theorem grown_set_farC {a w : World} {b g i : Nat} (h : a.grownBy w (some b)) (hg : a.heap.size ≤ g) (u : Value) : a.grownBy (w.setCell ⟨g, i, none⟩ u) (some b) :=
  ⟨h.os, h.tape, h.output, by simpa [World.setCell] using h.size, fun j hj hne => (Below.heap_setCell w ⟨g, i, none⟩ u j (fun e => by have e' : j = g := e; omega)).trans (h.block j hj hne)⟩
theorem three_new (w : World) : ∀ (j : Nat) (u : Value), [Value.int .i64 0, .int .i64 0, .int .i64 0][j]? = some u → (w.alloc (.cells #[.int .i64 0, .int .i64 0, .int .i64 0] 3)).cell? ((⟨w.heap.size, 0, none⟩ : Addr).add j) = some u := by
  intro j u hu
  have hadd : (⟨w.heap.size, 0, none⟩ : Addr).add j = ⟨w.heap.size, j, none⟩ := by unfold Addr.add; split <;> simp_all
  rw [hadd, World.cell?_alloc_at _ _ _ _ rfl, ← hu]
  simp
def cntP (x : Int) : Bool := decide (0 ≤ x ∧ x ≤ 8)
def plcP (x : Int) : Bool := decide (1 ≤ x ∧ x ≤ 3)
def oddP (x : Int) : Bool := decide (-1 ≤ x ∧ x ≤ 9)
/-- A list that is drawn: short, in memory of its own; the cursor goes on. -/
def DrewL (P : Int → Prop) (lim d : Nat) (w : World) (b : Nat) (A : Option Addr) (n c k : Nat) (e : Ending) (w' : World) : Prop :=
  ∃ (zs : List Int) (B : Option Addr) (c' : Nat), e = .returned (.slice B zs.length c') ∧ zs.length ≤ lim ∧ (∀ z ∈ zs, P z) ∧ Res w' w.heap.size w'.heap.size B zs ∧ ∃ k2 : Nat, k2 ≤ k + d ∧ Cur w' b A n c k2 ∧ w.grownBy w' (some b)

set_option maxRecDepth 100000 in
set_option maxHeartbeats 4000000 in
theorem counts_any (b : Nat) (A : Option Addr) (n c k : Nat) (w : World) (h : Cur w b A n c k) (hk : k ≤ 999000) (hn : n ≤ 65536) :
    Calls Try.prog 140 #[.pointer (some ⟨b, 0, none⟩)] w (DrewL (fun z => -1 ≤ z ∧ z ≤ 9) 7 20 w b A n c k) := by
  have hbw := h.lt
  obtain ⟨i0, hi0, hz0, hz1, hz2⟩ := info_parts infoI3
  have HC := Lib.hid (h.alloc (.cells #[] 3))
  have HO := Lib.hid (O0_any w w.heap.size (Nat.le_refl _))
  have HG := Lib.hid (only_alloc (World.grownBy.refl w (some b)) (.cells #[] 3))
  clear h
  go_enter Try.func140, Try.ntmps140
  go_wp2_with fail
  have hsa : (w.alloc (.cells #[] 3)).heap.size = w.heap.size + 1 := by simp
  generalize w.alloc (.cells #[] 3) = wa at HC HO HG hsa ⊢
  rw [← hsa]
  refine (amongP_any cntP b A n c k 9 wa.heap.size 9 _ (HC.out.alloc _) (by omega) hn (by omega) (by omega) ?hL (by omega) (by simp)).mono ?_
  case hL => exact list_num wa _ _ 9 (Nat.le_refl _) rfl
  rintro e w1 ⟨x, rfl, hx, k1, hk1, hc1, hg1⟩
  have hg1' := (only_alloc (World.grownBy.refl wa (some b)) _).trans hg1
  have HC1 := Lib.hid hc1
  have HO1 := Lib.hid (owns_farC HO.out hg1' hbw)
  have HG1 := Lib.hid (HG.out.trans hg1')
  have hxb : 0 ≤ x ∧ x ≤ 8 := of_decide_eq_true hx
  obtain ⟨L0, rfl⟩ : ∃ L : Nat, x = (L : Int) := ⟨x.toNat, by omega⟩
  clear hc1 hg1 hg1' hx HC HO HG
  go_wp2_with fail
  refine (amongP_any plcP b A n c k1 7 w1.heap.size 7 _ (HC1.out.alloc _) (by omega) hn (by omega) (by omega) ?hL (by have := HC1.out.lt; omega) (by simp)).mono ?_
  case hL => exact list_num w1 _ _ 7 (Nat.le_refl _) rfl
  rintro e w2 ⟨x, rfl, hx, k2, hk2, hc2, hg2⟩
  have hg2' := (only_alloc (World.grownBy.refl w1 (some b)) _).trans hg2
  have HC2 := Lib.hid hc2
  have HO2 := Lib.hid (owns_farC HO1.out hg2' hbw)
  have HG2 := Lib.hid (HG1.out.trans hg2')
  have hxb2 : 1 ≤ x ∧ x ≤ 3 := of_decide_eq_true hx
  obtain ⟨P0, rfl⟩ : ∃ L : Nat, x = (L : Int) := ⟨x.toNat, by omega⟩
  have hP0 : 1 ≤ P0 ∧ P0 ≤ 3 := by omega
  have hL0 : L0 ≤ 8 := by omega
  clear hc2 hg2 hg2' hx HC1 HO1 HG1 hxb hxb2
  go_wp2_with fail
  go_loopw [3, 4, 5] (fun out l p wr => ∃ (f : List Int) (L P kk : Nat), l = .int .i64 (L : Int) ∧ p = .int .i64 (P : Int) ∧ L ≤ 8 ∧ f.length + P = P0 ∧ kk + 2 * P ≤ k + 10 ∧ Hid (∀ z ∈ f, 0 ≤ z ∧ z ≤ 8) ∧ Hid (wr.ownsRow w.heap.size 3 1 out f.length (f.map (Value.int .i64))) ∧ Hid (Cur wr b A n c kk) ∧ Hid (w.grownBy wr (some b))) (fun _ _ p _ => (intOf p).toNat)
  case atStart => exact ⟨[], L0, P0, k2, rfl, rfl, hL0, by simp, by omega, Lib.hid (by simp), HO2, HC2, HG2⟩
  case round =>
    clear HO2 HC2 HG2
    obtain ⟨f, L, P, kk, rfl, rfl, hL, hfl, hkk, HB, HO, HC, HG⟩ := hrel
    rename World => wr
    have hsz := HG.out.size
    by_cases hp : 0 < P
    · have hpI : (0 : Int) < (P : Int) := by omega
      have hc1 : ((L + 1 : Nat) : Int) = (L : Int) + 1 := by push_cast; rfl
      have HPk := Lib.hid (pick_any b A n c kk (L + 1) wr HC.out (by omega) hn (by omega) (by omega))
      rw [hc1] at HPk
      clear hc1
      go_wp2_with fail
      refine HPk.out.mono ?_
      rintro e w3 ⟨v, k3, hv, rfl, hk3, hc3, hg3⟩
      have hown := owns_farC HO.out hg3 hbw
      have HC3 := Lib.hid hc3
      have HG3 := Lib.hid (HG.out.trans hg3)
      have hsz3 := HG3.out.size
      clear hc3 hg3 HPk HO HC HG
      go_wp2_with (at_builtin; refine wpList_append_own _ rfl _ _ 26 rfl w.heap.size 3 i0 (.int .i64 0) 1 8 Try.underlying26 hi0 hz0 hz1 hz2 rfl (by decide) _ _ _ rfl (hown.alloc _) ⟨_, 0, none⟩ 1 1 [.int .i64 (v : Int)] rfl rfl (cell_one_new _ _ _) (by simp [Value.oneCell']) (by unfold maxLen; omega) (by omega) (by simp; omega) ?_; intro v' w5 hown' hgrow _)
      have HO5 := Lib.hid (own_snocI hown' rfl)
      have HC5 := Lib.hid (cur_ownC (HC3.out.alloc _) (hown.alloc _) hbw hgrow)
      have HG5 := Lib.hid (grown_ownC (only_alloc HG3.out _) (hown.alloc _) (Nat.le_refl _) hgrow)
      have HB5 : Hid (∀ z ∈ f ++ [(v : Int)], 0 ≤ z ∧ z ≤ 8) := Lib.hid (fun z hz => by
        rcases List.mem_append.1 hz with hz | hz
        · exact HB.out z hz
        · simp at hz; omega)
      clear hown' hgrow hown HC3 HG3
      go_wp2
      go_roundw
      case rel => exact ⟨f ++ [(v : Int)], L - v, P - 1, k3, by congr 1; omega, by congr 1; omega, by omega, by simp; omega, by omega, HB5, HO5, HC5, HG5⟩
      case measure => simp [intOf]; omega
    · have hp0 : P = 0 := by omega
      subst hp0
      obtain ⟨A3, c3, hv3, hlc3, hr3⟩ := own_res HO.out rfl
      subst hv3
      have HR := Lib.hid hr3
      have HPk := Lib.hid (pick_any b A n c kk 40 wr HC.out (by omega) hn (by omega) (by omega))
      clear hr3
      go_wp2_with fail
      refine HPk.out.mono ?_
      rintro e w3 ⟨v, k3, hv, rfl, hk3, hc3, hg3⟩
      have hown := owns_farC HO.out hg3 hbw
      have HC3 := Lib.hid hc3
      have HG3 := Lib.hid (HG.out.trans hg3)
      have hsz3 := HG3.out.size
      clear hc3 hg3 HPk HO HC HG HR
      obtain rfl | rfl | rfl | hv3 : v = 0 ∨ v = 1 ∨ v = 2 ∨ 3 ≤ v := by omega
      · clear hown
        go_wp2
        go_ret
        exact ⟨[], _, 0, rfl, by simp, by simp, empty_res w3 w.heap.size hsz3, k3, by omega, HC3.out.alloc _, only_alloc HG3.out _⟩
      · obtain ⟨A4, c4, hv4, _, hr4⟩ := own_res hown rfl
        injection hv4 with hA4 _ hc4
        subst hA4 hc4
        have HR := Lib.hid hr4
        clear hown hr4
        go_wp2_with fail
        refine (amongP_any oddP b A n c k3 3 w3.heap.size 3 _ (HC3.out.alloc _) (by omega) hn (by omega) (by omega) ?hL (by have := HC3.out.lt; omega) (by simp)).mono ?_
        case hL => exact list_num w3 _ _ 3 (Nat.le_refl _) rfl
        rintro e w4 ⟨x, rfl, hx, k4, hk4, hc4, hg4⟩
        have hg4' := (only_alloc (World.grownBy.refl w3 (some b)) _).trans hg4
        have hR4 : Own w4 w.heap.size w3.heap.size A3 f := by
          rcases HR.out.own with h | ⟨g, cur, rfl, h1, h2, hr, h3, h4⟩
          · exact .inl h
          · exact .inr ⟨g, cur, rfl, h1, h2, (farC_same hg4' (row_ltI hr) (by omega)).trans hr, h3, h4⟩
        have HC4 := Lib.hid hc4
        have HG4 := Lib.hid (HG3.out.trans hg4')
        have hxb : -1 ≤ x ∧ x ≤ 9 := of_decide_eq_true hx
        have hs4 := hg4'.size
        obtain ⟨g, cur, hA, hglo, hghi, hrow, hcell, hset⟩ := own_placeC hR4 (k := 0) (by omega)
        subst hA
        have hfr := row_freeI hrow 0
        have HS := Lib.hid (hset x)
        have HC5 := Lib.hid (HC4.out.grown (grown_setC w4 g 0 (.int .i64 x)) (fun g' e => by injection e; omega))
        have HG5 := Lib.hid (grown_set_farC (i := 0) HG4.out hglo (.int .i64 x))
        have hfl0 : 0 < f.length := by omega
        have hflI : (0 : Int) < (f.length : Int) := by omega
        clear hc4 hg4 hg4' hx hR4 hset hrow HR HC3 HG3 HC4 HG4
        go_wp2
        go_ret
        refine ⟨f.set 0 x, _, c3, by rw [List.length_set]; rfl, by rw [List.length_set]; omega, fun z hz => ?_, ⟨HS.out.wide (Nat.le_refl _) (by simp [World.setCell]; omega), Nat.le_refl _⟩, k4, by omega, HC5.out, HG5.out⟩
        rcases List.mem_or_eq_of_mem_set hz with hz | hz
        · have := HB.out z hz; omega
        · omega
      · go_wp2_with (at_builtin; refine wpList_append_own _ rfl _ _ 26 rfl w.heap.size 3 i0 (.int .i64 0) 1 8 Try.underlying26 hi0 hz0 hz1 hz2 rfl (by decide) _ _ _ rfl (hown.alloc _) ⟨w3.heap.size, 0, none⟩ 3 3 [.int .i64 0, .int .i64 0, .int .i64 0] rfl rfl (three_new w3) (by simp [Value.oneCell']) (by unfold maxLen; omega) (by omega) (by simp; omega) ?_; intro v' w5 hown' hgrow _)
        have HO5 : Hid (w5.ownsRow w.heap.size 3 1 v' (f ++ [0, 0, 0]).length ((f ++ [0, 0, 0]).map (Value.int .i64))) := Lib.hid (by simpa using hown')
        have HC5 := Lib.hid (cur_ownC (HC3.out.alloc _) (hown.alloc _) hbw hgrow)
        have HG5 := Lib.hid (grown_ownC (only_alloc HG3.out _) (hown.alloc _) (Nat.le_refl _) hgrow)
        clear hown' hgrow hown HC3 HG3
        obtain ⟨A6, c6, rfl, _, hr6⟩ := own_res HO5.out rfl
        have HR6 := Lib.hid hr6
        clear hr6 HO5
        go_wp2
        go_ret
        refine ⟨f ++ [0, 0, 0], A6, c6, rfl, by simp; omega, fun z hz => ?_, HR6.out, k3, by omega, HC5.out, HG5.out⟩
        rcases List.mem_append.1 hz with hz | hz
        · have := HB.out z hz; omega
        · simp at hz; omega
      · obtain ⟨A4, c4, hv4, _, hr4⟩ := own_res hown rfl
        injection hv4 with hA4 _ hc4
        subst hA4 hc4
        have HR := Lib.hid hr4
        clear hown hr4
        have q0 : ¬ v = 0 := by omega
        have q1 : ¬ v = 1 := by omega
        have q2 : ¬ v = 2 := by omega
        have p0 : ((v : Int) == 0) = false := by simp; omega
        have p1 : ((v : Int) == 1) = false := by simp; omega
        have p2 : ((v : Int) == 2) = false := by simp; omega
        go_wp2
        go_ret
        exact ⟨f, A3, c3, rfl, by omega, fun z hz => by have := HB.out z hz; omega, HR.out, k3, by omega, HC3.out, HG3.out⟩

theorem owns_set {w : World} {B n g c k : Nat} {f : List Int} (h : w.ownsRow B 3 1 (.slice (some ⟨g, 0, none⟩) n c) n (f.map (Value.int .i64))) (x : Int) :
    (w.setCell ⟨g, k, none⟩ (.int .i64 x)).ownsRow B 3 1 (.slice (some ⟨g, 0, none⟩) n c) n ((f.set k x).map (Value.int .i64)) := by
  obtain ⟨hl, ⟨h0, _⟩ | ⟨g', cap, cur, hv, hb, hg, hn, hm, hs, ht⟩⟩ := h
  · cases h0
  · injection hv with hv1 _ hv3
    injection hv1 with hv1
    injection hv1 with hv1
    subst hv1 hv3
    refine ⟨by simpa using hl, .inr ⟨g, c, _, rfl, hb, row_setI hg k _, hn, hm, by simpa using hs, ?_⟩⟩
    rw [Array.toList_setIfInBounds, List.take_set, ht, List.map_set]
theorem owns_cell0 {w : World} {B n : Nat} {v : Value} {f : List Int} (h : w.ownsRow B 3 1 v n (f.map (Value.int .i64))) (h0 : 0 < n) :
    ∃ g c u, v = .slice (some ⟨g, 0, none⟩) n c ∧ B ≤ g ∧ g < w.heap.size ∧ w.cell? ⟨g, 0, none⟩ = some u ∧ w.frozen? ⟨g, 0, none⟩ = false := by
  rcases h.2 with ⟨_, h1⟩ | ⟨g, cap, cur, rfl, hb, hg, hn, hm, hs, ht⟩
  · omega
  · have hl : 0 < cur.size := by omega
    exact ⟨g, cap, cur[0], rfl, hb, row_ltI hg, by rw [row_cellI hg, Array.getElem?_eq_getElem hl], row_freeI hg 0⟩

set_option maxRecDepth 100000 in
set_option maxHeartbeats 4000000 in
theorem split_any (b : Nat) (A : Option Addr) (n c k : Nat) (A2 : Option Addr) (c2 lo hi : Nat) (zs : List Int) (w : World) (h : Cur w b A n c k) (hk : k ≤ 999000) (hn : n ≤ 65536) (hS : Ins w lo hi A2 zs) (hlo : b < lo) (hl : zs.length ≤ 7) (hz9 : ∀ z ∈ zs, -1 ≤ z ∧ z ≤ 9) :
    Calls Try.prog 146 #[.pointer (some ⟨b, 0, none⟩), .slice A2 zs.length c2] w (DrewL (fun _ => True) 8 40 w b A n c k) := by
  have hbw := h.lt
  obtain ⟨i0, hi0, hz0, hz1, hz2⟩ := info_parts infoI3
  have HC := Lib.hid (h.alloc (.cells #[] 3))
  have HO := Lib.hid (O0_any w w.heap.size (Nat.le_refl _))
  have HG := Lib.hid (only_alloc (World.grownBy.refl w (some b)) (.cells #[] 3))
  have HI := Lib.hid (hS.step ((Below.refl _ _).alloc (Nat.le_refl _) (.cells #[] 3)))
  have HZ := Lib.hid hz9
  have HTop := Lib.hid hS.top
  clear h hS hz9
  go_enter Try.func146, Try.ntmps146
  go_wp2_with fail
  generalize w.alloc (.cells #[] 3) = wa at HC HO HG HI ⊢
  go_loopw [5, 6] (fun out i wr => ∃ (f : List Int) (j kk : Nat), i = .int .i64 (j : Int) ∧ j ≤ zs.length ∧ f.length = j ∧ kk ≤ k + 2 * j ∧ Hid (wr.ownsRow w.heap.size 3 1 out f.length (f.map (Value.int .i64))) ∧ Hid (Cur wr b A n c kk) ∧ Hid (w.grownBy wr (some b)) ∧ Hid (Ins wr lo hi A2 zs)) (fun _ i _ => zs.length - (intOf i).toNat)
  case atStart => exact ⟨[], 0, k, rfl, Nat.zero_le _, rfl, by omega, HO, HC, HG, HI⟩
  case round =>
    clear HO HC HG HI
    obtain ⟨f, j, kk, rfl, hj, hfl, hkk, HO, HC, HG, HI⟩ := hrel
    rename World => wr
    have hsz := HG.out.size
    by_cases hlt : j < zs.length
    · obtain ⟨b2, o2, rfl, _, hb2, hc2⟩ := HI.out.ints.at_ hlt
      have hzb := HZ.out _ (List.getElem_mem hlt)
      generalize zs[j] = z at hc2 hzb
      obtain ⟨M, hM, hM1, hM2⟩ : ∃ M : Nat, (M : Int) = (if z + 1 ≤ 1 then 1 else z + 1) ∧ 1 ≤ M ∧ M ≤ 10 := ⟨(if z + 1 ≤ 1 then 1 else z + 1).toNat, by split <;> omega, by split <;> omega, by split <;> omega⟩
      have HMX := Lib.hid (l1Most_any 1 (z + 1) wr)
      rw [← hM] at HMX
      have HPk := Lib.hid (pick_any b A n c kk M wr HC.out (by omega) hn hM1 (by omega))
      clear hM
      go_wp2_with fail
      refine HMX.out.mono ?_
      rintro e w9 ⟨rfl, hw9⟩
      have hw9 := hw9.symm
      subst hw9
      go_wp2_with fail
      refine HPk.out.mono ?_
      rintro e w3 ⟨v, k3, hv, rfl, hk3, hc3, hg3⟩
      have hown := owns_farC HO.out hg3 hbw
      have HC3 := Lib.hid hc3
      have HG3 := Lib.hid (HG.out.trans hg3)
      have HI3 := Lib.hid (HI.out.far hg3 hlo)
      have hsz3 := HG3.out.size
      have hhi := HI3.out.top
      clear hc3 hg3 HPk HO HC HG HMX hc2
      go_wp2_with (at_builtin; refine wpList_append_own _ rfl _ _ 26 rfl w.heap.size 3 i0 (.int .i64 0) 1 8 Try.underlying26 hi0 hz0 hz1 hz2 rfl (by decide) _ _ _ rfl (hown.alloc _) ⟨_, 0, none⟩ 1 1 [.int .i64 (v : Int)] rfl rfl (cell_one_new _ _ _) (by simp [Value.oneCell']) (by unfold maxLen; omega) (by omega) (by simp; omega) ?_; intro v' w5 hown' hgrow _)
      have HO5 := Lib.hid (own_snocI hown' rfl)
      have HC5 := Lib.hid (cur_ownC (HC3.out.alloc _) (hown.alloc _) hbw hgrow)
      have HG5 := Lib.hid (grown_ownC (only_alloc HG3.out _) (hown.alloc _) (Nat.le_refl _) hgrow)
      have HI5 := Lib.hid (HI3.out.past (B := w.heap.size) (Past.grown hown hgrow) HTop.out)
      clear hown' hgrow hown HC3 HG3
      go_wp2
      go_roundw
      case rel => exact ⟨f ++ [(v : Int)], j + 1, k3, by go_num, by omega, by simp; omega, by omega, HO5, HC5, HG5, HI5⟩
      case measure => simp [intOf]; omega
    · obtain rfl : j = zs.length := by omega
      obtain ⟨A3, c3, hv3, hlc3, hr3⟩ := own_res HO.out rfl
      subst hv3
      clear hr3
      rw [hfl] at HO ⊢
      by_cases h0 : zs.length = 0
      · have h0d : decide ((0 : Int) < (zs.length : Int)) = false := decide_eq_false (by omega)
        have h0n : ¬ (0 : Int) < (zs.length : Int) := by omega
        clear h0
        have HON := Lib.hid (one_any b A n c kk 40 wr HC.out (by omega) hn (by omega) (by omega))
        have hsz7 := HG.out.size
        go_wp2_with fail
        refine HON.out.mono ?_
        rintro e w7 ⟨y, rfl, k7, hk7, hc7, hg7⟩
        have hown := owns_farC HO.out hg7 hbw
        have HC7 := Lib.hid hc7
        have HG7 := Lib.hid (HG.out.trans hg7)
        have hs7 := HG7.out.size
        clear hc7 hg7 HON
        cases y
        · obtain ⟨A4, c4, hv4, _, hr4⟩ := own_res hown (hfl).symm
          injection hv4 with hA4 hq4 hc4
          subst hA4 hc4
          clear hq4
          have HR := Lib.hid hr4
          clear hown hr4
          go_wp2
          go_ret
          exact ⟨f, A3, c3, by rw [hfl]; rfl, by rw [hfl]; omega, fun _ _ => trivial, HR.out, k7, by omega, HC7.out, HG7.out⟩
        · go_wp2_with (at_builtin; refine wpList_append_own _ rfl _ _ 26 rfl w.heap.size 3 i0 (.int .i64 0) 1 8 Try.underlying26 hi0 hz0 hz1 hz2 rfl (by decide) _ _ _ rfl (hown.alloc _) ⟨_, 0, none⟩ 1 1 [.int .i64 0] rfl rfl (cell_one_new _ _ _) (by simp [Value.oneCell']) (by unfold maxLen; omega) (by omega) (by simp; omega) ?_; intro v' w8 hown' hgrow _)
          have HO8 := Lib.hid (own_snocI hown' (hfl).symm)
          have HC8 := Lib.hid (cur_ownC (HC7.out.alloc _) (hown.alloc _) hbw hgrow)
          have HG8 := Lib.hid (grown_ownC (only_alloc HG7.out _) (hown.alloc _) (Nat.le_refl _) hgrow)
          clear hown' hgrow hown HC7 HG7
          obtain ⟨A6, c6, rfl, _, hr6⟩ := own_res HO8.out rfl
          have HR6 := Lib.hid hr6
          have hl6 : (f ++ [(0 : Int)]).length ≤ 8 := by rw [List.length_append, hfl]; simp; omega
          have HL6 := Lib.hid hl6
          clear hr6 HO8 hl6
          go_wp2
          go_ret
          exact ⟨f ++ [0], A6, c6, rfl, HL6.out, fun _ _ => trivial, HR6.out, k7, by omega, HC8.out, HG8.out⟩
      · have h0I : (0 : Int) < (zs.length : Int) := by omega
        have h0d : decide ((0 : Int) < (zs.length : Int)) = true := decide_eq_true (by omega)
        have HN1 := Lib.hid (one_any b A n c kk 24 wr HC.out (by omega) hn (by omega) (by omega))
        go_wp2_with fail
        refine HN1.out.mono ?_
        rintro e w4 ⟨x, rfl, k4, hk4, hc4, hg4⟩
        have HO4 := Lib.hid (owns_farC HO.out hg4 hbw)
        have HC4 := Lib.hid hc4
        have HG4 := Lib.hid (HG.out.trans hg4)
        have HI4 := Lib.hid (HI.out.far hg4 hlo)
        clear hc4 hg4 HN1 HO HC HG HI
        cases x
        · clear HI4
          have HON := Lib.hid (one_any b A n c k4 40 w4 HC4.out (by omega) hn (by omega) (by omega))
          have hsz7 := HG4.out.size
          go_wp2_with fail
          refine HON.out.mono ?_
          rintro e w7 ⟨y, rfl, k7, hk7, hc7, hg7⟩
          have hown := owns_farC HO4.out hg7 hbw
          have HC7 := Lib.hid hc7
          have HG7 := Lib.hid (HG4.out.trans hg7)
          have hs7 := HG7.out.size
          clear hc7 hg7 HON
          cases y
          · obtain ⟨A4, c4, hv4, _, hr4⟩ := own_res hown (hfl).symm
            injection hv4 with hA4 hq4 hc4
            subst hA4 hc4
            clear hq4
            have HR := Lib.hid hr4
            clear hown hr4
            go_wp2
            go_ret
            exact ⟨f, A3, c3, by rw [hfl]; rfl, by rw [hfl]; omega, fun _ _ => trivial, HR.out, k7, by omega, HC7.out, HG7.out⟩
          · go_wp2_with (at_builtin; refine wpList_append_own _ rfl _ _ 26 rfl w.heap.size 3 i0 (.int .i64 0) 1 8 Try.underlying26 hi0 hz0 hz1 hz2 rfl (by decide) _ _ _ rfl (hown.alloc _) ⟨_, 0, none⟩ 1 1 [.int .i64 0] rfl rfl (cell_one_new _ _ _) (by simp [Value.oneCell']) (by unfold maxLen; omega) (by omega) (by simp; omega) ?_; intro v' w8 hown' hgrow _)
            have HO8 := Lib.hid (own_snocI hown' (hfl).symm)
            have HC8 := Lib.hid (cur_ownC (HC7.out.alloc _) (hown.alloc _) hbw hgrow)
            have HG8 := Lib.hid (grown_ownC (only_alloc HG7.out _) (hown.alloc _) (Nat.le_refl _) hgrow)
            clear hown' hgrow hown HC7 HG7
            obtain ⟨A6, c6, rfl, _, hr6⟩ := own_res HO8.out rfl
            have HR6 := Lib.hid hr6
            have hl6 : (f ++ [(0 : Int)]).length ≤ 8 := by rw [List.length_append, hfl]; simp; omega
            have HL6 := Lib.hid hl6
            clear hr6 HO8 hl6
            go_wp2
            go_ret
            exact ⟨f ++ [0], A6, c6, rfl, HL6.out, fun _ _ => trivial, HR6.out, k7, by omega, HC8.out, HG8.out⟩
        · obtain ⟨b2, o2, rfl, _, hb2, hc2⟩ := HI4.out.ints.at_ (k := 0) (by omega)
          have hzb := HZ.out _ (List.getElem_mem (show 0 < zs.length by omega))
          rw [Nat.add_zero] at hc2
          generalize zs[0] = z at hc2 hzb
          go_wp2_with fail
          refine (amongP_any anyP b A n c k4 2 w4.heap.size 2 _ (HC4.out.alloc _) (by omega) hn (by omega) (by omega) ?hL (by have := HC4.out.lt; omega) (by simp)).mono ?_
          case hL => exact list_num w4 _ _ 2 (Nat.le_refl _) rfl
          rintro e w5 ⟨x, rfl, hx, k5, hk5, hc5, hg5⟩
          have hg5' := (only_alloc (World.grownBy.refl w4 (some b)) _).trans hg5
          have hown5 := owns_farC HO4.out hg5' hbw
          obtain ⟨g, c9, u, hv9, hgB, hgl, hcell, hfr⟩ := owns_cell0 hown5 (by omega)
          injection hv9 with hv91 _ hv93
          subst hv91 hv93
          have HO6 := Lib.hid (owns_set (k := 0) hown5 x)
          have HC6 := Lib.hid (hc5.grown (grown_setC w5 g 0 (.int .i64 x)) (fun g' e => by injection e; omega))
          have HG6 := Lib.hid (grown_set_farC (i := 0) (HG4.out.trans hg5') hgB (.int .i64 x))
          have hfl6 : (f.set 0 x).length = zs.length := by rw [List.length_set]; exact hfl
          have HF6 := Lib.hid hfl6
          generalize f.set 0 x = f6 at HO6 HF6 hfl6
          clear hc5 hg5 hg5' hown5 hc2 hx HO4 HC4 HG4 HI4
          go_wp2_with fail
          generalize hw6 : w5.setCell ⟨g, 0, none⟩ (.int .i64 x) = w6 at HO6 HC6 HG6 ⊢
          clear hw6 hcell hfr
          have HON := Lib.hid (one_any b A n c k5 40 w6 HC6.out (by omega) hn (by omega) (by omega))
          have hsz7 := HG6.out.size
          go_wp2_with fail
          refine HON.out.mono ?_
          rintro e w7 ⟨y, rfl, k7, hk7, hc7, hg7⟩
          have hown := owns_farC HO6.out hg7 hbw
          have HC7 := Lib.hid hc7
          have HG7 := Lib.hid (HG6.out.trans hg7)
          have hs7 := HG7.out.size
          clear hc7 hg7 HON
          cases y
          · obtain ⟨A4, c4, hv4, _, hr4⟩ := own_res hown (hfl6).symm
            injection hv4 with hA4 hq4 hc4
            subst hA4 hc4
            clear hq4
            have HR := Lib.hid hr4
            clear hown hr4
            go_wp2
            go_ret
            exact ⟨f6, some ⟨g, 0, none⟩, c3, by rw [hfl6]; rfl, by rw [hfl6]; omega, fun _ _ => trivial, HR.out, k7, by omega, HC7.out, HG7.out⟩
          · go_wp2_with (at_builtin; refine wpList_append_own _ rfl _ _ 26 rfl w.heap.size 3 i0 (.int .i64 0) 1 8 Try.underlying26 hi0 hz0 hz1 hz2 rfl (by decide) _ _ _ rfl (hown.alloc _) ⟨_, 0, none⟩ 1 1 [.int .i64 0] rfl rfl (cell_one_new _ _ _) (by simp [Value.oneCell']) (by unfold maxLen; omega) (by omega) (by simp; omega) ?_; intro v' w8 hown' hgrow _)
            have HO8 := Lib.hid (own_snocI hown' (hfl6).symm)
            have HC8 := Lib.hid (cur_ownC (HC7.out.alloc _) (hown.alloc _) hbw hgrow)
            have HG8 := Lib.hid (grown_ownC (only_alloc HG7.out _) (hown.alloc _) (Nat.le_refl _) hgrow)
            clear hown' hgrow hown HC7 HG7
            obtain ⟨A6, c6, rfl, _, hr6⟩ := own_res HO8.out rfl
            have HR6 := Lib.hid hr6
            have hl6 : (f6 ++ [(0 : Int)]).length ≤ 8 := by rw [List.length_append, hfl6]; simp; omega
            have HL6 := Lib.hid hl6
            clear hr6 HO8 hl6
            go_wp2
            go_ret
            exact ⟨f6 ++ [0], A6, c6, rfl, HL6.out, fun _ _ => trivial, HR6.out, k7, by omega, HC8.out, HG8.out⟩

/-- What DrawSplitNeed draws. -/
def DrewSN (w : World) (e : Ending) (w' : World) : Prop :=
  ∃ (zs ss : List Int) (B B2 : Option Addr) (c c2 : Nat), e = .returned (.tuple #[.slice B zs.length c, .slice B2 ss.length c2]) ∧ zs.length ≤ 8 ∧ ss.length ≤ 8 ∧ (∃ lo hi, Ins w' lo hi B zs) ∧ (∃ lo hi, Ins w' lo hi B2 ss) ∧ Below w.heap.size w w'
set_option maxRecDepth 100000 in
set_option maxHeartbeats 4000000 in
theorem drawYC_any (A : Option Addr) (n c : Nat) (w : World) (hC : Code w w.heap.size A n) (hn : n ≤ 65536) :
    Calls Try.prog 101 #[.slice A n c] w (DrewSN w) := by
  have HC := Lib.hid (Cur.new (c := c) hC)
  have HB := Lib.hid ((Below.refl w.heap.size w).alloc (Nat.le_refl _) (.cells #[.slice A n c, .int .i64 0, .int .u64 0] 99))
  clear hC
  go_enter Try.func101, Try.ntmps101
  go_wp2_with fail
  generalize w.alloc (.cells #[.slice A n c, .int .i64 0, .int .u64 0] 99) = wa at HC HB ⊢
  have hbw := HC.out.lt
  refine (counts_any w.heap.size A n c 0 wa HC.out (by omega) hn).mono ?_
  rintro e w1 ⟨zs, B, c1, rfl, hl, hz, hr, k1, hk1, hc1, hg1⟩
  have HC1 := Lib.hid hc1
  have HI1 := Lib.hid hr.ins
  have hs1 := HB.out.size
  have HG1 := Lib.hid hg1
  clear hr hc1 hg1 HC
  go_wp2_with fail
  refine (split_any w.heap.size A n c k1 B c1 wa.heap.size w1.heap.size zs w1 HC1.out (by omega) hn HI1.out hbw (by omega) hz).mono ?_
  rintro e w2 ⟨ss, B2, c2, rfl, hl2, _, hr2, k2, hk2, hc2, hg2⟩
  have HI2 := Lib.hid (HI1.out.far hg2 hbw)
  have HJ2 := Lib.hid hr2.ins
  have HG2 := Lib.hid (HG1.out.trans hg2)
  clear hr2 hc2 hg2
  go_wp2
  go_ret2
  exact ⟨zs, ss, B, B2, c1, c2, rfl, by omega, hl2, ⟨_, _, HI2.out⟩, ⟨_, _, HJ2.out⟩, ⟨HG2.out.os.trans HB.out.os, HG2.out.tape.trans HB.out.tape, HG2.out.output.trans HB.out.output, Nat.le_trans HB.out.size HG2.out.size, fun j hj => (HG2.out.block j (Nat.lt_of_lt_of_le hj HB.out.size) (fun e => by injection e; omega)).trans (HB.out.block j hj)⟩⟩
end Go.Proofs.Ytdkffkgoalgjmac
