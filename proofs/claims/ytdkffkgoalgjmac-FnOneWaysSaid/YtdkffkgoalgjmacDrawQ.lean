/- The draws of chapters 2 and 4: a State, a State and a question, two numbers, one. -/
import Derived.Test.YtdkffkgoalgjmacDrawS
import Derived.Test.YtdkffkgoalgjmacRInv
import Derived.Deep.RegionHeld3
namespace Go.Proofs.Ytdkffkgoalgjmac
open Go.RowKit Go.ChangeShapes Go.WideShapes
set_option linter.unusedVariables false

theorem codeQ_below {w w' : World} {A : Option Addr} {n : Nat} (h : Code w w.heap.size A n) (hb : Below w.heap.size w w') : Code w' w'.heap.size A n := fun h0 => by
  obtain ⟨b, o, e, h1, h2⟩ := h h0
  exact ⟨b, o, e, Nat.lt_of_lt_of_le h1 hb.size, fun j hj => by
    obtain ⟨z, hz⟩ := h2 j hj
    exact ⟨z, (hb.cell (p := ⟨b, o + j, none⟩) h1).trans hz⟩⟩
theorem grownQ_below {w w' : World} {b : Nat} (h : w.grownBy w' (some b)) {B : Nat} (hB : B ≤ b) (hs : B ≤ w.heap.size) : Below B w w' :=
  ⟨h.os, h.tape, h.output, h.size, fun j hj => h.block j (by omega) (fun e => by injection e; omega)⟩
/-- A State that is drawn. -/
def DrewSt (w : World) (e : Ending) (w' : World) : Prop :=
  ∃ (zs : List Int) (B : Option Addr) (c' : Nat) (m : Int), e = .returned (.agg #[.slice B zs.length c', .int .i64 m]) ∧ zs.length ≤ 13 ∧ Res w' w.heap.size w'.heap.size B zs ∧ Below w.heap.size w w'
set_option maxRecDepth 100000 in
set_option maxHeartbeats 4000000 in
theorem drawNT_any (A : Option Addr) (n c : Nat) (w : World) (h : Code w w.heap.size A n) (hn : n ≤ 65536) :
    Calls Try.prog 107 #[.slice A n c] w fun e w' => ∃ x : Int, e = .returned (.int .i64 x) ∧ Below w.heap.size w w' := by
  have HC := Lib.hid (Cur.new (c := c) h)
  have HB := Lib.hid ((Below.refl w.heap.size w).alloc (Nat.le_refl _) (.cells #[.slice A n c, .int .i64 0, .int .u64 0] 99))
  clear h
  go_enter Try.func107, Try.ntmps107
  go_wp2_with fail
  generalize w.alloc (.cells #[.slice A n c, .int .i64 0, .int .u64 0] 99) = wa at HC HB ⊢
  refine (lies_any w.heap.size A n c 0 wa HC.out (by omega) hn).mono ?_
  rintro e wb ⟨x, rfl, hx, k2, hk2, hc1, hg1⟩
  have HB2 := Lib.hid (HB.out.trans (grownQ_below hg1 (Nat.le_refl _) HB.out.size))
  clear hc1 hg1 hx
  go_wp2
  go_ret
  exact ⟨x, rfl, HB2.out⟩
set_option maxRecDepth 100000 in
set_option maxHeartbeats 4000000 in
theorem drawMN_any (A : Option Addr) (n c : Nat) (w : World) (h : Code w w.heap.size A n) (hn : n ≤ 65536) :
    Calls Try.prog 111 #[.slice A n c] w fun e w' => ∃ x y : Int, e = .returned (.tuple #[.int .i64 x, .int .i64 y]) ∧ Below w.heap.size w w' := by
  have HC := Lib.hid (Cur.new (c := c) h)
  have HB := Lib.hid ((Below.refl w.heap.size w).alloc (Nat.le_refl _) (.cells #[.slice A n c, .int .i64 0, .int .u64 0] 99))
  clear h
  go_enter Try.func111, Try.ntmps111
  go_wp2_with fail
  have hsa : (w.alloc (.cells #[.slice A n c, .int .i64 0, .int .u64 0] 99)).heap.size = w.heap.size + 1 := by simp
  generalize w.alloc (.cells #[.slice A n c, .int .i64 0, .int .u64 0] 99) = wa at HC HB hsa ⊢
  rw [← hsa]
  refine (amongP_any anyP w.heap.size A n c 0 13 wa.heap.size 13 _ (HC.out.alloc _) (by omega) hn (by omega) (by omega) ?hL (by omega) (by simp)).mono ?_
  case hL => exact list_num wa _ _ 13 (Nat.le_refl _) rfl
  rintro e w1 ⟨x, rfl, hx, k1, hk1, hc1, hg1⟩
  have hg1' := (only_alloc (World.grownBy.refl wa (some w.heap.size)) _).trans hg1
  have HC1 := Lib.hid hc1
  have HB1 := Lib.hid (HB.out.trans (grownQ_below hg1' (Nat.le_refl _) HB.out.size))
  clear hc1 hg1 hg1' hx HC
  go_wp2_with fail
  refine (lies_any w.heap.size A n c k1 w1 HC1.out (by omega) hn).mono ?_
  rintro e wb ⟨y, rfl, hy, k2, hk2, hc1, hg1⟩
  have HB2 := Lib.hid (HB1.out.trans (grownQ_below hg1 (Nat.le_refl _) HB1.out.size))
  clear hc1 hg1 hy
  go_wp2
  go_ret2
  exact ⟨x, y, rfl, HB2.out⟩
theorem Two.farQ {w w' : World} {b i : Nat} {x y : Value} {t : TypeId} (h : Two w i x y t) (hg : w.grownBy w' (some b)) (hne : i ≠ b) : Two w' i x y t := ⟨(far_same hg h.lt hne).trans h.row⟩
theorem TwoS.fs {w : World} {b g i : Nat} {x y u : Value} (h : TwoS w b x y) (hne : g ≠ b) : TwoS (w.setCell ⟨g, i, none⟩ u) b x y := h.grown (grown_set u) (fun e => hne (by injection e))
/-- The slots of DrawAnswerState's region that draws, and what holds on the way. -/
structure AInv (w : World) (bx lo hi : Nat) (A : Option Addr) (n c k : Nat) (B : Option Addr) (zs : List Int) (c' : Nat) (m : Int) (y : Bool) (D : Nat → Bool) (v14 v15 v16 v17 v18 v19 v20 v21 : Value) (W : World) : Prop where
  s14 : D 0 = true → v14 = .agg #[.slice B zs.length c', .int .i64 m]
  s15 : D 1 = true → v15 = .pointer (some ⟨w.heap.size + 2, 0, none⟩)
  s16 : D 2 = true → v16 = .pointer (some ⟨bx, 0, none⟩)
  s17 : D 3 = true → v17 = .slice B zs.length c'
  s18 : D 4 = true → v18 = .int .i64 (zs.length : Int)
  s19 : D 5 = true → ∃ q : Int, v19 = .int .i64 q
  s20 : D 6 = true → v20 = .bool y
  s21 : D 7 = true → ∃ q : Int, v21 = .agg #[.int .i64 q, .bool y]
  wX : TwoS W bx (.slice B zs.length c') (.int .i64 m)
  wR : D 8 = false → TwoS W w.heap.size (.slice none 0 0) (.int .i64 0)
  wR2 : D 8 = true → TwoS W w.heap.size (.slice B zs.length c') (.int .i64 m)
  wA : D 9 = false → Two W (w.heap.size + 1) (.int .i64 0) (.bool false) 52
  wA2 : D 9 = true → ∃ q : Int, Two W (w.heap.size + 1) (.int .i64 q) (.bool y) 52
  wO : Own W lo hi B zs
  wB : Below w.heap.size w W
  top : hi ≤ W.heap.size
  wC : D 5 = false → Cur W (w.heap.size + 2) A n c k
  o5 : D 8 = true → D 5 = true
  o8 : D 9 = true → D 8 = true
  o9 : bx ≠ w.heap.size ∧ bx ≠ w.heap.size + 1 ∧ bx ≠ w.heap.size + 2 ∧ w.heap.size + 2 < lo
def aAct (x0 x2 x3 x4 x5 x6 x7 x8 x9 x10 x11 x12 x13 v14 v15 v16 v17 v18 v19 v20 v21 : Value) : Act :=
  { tmps := #[x0, undef, x2, x3, x4, x5, x6, x7, x8, x9, x10, x11, x12, x13, v14, v15, v16, v17, v18, v19, v20, v21], defers := [] }
theorem notQ_of {D : Nat → Bool} {i j : Nat} (h : D i = true → D j = true) (hj : D j = false) : D i = false := by
  rcases Bool.eq_false_or_eq_true (D i) with h1 | h1
  · rw [h h1] at hj; cases hj
  · exact h1
theorem Two.fs {w : World} {b g i : Nat} {x y u : Value} {t : TypeId} (h : Two w b x y t) (hne : g ≠ b) : Two (w.setCell ⟨g, i, none⟩ u) b x y t := ⟨(Below.heap_setCell w ⟨g, i, none⟩ u b (fun e => hne (by have e' : b = g := e; exact e'.symm))).trans h.row⟩
theorem Own.fs {w : World} {lo hi g i : Nat} {B : Option Addr} {zs : List Int} {u : Value} (h : Own w lo hi B zs) (hg : g < lo) : Own (w.setCell ⟨g, i, none⟩ u) lo hi B zs := by
  rcases h with h | ⟨g', cur, rfl, h1, h2, hr, h3, h4⟩
  · exact .inl h
  · exact .inr ⟨g', cur, rfl, h1, h2, (Below.heap_setCell w ⟨g, i, none⟩ u g' (fun e => by have e' : g' = g := e; omega)).trans hr, h3, h4⟩
theorem belowQ_set {w W : World} {g i : Nat} {u : Value} (h : Below w.heap.size w W) (hg : w.heap.size ≤ g) : Below w.heap.size w (W.setCell ⟨g, i, none⟩ u) :=
  ⟨h.os, h.tape, h.output, by simpa [World.setCell] using h.size, fun j hj => (Below.heap_setCell W ⟨g, i, none⟩ u j (fun e => by have e' : j = g := e; omega)).trans (h.block j hj)⟩
/-- A State and an answer that are drawn. -/
def DrewSA (w : World) (e : Ending) (w' : World) : Prop :=
  ∃ (zs : List Int) (B : Option Addr) (c' : Nat) (m q : Int) (y : Bool), e = .returned (.tuple #[.agg #[.slice B zs.length c', .int .i64 m], .agg #[.int .i64 q, .bool y]]) ∧ zs.length ≤ 13 ∧ Res w' w.heap.size w'.heap.size B zs ∧ Below w.heap.size w w'
set_option maxRecDepth 100000 in
set_option maxHeartbeats 2000000 in
theorem drawAS_any (A : Option Addr) (n c : Nat) (w : World) (h : Code w w.heap.size A n) (hn : n ≤ 65536) :
    Calls Try.prog 78 #[.slice A n c] w (DrewSA w) := by
  have B1 := (Below.refl w.heap.size w).alloc (Nat.le_refl _) (.cells #[.slice none 0 0, .int .i64 0] 28)
  have h1 := codeQ_below h B1
  have hR := TwoS.new w (.slice none 0 0) (.int .i64 0) w.heap.size rfl
  have hsz : (w.alloc (.cells #[.slice none 0 0, .int .i64 0] 28)).heap.size = w.heap.size + 1 := by simp
  generalize hwA : w.alloc (.cells #[.slice none 0 0, .int .i64 0] 28) = wA at B1 h1 hR hsz
  have B2 := (Below.refl wA.heap.size wA).alloc (Nat.le_refl _) (.cells #[.int .i64 0, .bool false] 52)
  have h2 := codeQ_below h1 B2
  have hR2 := hR.step B2
  have hA2 := Two.new wA (.int .i64 0) (.bool false) 52 (w.heap.size + 1) hsz.symm
  have hB2 := below_trans B1 B2
  have hsz2 : (wA.alloc (.cells #[.int .i64 0, .bool false] 52)).heap.size = w.heap.size + 2 := by simp [hsz]
  generalize hwB : wA.alloc (.cells #[.int .i64 0, .bool false] 52) = wB at h2 hR2 hA2 hB2 hsz2
  have B3 := (Below.refl wB.heap.size wB).alloc (Nat.le_refl _) (.cells #[.slice A n c, .int .i64 0, .int .u64 0] 99)
  have HC0 := Lib.hid (Cur.new (c := c) h2)
  rw [hsz2] at HC0
  have HR1 := Lib.hid (hR2.step B3)
  have HA1 := Lib.hid (hA2.step B3)
  have HB1 := Lib.hid (below_trans hB2 B3)
  subst hwB
  subst hwA
  clear h h1 h2 B1 B2 B3 hR hR2 hA2 hB2 hsz hsz2
  go_enter Try.func78, Try.ntmps78
  go_wp2_with fail
  generalize ((w.alloc (.cells #[.slice none 0 0, .int .i64 0] 28)).alloc (.cells #[.int .i64 0, .bool false] 52)).alloc (.cells #[.slice A n c, .int .i64 0, .int .u64 0] 99) = wa at HC0 HR1 HA1 HB1 ⊢
  try rw [show w.heap.size + 1 + 1 = w.heap.size + 2 from rfl]
  refine (state_any (w.heap.size + 2) A n c 0 wa HC0.out (by omega) hn).mono ?_
  rintro e wb ⟨zs, B, c', m, rfl, hzl, hzc, hres, k1, hk1, hc1, hg1⟩
  have hbl := HC0.out.lt
  have A2 := (Below.refl wb.heap.size wb).alloc (Nat.le_refl _) (.cells #[.slice B zs.length c', .int .i64 m] 28)
  have HX := Lib.hid (TwoS.new wb (.slice B zs.length c') (.int .i64 m) wb.heap.size rfl)
  have HC1 := Lib.hid (hc1.alloc (.cells #[.slice B zs.length c', .int .i64 m] 28))
  have HR2 := Lib.hid ((HR1.out.far hg1 (by omega)).step A2)
  have HA2 := Lib.hid ((HA1.out.farQ hg1 (by omega)).step A2)
  have HS2 := Lib.hid (hres.step A2)
  have HB2 := Lib.hid (below_trans (HB1.out.trans (grownQ_below hg1 (by omega) HB1.out.size)) A2)
  have hbb : w.heap.size + 2 < wb.heap.size := Nat.lt_of_lt_of_le hbl hg1.size
  clear hc1 hg1 hres A2 HC0 HR1 HA1 HB1
  go_wp2_with fail
  generalize wb.alloc (.cells #[.slice B zs.length c', .int .i64 m] 28) = wc at HX HC1 HR2 HA2 HS2 HB2 ⊢
  generalize hbx : wb.heap.size = bx at HX hbb ⊢
  have hne1 : bx ≠ w.heap.size + 2 := by omega
  have hne2 : w.heap.size ≠ w.heap.size + 2 := by omega
  have hne3 : w.heap.size + 1 ≠ w.heap.size + 2 := by omega
  have hlo : w.heap.size + 2 < wa.heap.size := hbl
  have hB0w : w.heap.size ≤ wa.heap.size := by omega
  have hx1 : w.heap.size ≠ bx := by omega
  have hx2 : w.heap.size + 1 ≠ bx := by omega
  have hzs : zs.length ≤ 1048576 := by omega
  refine (one_any (w.heap.size + 2) A n c k1 2 wc HC1.out (by omega) hn (by omega) (by omega)).mono ?_
  rintro e w2 ⟨y, rfl, k2, hk2, hc2, hg2⟩
  have HC2 := Lib.hid hc2
  have HX2 := Lib.hid (HX.out.far hg2 hne1)
  have HR3 := Lib.hid (HR2.out.far hg2 hne2)
  have HA3 := Lib.hid (HA2.out.farQ hg2 hne3)
  have HO3 := Lib.hid (HS2.out.own.far hg2 hlo)
  have HB3 := Lib.hid (HB2.out.trans (grownQ_below hg2 (by omega) HB2.out.size))
  have htop3 : wb.heap.size ≤ w2.heap.size := Nat.le_trans HS2.out.top hg2.size
  clear hc2 hg2 HX HC1 HR2 HA2 HS2 HB2
  go_wp2_with fail
  refine wp_region_inv (by kernel_rfl) (by kernel_rfl) (fun D Ac W => ∃ v14 v15 v16 v17 v18 v19 v20 v21, Ac = aAct (.slice A n c) (.pointer (some ⟨w.heap.size, 0, none⟩)) (.pointer (some ⟨w.heap.size + 1, 0, none⟩)) (.pointer (some ⟨w.heap.size + 2, 0, none⟩)) (.pointer (some ⟨bx, 0, none⟩)) (.bool y) (.slice A n c) (.agg #[.slice A n c, .int .i64 0, .int .u64 0]) (.pointer (some ⟨w.heap.size + 2, 0, none⟩)) (.pointer (some ⟨w.heap.size + 2, 0, none⟩)) (.agg #[.slice B zs.length c', .int .i64 m]) (.pointer (some ⟨w.heap.size + 2, 0, none⟩)) (.bool y) v14 v15 v16 v17 v18 v19 v20 v21 ∧ AInv w bx wa.heap.size wb.heap.size A n c k2 B zs c' m y D v14 v15 v16 v17 v18 v19 v20 v21 W) ?h0 ?hs ?hd
  case h0 =>
    have hdr : Below w2.heap.size w2 w2.drew := (Below.refl _ w2).drew
    exact ⟨_, _, _, _, _, _, _, _, rfl, ⟨nofun, nofun, nofun, nofun, nofun, nofun, nofun, nofun, HX2.out.step hdr, fun _ => HR3.out.step hdr, nofun, fun _ => HA3.out.step hdr, nofun, HO3.out.below hdr htop3, below_trans HB3.out hdr, htop3, fun _ => HC2.out.grown (row := none) ⟨rfl, rfl, rfl, Nat.le_refl _, fun _ _ _ => rfl⟩ (fun g e => by cases e), nofun, nofun, ⟨Ne.symm hx1, Ne.symm hx2, hne1, hlo⟩⟩⟩
  case hs =>
    rintro D _ W ⟨v14, v15, v16, v17, v18, v19, v20, v21, rfl, hI⟩ i o ho hD hA K hK
    have hi : i < 10 := (Array.getElem?_eq_some_iff.1 ho).1
    have HI := Lib.hid hI
    have HK := Lib.hid hK
    clear hI hK
    obtain rfl | rfl | rfl | rfl | rfl | rfl | rfl | rfl | rfl | rfl : i = 0 ∨ i = 1 ∨ i = 2 ∨ i = 3 ∨ i = 4 ∨ i = 5 ∨ i = 6 ∨ i = 7 ∨ i = 8 ∨ i = 9 := by omega
    all_goals (obtain rfl := Option.some.inj ho; clear ho hi; simp [Region.binds] at hA; unfold aAct)
    · have c0 := HI.out.wX.c0
      have c1 := HI.out.wX.c1
      go_simp
      exact HK.out _ _ ⟨_, _, _, _, _, _, _, _, rfl, ⟨(fun _ => rfl), (by simpa using HI.out.s15), (by simpa using HI.out.s16), (by simpa using HI.out.s17), (by simpa using HI.out.s18), (by simpa using HI.out.s19), (by simpa using HI.out.s20), (by simpa using HI.out.s21), HI.out.wX, (by simpa using HI.out.wR), (by simpa using HI.out.wR2), (by simpa using HI.out.wA), (by simpa using HI.out.wA2), HI.out.wO, HI.out.wB, HI.out.top, (by simpa using HI.out.wC), (by simpa using HI.out.o5), (by simpa using HI.out.o8), HI.out.o9⟩⟩
    · go_simp
      exact HK.out _ _ ⟨_, _, _, _, _, _, _, _, rfl, ⟨(by simpa using HI.out.s14), (fun _ => rfl), (by simpa using HI.out.s16), (by simpa using HI.out.s17), (by simpa using HI.out.s18), (by simpa using HI.out.s19), (by simpa using HI.out.s20), (by simpa using HI.out.s21), HI.out.wX, (by simpa using HI.out.wR), (by simpa using HI.out.wR2), (by simpa using HI.out.wA), (by simpa using HI.out.wA2), HI.out.wO, HI.out.wB, HI.out.top, (by simpa using HI.out.wC), (by simpa using HI.out.o5), (by simpa using HI.out.o8), HI.out.o9⟩⟩
    · go_simp
      exact HK.out _ _ ⟨_, _, _, _, _, _, _, _, rfl, ⟨(by simpa using HI.out.s14), (by simpa using HI.out.s15), (fun _ => rfl), (by simpa using HI.out.s17), (by simpa using HI.out.s18), (by simpa using HI.out.s19), (by simpa using HI.out.s20), (by simpa using HI.out.s21), HI.out.wX, (by simpa using HI.out.wR), (by simpa using HI.out.wR2), (by simpa using HI.out.wA), (by simpa using HI.out.wA2), HI.out.wO, HI.out.wB, HI.out.top, (by simpa using HI.out.wC), (by simpa using HI.out.o5), (by simpa using HI.out.o8), HI.out.o9⟩⟩
    · obtain rfl := HI.out.s16 hA
      have c0 := HI.out.wX.c0
      go_simp
      exact HK.out _ _ ⟨_, _, _, _, _, _, _, _, rfl, ⟨(by simpa using HI.out.s14), (by simpa using HI.out.s15), (fun _ => rfl), (fun _ => rfl), (by simpa using HI.out.s18), (by simpa using HI.out.s19), (by simpa using HI.out.s20), (by simpa using HI.out.s21), HI.out.wX, (by simpa using HI.out.wR), (by simpa using HI.out.wR2), (by simpa using HI.out.wA), (by simpa using HI.out.wA2), HI.out.wO, HI.out.wB, HI.out.top, (by simpa using HI.out.wC), (by simpa using HI.out.o5), (by simpa using HI.out.o8), HI.out.o9⟩⟩
    · obtain rfl := HI.out.s17 hA
      go_simp
      exact HK.out _ _ ⟨_, _, _, _, _, _, _, _, rfl, ⟨(by simpa using HI.out.s14), (by simpa using HI.out.s15), (by simpa using HI.out.s16), (fun _ => rfl), (fun _ => rfl), (by simpa using HI.out.s19), (by simpa using HI.out.s20), (by simpa using HI.out.s21), HI.out.wX, (by simpa using HI.out.wR), (by simpa using HI.out.wR2), (by simpa using HI.out.wA), (by simpa using HI.out.wA2), HI.out.wO, HI.out.wB, HI.out.top, (by simpa using HI.out.wC), (by simpa using HI.out.o5), (by simpa using HI.out.o8), HI.out.o9⟩⟩
    · obtain rfl := HI.out.s15 hA.1
      obtain rfl := HI.out.s18 hA.2
      have h8 := notQ_of HI.out.o5 hD
      have h9 := notQ_of HI.out.o8 h8
      obtain ⟨n1, n2, n3, n4⟩ := HI.out.o9
      go_simp
      refine (question_any (w.heap.size + 2) A n c k2 zs.length W (HI.out.wC hD) (by omega) hn hzs).mono ?_
      rintro e w4 ⟨kq, rfl, hkq, k3, hk3, hc3, hg3⟩
      exact HK.out _ _ ⟨_, _, _, _, _, _, _, _, rfl, ⟨(by simpa using HI.out.s14), (fun _ => rfl), (by simpa using HI.out.s16), (by simpa using HI.out.s17), (fun _ => rfl), (fun _ => ⟨kq, rfl⟩), (by simpa using HI.out.s20), (by simpa using HI.out.s21), (HI.out.wX.far hg3 n3), (fun _ => (HI.out.wR h8).far hg3 (by omega)), (fun h => by simp [h8] at h), (fun _ => (HI.out.wA h9).farQ hg3 (by omega)), (fun h => by simp [h9] at h), (HI.out.wO.far hg3 n4), (HI.out.wB.trans (grownQ_below hg3 (by omega) HI.out.wB.size)), (Nat.le_trans HI.out.top hg3.size), (fun h => by simp at h), (fun h => by simp [h8] at h), (fun h => by simp [h9] at h), HI.out.o9⟩⟩
    · go_simp
      exact HK.out _ _ ⟨_, _, _, _, _, _, _, _, rfl, ⟨(by simpa using HI.out.s14), (by simpa using HI.out.s15), (by simpa using HI.out.s16), (by simpa using HI.out.s17), (by simpa using HI.out.s18), (by simpa using HI.out.s19), (fun _ => rfl), (by simpa using HI.out.s21), HI.out.wX, (by simpa using HI.out.wR), (by simpa using HI.out.wR2), (by simpa using HI.out.wA), (by simpa using HI.out.wA2), HI.out.wO, HI.out.wB, HI.out.top, (by simpa using HI.out.wC), (by simpa using HI.out.o5), (by simpa using HI.out.o8), HI.out.o9⟩⟩
    · obtain ⟨q, rfl⟩ := HI.out.s19 hA.1
      obtain rfl := HI.out.s20 hA.2
      go_simp
      exact HK.out _ _ ⟨_, _, _, _, _, _, _, _, rfl, ⟨(by simpa using HI.out.s14), (by simpa using HI.out.s15), (by simpa using HI.out.s16), (by simpa using HI.out.s17), (by simpa using HI.out.s18), (fun _ => ⟨q, rfl⟩), (fun _ => rfl), (fun _ => ⟨q, rfl⟩), HI.out.wX, (by simpa using HI.out.wR), (by simpa using HI.out.wR2), (by simpa using HI.out.wA), (by simpa using HI.out.wA2), HI.out.wO, HI.out.wB, HI.out.top, (by simpa using HI.out.wC), (by simpa using HI.out.o5), (by simpa using HI.out.o8), HI.out.o9⟩⟩
    · obtain rfl := HI.out.s14 hA.1
      have h9 := notQ_of HI.out.o8 hD
      obtain ⟨n1, n2, n3, n4⟩ := HI.out.o9
      have c0 := (HI.out.wR hD).c0
      have c1 := (HI.out.wR hD).c1
      have f0 := (HI.out.wR hD).f0
      have f1 := (HI.out.wR hD).f1
      obtain ⟨hs2, _⟩ := stored2 (HI.out.wR hD).row (.slice B zs.length c') (.int .i64 m)
      go_simp
      exact HK.out _ _ ⟨_, _, _, _, _, _, _, _, rfl, ⟨(fun _ => rfl), (by simpa using HI.out.s15), (by simpa using HI.out.s16), (by simpa using HI.out.s17), (by simpa using HI.out.s18), (by simpa using HI.out.s19), (by simpa using HI.out.s20), (by simpa using HI.out.s21), ((HI.out.wX.fs (Ne.symm n1)).fs (Ne.symm n1)), (fun h => by simp at h), (fun _ => ⟨hs2⟩), (fun _ => ((HI.out.wA h9).fs (by omega)).fs (by omega)), (fun h => by simp [h9] at h), ((HI.out.wO.fs (by omega)).fs (by omega)), (belowQ_set (belowQ_set HI.out.wB (Nat.le_refl _)) (Nat.le_refl _)), (by simpa [World.setCell] using HI.out.top), (fun h => by simp [hA.2.1] at h), (fun _ => by simp [hA.2.1]), (fun h => by simp [h9] at h), HI.out.o9⟩⟩
    · obtain ⟨q, rfl⟩ := HI.out.s21 hA.1
      obtain ⟨n1, n2, n3, n4⟩ := HI.out.o9
      have h8 : D 8 = true := hA.2.1
      have c0 := (HI.out.wA hD).c0
      have c1 := (HI.out.wA hD).c1
      have f0 := (HI.out.wA hD).f0
      have f1 := (HI.out.wA hD).f1
      obtain ⟨hs2, _⟩ := stored2 (HI.out.wA hD).row (.int .i64 q) (.bool y)
      go_simp
      exact HK.out _ _ ⟨_, _, _, _, _, _, _, _, rfl, ⟨(by simpa using HI.out.s14), (by simpa using HI.out.s15), (by simpa using HI.out.s16), (by simpa using HI.out.s17), (by simpa using HI.out.s18), (by simpa using HI.out.s19), (by simpa using HI.out.s20), (fun _ => ⟨q, rfl⟩), ((HI.out.wX.fs (Ne.symm n2)).fs (Ne.symm n2)), (fun h => by simp [h8] at h), (fun _ => ((HI.out.wR2 h8).fs (by omega)).fs (by omega)), (fun h => by simp at h), (fun _ => ⟨q, ⟨hs2⟩⟩), ((HI.out.wO.fs (by omega)).fs (by omega)), (belowQ_set (belowQ_set HI.out.wB (Nat.le_succ _)) (Nat.le_succ _)), (by simpa [World.setCell] using HI.out.top), (fun h => by have h5 := HI.out.o5 h8; simp [h5] at h), (by simpa using HI.out.o5), (fun _ => by simp [h8]), HI.out.o9⟩⟩
  case hd =>
    rintro D _ W ⟨v14, v15, v16, v17, v18, v19, v20, v21, rfl, hI⟩ hall
    have hall : ∀ i, i < 10 → D i = true := hall
    have hR := hI.wR2 (hall 8 (by omega))
    obtain ⟨q, hAq⟩ := hI.wA2 (hall 9 (by omega))
    have e0 := hR.c0
    have e1 := hR.c1
    have a0 := hAq.c0
    have a1 := hAq.c1
    have HO := Lib.hid hI.wO
    have HB := Lib.hid hI.wB
    have HT := Lib.hid hI.top
    have hw0 := hB0w
    clear hI hall
    unfold aAct
    go_wp2
    refine bodyPost_ret (v := .tuple #[.agg #[.slice B zs.length c', .int .i64 m], .agg #[.int .i64 q, .bool y]]) (by simp [results, go_sem, e0, e1, a0, a1]) rfl ?_
    exact ⟨zs, B, c', m, q, y, rfl, hzl, ⟨HO.out.wide hw0 HT.out, Nat.le_refl _⟩, HB.out⟩
/-- A State and a question that are drawn. -/
def DrewSQu (w : World) (e : Ending) (w' : World) : Prop :=
  ∃ (zs : List Int) (B : Option Addr) (c' : Nat) (m q : Int), e = .returned (.tuple #[.agg #[.slice B zs.length c', .int .i64 m], .int .i64 q]) ∧ zs.length ≤ 13 ∧ Res w' w.heap.size w'.heap.size B zs ∧ Below w.heap.size w w'
end Go.Proofs.Ytdkffkgoalgjmac
