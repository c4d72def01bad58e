/- Rows of three: where yes and no lead. -/
import Derived.Test.YthpnkeecpaflfaaRInv
namespace Go.Proofs.Ythpnkeecpaflfaa
open Go.RowKit Go.ChangeShapes Go.WideShapes
set_option linter.unusedVariables false

/-- Two rows laid one behind the other, and the result's. -/
structure Laid3 (w wa : World) (a b c x y z : Value) : Prop where
  t1 : Three wa w.heap.size a b c
  t2 : Three wa (w.heap.size + 1) x y z
  t3 : Three wa (w.heap.size + 1 + 1) (.int .i64 0) (.int .i64 0) (.int .i64 0)
  bel : Below w.heap.size w wa
theorem Laid3.new (w : World) (a b c x y z : Value) :
    Laid3 w (((w.alloc (.cells #[a, b, c] 70)).alloc (.cells #[x, y, z] 70)).alloc (.cells #[.int .i64 0, .int .i64 0, .int .i64 0] 70)) a b c x y z := by
  have B1 := (Below.refl w.heap.size w).alloc (Nat.le_refl _) (.cells #[a, b, c] 70)
  have T1 := Three.new w a b c w.heap.size rfl
  have B2 := B1.alloc B1.size (.cells #[x, y, z] 70)
  have T2 := Three.new (w.alloc (.cells #[a, b, c] 70)) x y z (w.heap.size + 1) (by simp)
  have S1 := (Below.refl _ (w.alloc (.cells #[a, b, c] 70))).alloc (Nat.le_refl _) (.cells #[x, y, z] 70)
  have S2 := (Below.refl _ ((w.alloc (.cells #[a, b, c] 70)).alloc (.cells #[x, y, z] 70))).alloc (Nat.le_refl _) (.cells #[.int .i64 0, .int .i64 0, .int .i64 0] 70)
  exact ⟨(T1.step S1).step S2, T2.step S2, Three.new _ _ _ _ _ (by simp), B2.alloc B2.size _⟩
theorem Laid3.step {w wa wb : World} {a b c x y z : Value} (h : Laid3 w wa a b c x y z) (hb : Below wa.heap.size wa wb) : Laid3 w wb a b c x y z := ⟨h.t1.step hb, h.t2.step hb, h.t3.step hb, below_trans h.bel hb⟩
theorem Laid3.alloc {w wa : World} {a b c x y z : Value} (h : Laid3 w wa a b c x y z) (o : Obj) : Laid3 w (wa.alloc o) a b c x y z := h.step ((Below.refl _ _).alloc (Nat.le_refl _) o)
theorem Laid3.drew {w wa : World} {a b c x y z : Value} (h : Laid3 w wa a b c x y z) : Laid3 w wa.drew a b c x y z := h.step (Below.refl _ wa).drew
theorem frozen_of_block {w w' : World} {a : Addr} (h : w'.heap[a.block]? = w.heap[a.block]?) : w'.frozen? a = w.frozen? a := by simp [World.frozen?, h]
theorem cell_alloc {w : World} {b : Nat} (h : b < w.heap.size) (o : Obj) (j : Nat) : (w.alloc o).cell? ⟨b, j, none⟩ = w.cell? ⟨b, j, none⟩ := World.cell?_of_block (((Below.refl _ w).alloc (Nat.le_refl _) o).block b h)
theorem froz_alloc {w : World} {b : Nat} (h : b < w.heap.size) (o : Obj) (j : Nat) : (w.alloc o).frozen? ⟨b, j, none⟩ = w.frozen? ⟨b, j, none⟩ := frozen_of_block (((Below.refl _ w).alloc (Nat.le_refl _) o).block b h)
theorem cell_set {b g : Nat} (h : b ≠ g) (w : World) (i j : Nat) (u : Value) : (w.setCell ⟨g, i, none⟩ u).cell? ⟨b, j, none⟩ = w.cell? ⟨b, j, none⟩ := World.cell?_of_block (Below.heap_setCell w ⟨g, i, none⟩ u b h)
theorem froz_set {b g : Nat} (h : b ≠ g) (w : World) (i j : Nat) (u : Value) : (w.setCell ⟨g, i, none⟩ u).frozen? ⟨b, j, none⟩ = w.frozen? ⟨b, j, none⟩ := frozen_of_block (Below.heap_setCell w ⟨g, i, none⟩ u b h)
theorem Laid3.far {w wa : World} {a b c x y z : Value} (h : Laid3 w wa a b c x y z) {g : Nat} (hg : w.heap.size + 1 + 1 < g) (u v t : Value) : Laid3 w (((wa.setCell ⟨g, 0, none⟩ u).setCell ⟨g, 1, none⟩ v).setCell ⟨g, 2, none⟩ t) a b c x y z :=
  ⟨h.t1.far3 (by omega) _ _ _, h.t2.far3 (by omega) _ _ _, h.t3.far3 (by omega) _ _ _, below_set3 h.bel (by omega) _ _ _⟩
theorem Laid3.S {w wa : World} {a b c x y z : Value} (h : Laid3 w wa a b c x y z) :
    wa.cell? ⟨w.heap.size, 0, none⟩ = some a ∧ wa.cell? ⟨w.heap.size, 1, none⟩ = some b ∧ wa.cell? ⟨w.heap.size, 2, none⟩ = some c ∧ wa.cell? ⟨w.heap.size + 1, 0, none⟩ = some x ∧ wa.cell? ⟨w.heap.size + 1, 1, none⟩ = some y ∧ wa.cell? ⟨w.heap.size + 1, 2, none⟩ = some z :=
  ⟨h.t1.c0, h.t1.c1, h.t1.c2, h.t2.c0, h.t2.c1, h.t2.c2⟩


/-- The slots of yesRow's region that draws. -/
def yAct (n : Nat) (abc xyz v5 v6 v8 v9 v10 v11 : Value) : Act :=
  { tmps := #[abc, xyz, .pointer (some ⟨n, 0, none⟩), .pointer (some ⟨n + 1, 0, none⟩), .pointer (some ⟨n + 1 + 1, 0, none⟩), v5, v6, undef, v8, v9, v10, v11, undef, undef, undef, undef, undef, undef, undef, undef, undef, undef, undef, undef, undef, undef], defers := [] }
def row3 (a b c : Int) : Value := .agg #[.int .i64 a, .int .i64 b, .int .i64 c]
structure YInv (w0 : World) (s : Nat) (a b c x y z : Int) (D : Nat → Bool) (v5 v6 v8 v9 v10 v11 : Value) (W : World) : Prop where
  laid : Laid3 w0 W (.int .i64 a) (.int .i64 b) (.int .i64 c) (.int .i64 x) (.int .i64 y) (.int .i64 z)
  top : s ≤ W.heap.size
  s8 : D 0 = true → v8 = row3 x y z
  s9 : D 1 = true → v9 = row3 a b c
  s10 : D 2 = true → v10 = row3 x y z
  s11 : D 3 = true → v11 = row3 (a - x) (b - y) (c - z)
  s5 : D 4 = true → ∃ b5, v5 = .pointer (some ⟨b5, 0, none⟩) ∧ s ≤ b5 ∧ Three W b5 (.int .i64 (if D 6 = true then x else 0)) (.int .i64 (if D 6 = true then y else 0)) (.int .i64 (if D 6 = true then z else 0))
  s6 : D 5 = true → ∃ b6, v6 = .pointer (some ⟨b6, 0, none⟩) ∧ s ≤ b6 ∧ Three W b6 (.int .i64 (if D 7 = true then a - x else 0)) (.int .i64 (if D 7 = true then b - y else 0)) (.int .i64 (if D 7 = true then c - z else 0))
  ne : D 4 = true → D 5 = true → v5 ≠ v6
  o6 : D 6 = true → D 4 = true
  o7 : D 7 = true → D 5 = true
set_option maxRecDepth 100000 in
set_option maxHeartbeats 4000000 in
theorem yesRow_int (a b c x y z : Int) (w : World) (ha : 0 ≤ a ∧ a ≤ 8) (hb : 0 ≤ b ∧ b ≤ 8) (hc : 0 ≤ c ∧ c ≤ 8) (hx : 0 ≤ x ∧ x ≤ 8) (hy : 0 ≤ y ∧ y ≤ 8) (hz : 0 ≤ z ∧ z ≤ 8) :
    Calls Try.prog 73 #[.agg #[.int .i64 a, .int .i64 b, .int .i64 c], .agg #[.int .i64 x, .int .i64 y, .int .i64 z]] w fun e w' => e = .returned (.agg #[.int .i64 x, .int .i64 (y + (a - x)), .int .i64 (z + (b - y))]) ∧ Below w.heap.size w w' := by
  have HL := Lib.hid (Laid3.new w (.int .i64 a) (.int .i64 b) (.int .i64 c) (.int .i64 x) (.int .i64 y) (.int .i64 z))
  have HC := Lib.hid (fun W => leavesOf_int a b c x y z W ha hb hc hx hy hz)
  go_enter Try.func73, Try.ntmps73
  go_wp2_with fail
  generalize ((w.alloc (.cells #[.int .i64 a, .int .i64 b, .int .i64 c] 70)).alloc (.cells #[.int .i64 x, .int .i64 y, .int .i64 z] 70)).alloc (.cells #[.int .i64 0, .int .i64 0, .int .i64 0] 70) = wa at HL ⊢
  have HZ : Hid (w.heap.size + 1 + 1 < wa.heap.size) := Lib.hid HL.out.t3.lt
  go_cut [5, 6] from 8 to 11 (fun p5 p6 wx => ∃ (b5 b6 : Nat), p5 = .pointer (some ⟨b5, 0, none⟩) ∧ p6 = .pointer (some ⟨b6, 0, none⟩) ∧ Hid (Three wx b5 (.int .i64 x) (.int .i64 y) (.int .i64 z)) ∧ Hid (Three wx b6 (.int .i64 (a - x)) (.int .i64 (b - y)) (.int .i64 (c - z))) ∧ Hid (Laid3 w wx (.int .i64 a) (.int .i64 b) (.int .i64 c) (.int .i64 x) (.int .i64 y) (.int .i64 z)) ∧ wa.heap.size ≤ b5 ∧ wa.heap.size ≤ b6 ∧ b5 ≠ b6)
  case first =>
    refine wp_region_noPanic ?_
    refine wp_region_inv (by kernel_rfl) (by kernel_rfl) (fun D A W => ∃ v5 v6 v8 v9 v10 v11, A = yAct w.heap.size (row3 a b c) (row3 x y z) v5 v6 v8 v9 v10 v11 ∧ YInv w wa.heap.size a b c x y z D v5 v6 v8 v9 v10 v11 W) ?h0 ?hs ?hd
    case h0 => exact ⟨undef, undef, undef, undef, undef, undef, rfl, ⟨HL.out.drew, Nat.le_refl _, nofun, nofun, nofun, nofun, nofun, nofun, nofun, nofun, nofun⟩⟩
    case hs =>
      rintro D _ W ⟨v5, v6, v8, v9, v10, v11, rfl, hI⟩ i o ho hD hA K hK
      have hi : i < 8 := (Array.getElem?_eq_some_iff.1 ho).1
      have HI := Lib.hid hI
      have HK := Lib.hid hK
      clear hI hK
      obtain rfl | rfl | rfl | rfl | rfl | rfl | rfl | rfl : i = 0 ∨ i = 1 ∨ i = 2 ∨ i = 3 ∨ i = 4 ∨ i = 5 ∨ i = 6 ∨ i = 7 := by omega
      all_goals (obtain rfl := Option.some.inj ho; clear ho hi; simp [Region.binds] at hA; unfold yAct)
      · have h0 := HI.out.laid.t2.c0
        have h1 := HI.out.laid.t2.c1
        have h2 := HI.out.laid.t2.c2
        go_simp
        exact HK.out _ _ ⟨_, _, _, _, _, _, rfl, ⟨(HI.out.laid), (HI.out.top), (fun _ => rfl), (by simpa using HI.out.s9), (by simpa using HI.out.s10), (by simpa using HI.out.s11), (by simpa using HI.out.s5), (by simpa using HI.out.s6), (by simpa using HI.out.ne), (by simpa using HI.out.o6), (by simpa using HI.out.o7)⟩⟩
      · have h0 := HI.out.laid.t1.c0
        have h1 := HI.out.laid.t1.c1
        have h2 := HI.out.laid.t1.c2
        go_simp
        exact HK.out _ _ ⟨_, _, _, _, _, _, rfl, ⟨(HI.out.laid), (HI.out.top), (by simpa using HI.out.s8), (fun _ => rfl), (by simpa using HI.out.s10), (by simpa using HI.out.s11), (by simpa using HI.out.s5), (by simpa using HI.out.s6), (by simpa using HI.out.ne), (by simpa using HI.out.o6), (by simpa using HI.out.o7)⟩⟩
      · have h0 := HI.out.laid.t2.c0
        have h1 := HI.out.laid.t2.c1
        have h2 := HI.out.laid.t2.c2
        go_simp
        exact HK.out _ _ ⟨_, _, _, _, _, _, rfl, ⟨(HI.out.laid), (HI.out.top), (by simpa using HI.out.s8), (by simpa using HI.out.s9), (fun _ => rfl), (by simpa using HI.out.s11), (by simpa using HI.out.s5), (by simpa using HI.out.s6), (by simpa using HI.out.ne), (by simpa using HI.out.o6), (by simpa using HI.out.o7)⟩⟩
      · obtain rfl := HI.out.s9 hA.1
        obtain rfl := HI.out.s10 hA.2
        unfold row3
        go_simp
        refine (HC.out W).mono ?_
        rintro e w1 ⟨rfl, hb1⟩
        exact HK.out _ _ ⟨_, _, _, _, _, _, rfl, ⟨HI.out.laid.step hb1, Nat.le_trans HI.out.top hb1.size, (by simpa using HI.out.s8), (fun _ => rfl), (fun _ => rfl), (fun _ => rfl), (fun h => by obtain ⟨b5, e, h1, h2⟩ := HI.out.s5 (by simpa using h); exact ⟨b5, e, h1, by simpa using h2.step hb1⟩), (fun h => by obtain ⟨b6, e, h1, h2⟩ := HI.out.s6 (by simpa using h); exact ⟨b6, e, h1, by simpa using h2.step hb1⟩), (by simpa using HI.out.ne), (by simpa using HI.out.o6), (by simpa using HI.out.o7)⟩⟩
      · have hA1 := ((Below.refl _ W).alloc (Nat.le_refl _) (.cells #[.int .i64 0, .int .i64 0, .int .i64 0] 70))
        have hn6 : D 6 = false := by
          rcases Bool.eq_false_or_eq_true (D 6) with h | h
          · rw [HI.out.o6 h] at hD; cases hD
          · exact h
        go_simp
        exact HK.out _ _ ⟨_, _, _, _, _, _, rfl, ⟨HI.out.laid.step hA1, Nat.le_trans HI.out.top hA1.size, (by simpa using HI.out.s8), (by simpa using HI.out.s9), (by simpa using HI.out.s10), (by simpa using HI.out.s11), (fun _ => ⟨W.heap.size, rfl, HI.out.top, by simpa [hn6] using Three.new W (.int .i64 0) (.int .i64 0) (.int .i64 0) W.heap.size rfl⟩), (fun h => by obtain ⟨b6, e, h1, h2⟩ := HI.out.s6 (by simpa using h); exact ⟨b6, e, h1, by simpa using h2.step hA1⟩), (fun _ h5 e => by obtain ⟨b6, e6, h1, h2⟩ := HI.out.s6 (by simpa using h5); have := h2.lt; rw [e6] at e; injection e with e; injection e with e; injection e with e; omega), (fun _ => by simp), (by simpa using HI.out.o7)⟩⟩
      · have hA1 := ((Below.refl _ W).alloc (Nat.le_refl _) (.cells #[.int .i64 0, .int .i64 0, .int .i64 0] 70))
        have hn7 : D 7 = false := by
          rcases Bool.eq_false_or_eq_true (D 7) with h | h
          · rw [HI.out.o7 h] at hD; cases hD
          · exact h
        go_simp
        exact HK.out _ _ ⟨_, _, _, _, _, _, rfl, ⟨HI.out.laid.step hA1, Nat.le_trans HI.out.top hA1.size, (by simpa using HI.out.s8), (by simpa using HI.out.s9), (by simpa using HI.out.s10), (by simpa using HI.out.s11), (fun h => by obtain ⟨b5, e, h1, h2⟩ := HI.out.s5 (by simpa using h); exact ⟨b5, e, h1, by simpa using h2.step hA1⟩), (fun _ => ⟨W.heap.size, rfl, HI.out.top, by simpa [hn7] using Three.new W (.int .i64 0) (.int .i64 0) (.int .i64 0) W.heap.size rfl⟩), (fun h4 _ e => by obtain ⟨b5, e5, h1, h2⟩ := HI.out.s5 (by simpa using h4); have := h2.lt; rw [e5] at e; injection e with e; injection e with e; injection e with e; omega), (by simpa using HI.out.o6), (fun _ => by simp)⟩⟩
      · obtain ⟨b5, rfl, hb5, hT⟩ := HI.out.s5 hA.1
        obtain rfl := HI.out.s8 hA.2.1
        rw [hD] at hT
        simp only [Bool.false_eq_true, if_false] at hT
        have HZ2 := HZ.out
        have c0 := hT.c0
        have c1 := hT.c1
        have c2 := hT.c2
        have f0 := hT.f 0
        have f1 := hT.f 1
        have f2 := hT.f 2
        have HT := Lib.hid hT
        clear hT
        unfold row3
        go_simp
        exact HK.out _ _ ⟨_, _, _, _, _, _, rfl, ⟨HI.out.laid.far (by omega) _ _ _, by simpa [World.setCell] using HI.out.top, (fun _ => rfl), (by simpa using HI.out.s9), (by simpa using HI.out.s10), (by simpa using HI.out.s11), (fun _ => ⟨b5, rfl, hb5, by simpa using HT.out.set (.int .i64 x) (.int .i64 y) (.int .i64 z)⟩), (fun h => by obtain ⟨b6, e, h1, h2⟩ := HI.out.s6 (by simpa using h); have hne := HI.out.ne hA.1 (by simpa using h); exact ⟨b6, e, h1, by simpa using h2.far3 (fun hh => hne (by rw [e, hh])) _ _ _⟩), (by simpa using HI.out.ne), (fun _ => by simpa using hA.1), (by simpa using HI.out.o7)⟩⟩
      · obtain ⟨b6, rfl, hb6, hT⟩ := HI.out.s6 hA.1
        obtain rfl := HI.out.s11 hA.2.1
        rw [hD] at hT
        simp only [Bool.false_eq_true, if_false] at hT
        have HZ2 := HZ.out
        have c0 := hT.c0
        have c1 := hT.c1
        have c2 := hT.c2
        have f0 := hT.f 0
        have f1 := hT.f 1
        have f2 := hT.f 2
        have HT := Lib.hid hT
        clear hT
        unfold row3
        go_simp
        exact HK.out _ _ ⟨_, _, _, _, _, _, rfl, ⟨HI.out.laid.far (by omega) _ _ _, by simpa [World.setCell] using HI.out.top, (by simpa using HI.out.s8), (by simpa using HI.out.s9), (by simpa using HI.out.s10), (fun _ => rfl), (fun h => by obtain ⟨b5, e, h1, h2⟩ := HI.out.s5 (by simpa using h); have hne := HI.out.ne (by simpa using h) hA.1; exact ⟨b5, e, h1, by simpa using h2.far3 (fun hh => hne (by rw [e, hh])) _ _ _⟩), (fun _ => ⟨b6, rfl, hb6, by simpa using HT.out.set (.int .i64 (a - x)) (.int .i64 (b - y)) (.int .i64 (c - z))⟩), (by simpa using HI.out.ne), (by simpa using HI.out.o6), (fun _ => by simpa using hA.1)⟩⟩
    case hd =>
      rintro D _ W ⟨v5, v6, v8, v9, v10, v11, rfl, hI⟩ hall
      have hall : ∀ i, i < 8 → D i = true := hall
      obtain ⟨b5, rfl, hb5, hT5⟩ := hI.s5 (hall 4 (by omega))
      obtain ⟨b6, rfl, hb6, hT6⟩ := hI.s6 (hall 5 (by omega))
      have hne := hI.ne (hall 4 (by omega)) (hall 5 (by omega))
      rw [hall 6 (by omega)] at hT5
      rw [hall 7 (by omega)] at hT6
      simp only [if_true] at hT5 hT6
      have HL2 := Lib.hid hI.laid
      have HT5 := Lib.hid hT5
      have HT6 := Lib.hid hT6
      clear hI hall hT5 hT6
      unfold yAct row3
      refine NoPanic.normal ?_
      go_wp2_with fail
      go_meet
      case rel => exact ⟨b5, b6, rfl, rfl, HT5, HT6, HL2, hb5, hb6, fun e => hne (by rw [e])⟩
  case rest =>
    clear HL HC
    obtain ⟨b5, b6, rfl, rfl, HT5, HT6, HL, hb5, hb6, hne⟩ := hcut
    have hz := HZ.out
    go_wp2_with fail
    go_loopw [7] (fun i wr => ∃ (k : Nat), 1 ≤ k ∧ k ≤ 3 ∧ i = .int .i64 k ∧ Hid (Three wr b5 (.int .i64 x) (.int .i64 (if 1 < k then y + (a - x) else y)) (.int .i64 (if 2 < k then z + (b - y) else z))) ∧ Hid (Three wr b6 (.int .i64 (a - x)) (.int .i64 (b - y)) (.int .i64 (c - z))) ∧ Hid (Three wr (w.heap.size + 1 + 1) (.int .i64 0) (.int .i64 0) (.int .i64 0)) ∧ Hid (Below w.heap.size w wr)) (fun i _ => 3 - (intOf i).toNat)
    case atStart => exact ⟨1, by omega, by omega, rfl, by simpa using HT5, HT6, Lib.hid HL.out.t3, Lib.hid HL.out.bel⟩
    case round =>
      clear HT5 HT6 HL
      obtain ⟨k, hk1, hk, rfl, HT5, HT6, HT3, HB⟩ := hrel
      have q0 := HT6.out.c0
      have q1 := HT6.out.c1
      by_cases k1 : k = 1
      · subst k1
        simp only [Nat.lt_irrefl, if_false, show ¬ (2 < 1) by decide] at HT5
        have p1 := HT5.out.c1
        have f1 := HT5.out.f 1
        go_wp2_with fail
        go_region_with (fail)
        all_goals
          go_wp2
          go_roundw
          case rel => exact ⟨2, by omega, by omega, by go_num, by simpa using Lib.hid ((HT5.out.set1 (.int .i64 (y + (a - x)))).drew), Lib.hid ((HT6.out.far (fun e => hne e.symm) _ _).drew), Lib.hid ((HT3.out.far (by omega) _ _).drew), Lib.hid (below_drew (below_set HB.out (by omega) _ _))⟩
          case measure => simp [intOf]
      · by_cases k2 : k = 2
        · subst k2
          simp only [show (1 < 2) by decide, Nat.lt_irrefl, if_false, if_true] at HT5
          have p2 := HT5.out.c2
          have f2 := HT5.out.f 2
          go_wp2_with fail
          go_region_with (fail)
          all_goals
            go_wp2
            go_roundw
            case rel => exact ⟨3, by omega, by omega, by go_num, by simpa using Lib.hid ((HT5.out.set2 (.int .i64 (z + (b - y)))).drew), Lib.hid ((HT6.out.far (fun e => hne e.symm) _ _).drew), Lib.hid ((HT3.out.far (by omega) _ _).drew), Lib.hid (below_drew (below_set HB.out (by omega) _ _))⟩
            case measure => simp [intOf]
        · obtain rfl : k = 3 := by omega
          simp only [show (1 < 3) by decide, show (2 < 3) by decide, if_true] at HT5
          have p0 := HT5.out.c0
          have p1 := HT5.out.c1
          have p2 := HT5.out.c2
          have r0 := HT3.out.c0
          have r1 := HT3.out.c1
          have r2 := HT3.out.c2
          have f0 := HT3.out.f 0
          have f1 := HT3.out.f 1
          have f2 := HT3.out.f 2
          go_wp2
          have HR := HT3.out.set (.int .i64 x) (.int .i64 (y + (a - x))) (.int .i64 (z + (b - y)))
          have HBf := below_set3 HB.out (Nat.le_trans (Nat.le_succ _) (Nat.le_succ _) : w.heap.size ≤ w.heap.size + 1 + 1) (.int .i64 x) (.int .i64 (y + (a - x))) (.int .i64 (z + (b - y)))
          generalize (((wr.setCell ⟨w.heap.size + 1 + 1, 0, none⟩ (.int .i64 x)).setCell ⟨w.heap.size + 1 + 1, 1, none⟩ (.int .i64 (y + (a - x)))).setCell ⟨w.heap.size + 1 + 1, 2, none⟩ (.int .i64 (z + (b - y)))) = wf at HR HBf ⊢
          have e0 := HR.c0
          have e1 := HR.c1
          have e2 := HR.c2
          refine bodyPost_ret (v := .agg #[.int .i64 x, .int .i64 (y + (a - x)), .int .i64 (z + (b - y))]) (by simp [results, go_sem, e0, e1, e2]) rfl ?_
          exact ⟨rfl, HBf⟩
end Go.Proofs.Ythpnkeecpaflfaa
