/- What the laws' helpers do with states: copies, comparison, marks. -/
import Derived.Test.YtpjoljaamakagaaState
namespace Go.Proofs.Ytpjoljaamakagaa
open Go.RowKit Go.ChangeShapes Go.WideShapes
set_option linter.unusedVariables false

/-- A struct of two cells that the call keeps in a block of its own, behind the start's. -/
structure Arg (W w : World) (b : Nat) (x y : Value) : Prop where
  below : Below W.heap.size W w
  c0 : w.cell? ⟨b, 0, none⟩ = some x
  c1 : w.cell? ⟨b, 1, none⟩ = some y
  lo : W.heap.size ≤ b
  hi : b < w.heap.size
theorem Arg.step {W w w' : World} {b : Nat} {x y : Value} (h : Arg W w b x y) (hb : Below w.heap.size w w') : Arg W w' b x y :=
  ⟨below_trans h.below hb, (hb.cell (p := ⟨b, 0, none⟩) h.hi).trans h.c0, (hb.cell (p := ⟨b, 1, none⟩) h.hi).trans h.c1, h.lo, Nat.lt_of_lt_of_le h.hi hb.size⟩
theorem Arg.within {W w w' : World} {b lo hi : Nat} {x y : Value} (h : Arg W w b x y) (hb : Within lo hi w w') (hl : W.heap.size ≤ lo ∧ (b < lo ∨ hi ≤ b)) : Arg W w' b x y :=
  ⟨h.below.trans (hb.below hl.1 h.below.size), (World.cell?_of_block (hb.block b h.hi hl.2)).trans h.c0, (World.cell?_of_block (hb.block b h.hi hl.2)).trans h.c1, h.lo, Nat.lt_of_lt_of_le h.hi hb.size⟩
theorem Arg.next {W w : World} (hb : Below W.heap.size W w) (x y : Value) (t : TypeId) (b : Nat) (e : b = w.heap.size) : Arg W (w.alloc (.cells #[x, y] t)) b x y := by
  subst e
  exact ⟨hb.alloc hb.size _, by rw [World.cell?_alloc_at _ _ _ _ rfl]; rfl, by rw [World.cell?_alloc_at _ _ _ _ rfl]; rfl, hb.size, by simp⟩
theorem Arg.new (W : World) (x y : Value) (t : TypeId) : Arg W (W.alloc (.cells #[x, y] t)) W.heap.size x y :=
  ⟨(Below.refl _ _).alloc (Nat.le_refl _) _, by rw [World.cell?_alloc_at _ _ _ _ rfl]; rfl, by rw [World.cell?_alloc_at _ _ _ _ rfl]; rfl, Nat.le_refl _, by simp⟩

theorem Own.last (w1 : World) (zs : List Int) (lo : Nat) (h : lo ≤ w1.heap.size) (g : Nat) (hg : g = w1.heap.size) : Own (w1.alloc (.cells (zs.map (Value.int .i64)).toArray 3)) lo (w1.alloc (.cells (zs.map (Value.int .i64)).toArray 3)).heap.size (some ⟨g, 0, none⟩) zs := by
  subst hg
  exact Own.new w1 zs lo _ h (by simp)

set_option maxHeartbeats 2000000 in
theorem toState_any (A : Option Addr) (c lo hi : Nat) (zs : List Int) (m : Int) (w : World) (hS : Ins w lo hi A zs) (hn : zs.length ≤ 1048576) :
    Calls Try.prog 17 #[.agg #[.slice A zs.length c, .int .i64 m]] w fun e w' => ∃ B, e = .returned (.agg #[.slice B zs.length zs.length, .int .i64 m]) ∧ Res w' w.heap.size w'.heap.size B zs ∧ Below w.heap.size w w' := by
  have HS := Lib.hid hS
  clear hS
  go_enter Try.func17, Try.ntmps17
  go_wp2_with fail
  have hb0 : Below w.heap.size w (((w.alloc (.cells #[.slice A zs.length c, .int .i64 m] 31)).alloc (.cells #[.slice none 0 0, .int .i64 0] 35)).alloc (.cells #[.slice none 0 0, .int .i64 0] 35)) :=
    (((Below.refl _ _).alloc (Nat.le_refl _) _).alloc (by simp) _).alloc (by simp; omega) _
  refine (toIntS_any A c lo hi zs _ (HS.out.step hb0).ints (HS.out.step hb0).top hn).mono ?_
  rintro e w' ⟨rfl, rfl⟩
  clear hb0
  go_wp2
  refine bodyPost_ret (v := .agg #[.slice (some ⟨w.heap.size + 3, 0, none⟩) zs.length zs.length, .int .i64 m]) (by simp [results, go_sem]) rfl ?_
  refine ⟨_, rfl, ?_, ?_⟩
  · exact ⟨Own.last _ zs _ (by simp; omega) _ (by simp), Nat.le_refl _⟩
  · exact ((((Below.refl _ _).alloc (Nat.le_refl _) _).alloc (by simp) _).alloc (by simp; omega) _).alloc (by simp; omega) _
set_option maxHeartbeats 1000000 in
theorem eqState_same (A A' : Option Addr) (c c' lo hi lo' hi' : Nat) (zs : List Int) (m : Int) (w : World) (hS : Ins w lo hi A zs) (hS' : Ins w lo' hi' A' zs) (hn : zs.length ≤ 1048576) :
    Calls Try.prog 20 #[.agg #[.slice A zs.length c, .int .i64 m], .agg #[.slice A' zs.length c', .int .i64 m]] w fun e w' => e = .returned (.bool true) ∧ Below w.heap.size w w' := by
  have HS := Lib.hid hS
  have HS' := Lib.hid hS'
  clear hS hS'
  go_enter Try.func20, Try.ntmps20
  go_wp2_with fail
  have hb0 : Below w.heap.size w ((w.alloc (.cells #[.slice A zs.length c, .int .i64 m] 35)).alloc (.cells #[.slice A' zs.length c', .int .i64 m] 35)) := ((Below.refl _ _).alloc (Nat.le_refl _) _).alloc (by simp) _
  refine (eqIntS_same A A' c c' lo hi lo' hi' zs _ (HS.out.step hb0).ints (HS'.out.step hb0).ints hn).mono ?_
  rintro e w' ⟨rfl, q, rfl⟩
  have HB := Lib.hid (below_drewN hb0 q)
  clear hb0
  go_wp2
  go_ret
  exact ⟨rfl, HB.out⟩

theorem markState_any (A : Option Addr) (c lo hi : Nat) (zs : List Int) (m : Int) (w : World) (h : Res w lo hi A zs) (hn : zs.length ≤ 1048576) :
    Calls Try.prog 23 #[.agg #[.slice A zs.length c, .int .i64 m], .int .i64 1] w fun e w' => e = .returned (.int .i64 ((zs.length : Int) + 1)) ∧ Res w' lo hi A (marks zs.length) ∧ Within lo hi w w' := by
  have HS := Lib.hid h
  clear h
  go_enter Try.func23, Try.ntmps23
  go_wp2_with fail
  have hb0 : Below w.heap.size w (w.alloc (.cells #[.slice A zs.length c, .int .i64 m] 35)) := (Below.refl _ _).alloc (Nat.le_refl _) _
  refine (markIntS_any A c lo hi zs _ (HS.out.step hb0).own hn).mono ?_
  rintro e w' ⟨rfl, ho, hw⟩
  have HO := Lib.hid (show Res _ lo hi A _ from ⟨ho, Nat.le_trans HS.out.top (Nat.le_trans hb0.size hw.size)⟩)
  have HW := Lib.hid ((Within.of_below (lo := lo) (hi := hi) hb0).trans hw)
  clear hb0 ho hw
  go_wp2
  go_ret
  exact ⟨rfl, HO.out, HW.out⟩

theorem heldState_any (A : Option Addr) (c lo hi n : Nat) (m : Int) (w : World) (h : Ins w lo hi A (marks n)) (hn : n ≤ 1048576) :
    Calls Try.prog 24 #[.agg #[.slice A n c, .int .i64 m], .int .i64 1] w fun e w' => e = .returned (.int .i64 ((n : Int) + 1)) ∧ Below w.heap.size w w' := by
  have HS := Lib.hid h
  clear h
  have hn0 : (0 : Int) ≤ (n : Int) := by omega
  go_enter Try.func24, Try.ntmps24
  go_wp2_with fail
  have hb0 : Below w.heap.size w (w.alloc (.cells #[.slice A n c, .int .i64 m] 35)) := (Below.refl _ _).alloc (Nat.le_refl _) _
  refine (heldIntS_any A c lo hi n _ (HS.out.step hb0).ints (by omega)).mono ?_
  rintro e w' ⟨rfl, rfl⟩
  have HB := Lib.hid hb0
  clear hb0
  go_wp2
  go_ret
  exact ⟨rfl, HB.out⟩

theorem eqInts_same (A A' : Option Addr) (c c' lo hi lo' hi' : Nat) (zs : List Int) (w : World) (hS : Ins w lo hi A zs) (hS' : Ins w lo' hi' A' zs) (hn : zs.length ≤ 1048576) :
    Calls Try.prog 36 #[.slice A zs.length c, .slice A' zs.length c'] w fun e w' => e = .returned (.bool true) ∧ Below w.heap.size w w' := by
  refine (eqIntS_same A A' c c' lo hi lo' hi' zs w hS.ints hS'.ints hn).mono ?_
  rintro e w' ⟨rfl, q, rfl⟩
  exact ⟨rfl, below_drewN (Below.refl _ _) q⟩
theorem markInts_any (A : Option Addr) (c lo hi : Nat) (zs : List Int) (w : World) (h : Res w lo hi A zs) (hn : zs.length ≤ 1048576) :
    Calls Try.prog 37 #[.slice A zs.length c, .int .i64 1] w fun e w' => e = .returned (.int .i64 ((zs.length : Int) + 1)) ∧ Res w' lo hi A (marks zs.length) ∧ Within lo hi w w' := by
  refine (markIntS_any A c lo hi zs w h.own hn).mono ?_
  rintro e w' ⟨rfl, ho, hw⟩
  exact ⟨rfl, ⟨ho, Nat.le_trans h.top hw.size⟩, hw⟩
theorem heldInts_any (A : Option Addr) (c lo hi n : Nat) (w : World) (h : Ins w lo hi A (marks n)) (hn : n ≤ 1048576) :
    Calls Try.prog 74 #[.slice A n c, .int .i64 1] w fun e w' => e = .returned (.int .i64 ((n : Int) + 1)) ∧ Below w.heap.size w w' := by
  refine (heldIntS_any A c lo hi n w h.ints (by omega)).mono ?_
  rintro e w' ⟨rfl, rfl⟩
  exact ⟨rfl, Below.refl _ _⟩
theorem toInts_any (A : Option Addr) (c lo hi : Nat) (zs : List Int) (w : World) (hS : Ins w lo hi A zs) (hn : zs.length ≤ 1048576) :
    Calls Try.prog 33 #[.slice A zs.length c] w fun e w' => ∃ B, e = .returned (.slice B zs.length zs.length) ∧ Res w' w.heap.size w'.heap.size B zs ∧ Below w.heap.size w w' := by
  refine (toIntS_any A c lo hi zs w hS.ints hS.top hn).mono ?_
  rintro e w' ⟨rfl, rfl⟩
  exact ⟨_, rfl, ⟨Own.last w zs _ (Nat.le_refl _) _ rfl, Nat.le_refl _⟩, (Below.refl _ _).alloc (Nat.le_refl _) _⟩

end Go.Proofs.Ytpjoljaamakagaa
