/- Rooms and the states that they keep: the program's. -/
import Derived.Test.YtpjoljaamakagaaL12S
import Derived.Test.YtpjoljaamakagaaL12E
import Derived.Test.YtpjoljaamakagaaCopy
import Derived.Deep.RegionHeld3
import Derived.Deep.RegionLaw
namespace Go.Proofs.Ytpjoljaamakagaa
open Go.RowKit Go.ChangeShapes Go.WideShapes
set_option linter.unusedVariables false
set_option linter.unusedSimpArgs false

/-- The numbers of a room's state; a state's numbers as a room's. -/
def lz (p : Nat → Int) (k : Nat) : List Int := (List.range k).map p
theorem lz_len (p : Nat → Int) (k : Nat) : (lz p k).length = k := by simp [lz]
theorem lz_get (p : Nat → Int) {k j : Nat} (h : j < k) : (lz p k)[j]? = some (p j) := by simp [lz, h]
def rz (zs : List Int) : Nat → Int := fun i => zs.getD i 0
theorem splice_rm (zs : List Int) (n m c : Int) (h : zs.length ≤ 12) : (splice [.int .i64 0, .int .i64 0, .int .i64 0, .int .i64 0, .int .i64 0, .int .i64 0, .int .i64 0, .int .i64 0, .int .i64 0, .int .i64 0, .int .i64 0, .int .i64 0, .int .i64 n, .int .i64 m, .int .i64 c] 0 (zs.map (Value.int .i64))).toArray = rmA (rz zs) n m c := by
  match zs, h with
  | [], _ => rfl
  | [a0], _ => rfl
  | [a0, a1], _ => rfl
  | [a0, a1, a2], _ => rfl
  | [a0, a1, a2, a3], _ => rfl
  | [a0, a1, a2, a3, a4], _ => rfl
  | [a0, a1, a2, a3, a4, a5], _ => rfl
  | [a0, a1, a2, a3, a4, a5, a6], _ => rfl
  | [a0, a1, a2, a3, a4, a5, a6, a7], _ => rfl
  | [a0, a1, a2, a3, a4, a5, a6, a7, a8], _ => rfl
  | [a0, a1, a2, a3, a4, a5, a6, a7, a8, a9], _ => rfl
  | [a0, a1, a2, a3, a4, a5, a6, a7, a8, a9, a10], _ => rfl
  | [a0, a1, a2, a3, a4, a5, a6, a7, a8, a9, a10, a11], _ => rfl
theorem Rw.ints {w : World} {b : Nat} {p : Nat → Int} {n m c : Int} {t : TypeId} (h : Rw w b (rmA p n m c) t) {k : Nat} (hk : k ≤ 12) : Ins w 0 w.heap.size (some ⟨b, 0, none⟩) (lz p k) :=
  ⟨fun h0 => ⟨b, 0, rfl, Nat.zero_le _, h.lt, fun j x hx => by
    have hj : j < k := by
      rcases Nat.lt_or_ge j (lz p k).length with h1 | h1
      · rwa [lz_len] at h1
      · rw [List.getElem?_eq_none h1] at hx; cases hx
    rw [lz_get p hj] at hx
    injection hx with hx
    subst hx
    rw [Nat.zero_add]
    exact h.cell (rmA_at p n m c (by omega))⟩, Nat.le_refl _⟩
set_option maxRecDepth 100000 in
set_option maxHeartbeats 4000000 in
theorem clone_ints (b o c lo hi : Nat) (zs : List Int) (w : World) (hS : Ins w lo hi (some ⟨b, o, none⟩) zs) (h1 : 1 ≤ zs.length) (hn : zs.length ≤ 12) :
    Calls Try.prog 114 #[.slice (some ⟨b, o, none⟩) zs.length c] w fun e w' => ∃ B d, e = .returned (.slice B zs.length d) ∧ Res w' w.heap.size w'.heap.size B zs ∧ Below w.heap.size w w' := by
  obtain ⟨i0, hi0, hz0, hz1, hz2⟩ := info_parts infoI3
  have hq : ∀ (W : World) (a : Option Addr) (n c n' c' : Nat), (binOp .eql 29 (.slice a n c) (.slice none n' c')).run Try.prog W = .ok (.bool a.isNone) W := fun W a n c n' c' => Lib.run_eql_slice_nil W _ _ a n c n' c' Try.underlying29
  have hsome : (some (Addr.mk b o none)).isNone = false := rfl
  have hbe := (Below.refl _ w).alloc (Nat.le_refl _) (.cells #[] 3)
  obtain ⟨b', o', e', _, hb, hc⟩ := (hS.step hbe).ints (by omega)
  injection e' with e'
  injection e' with e1 e2
  subst e1 e2
  have HN := Lib.hid (Ints.add hc)
  have HO := Lib.hid (O0_any w w.heap.size (Nat.le_refl _))
  have HO1 := Lib.hid (ones zs)
  have HB := Lib.hid hbe
  clear hS hc hbe
  go_enter Try.func114, Try.ntmps114
  go_upto_region 3 with (fail)
  go_wp2_with (at_builtin; refine wpList_append_own _ rfl (.tmp 5) (.tmp 6) 29 rfl w.heap.size 3 i0 (.int .i64 0) 1 8 Try.underlying29 hi0 hz0 hz1 hz2 rfl (by decide) _ _ _ rfl HO.out ⟨b, o, none⟩ zs.length c (zs.map (Value.int .i64)) rfl (by simp) HN.out HO1.out (by unfold maxLen; omega) (by omega) (by simp) ?_; intro v' w1 hown' hgrow _)
  have HW := Lib.hid (show w1.ownsRow w.heap.size 3 1 v' zs.length (zs.map (Value.int .i64)) from by simpa using hown')
  have HB1 := Lib.hid (HB.out.grown hgrow (by simp) (fun q hq => (HO.out.lt q hq).1))
  clear hown' hgrow
  obtain ⟨A8, c8, he, hcc, hR⟩ := own_res HW.out rfl
  have HR := Lib.hid hR
  clear hR HW HO HO1 HN
  subst he
  go_ret
  first | exact ⟨_, _, rfl, HR.out, HB1.out⟩ | exact ⟨⟨_, _, rfl, HR.out⟩, HB1.out⟩ | exact ⟨_, ⟨_, rfl, HR.out, HB1.out⟩⟩ | exact ⟨_, ⟨_, rfl⟩, HR.out, HB1.out⟩

set_option maxRecDepth 100000 in
set_option maxHeartbeats 8000000 in
theorem roomOf_any (A : Option Addr) (c lo hi : Nat) (zs : List Int) (m cnt : Int) (w : World) (hS : Ins w lo hi A zs) (hn : zs.length ≤ 12) :
    Calls Try.prog 68 #[.agg #[.slice A zs.length c, .int .i64 m], .int .i64 cnt] w fun e w' => e = .returned (.agg (rmA (rz zs) zs.length m cnt)) ∧ Below w.heap.size w w' := by
  have HA := Lib.hid (((Two.new w (.slice A zs.length c) (.int .i64 m) 35 w.heap.size rfl).step ((Below.refl _ _).alloc (Nat.le_refl _) (.cells #[.int .i64 0, .int .i64 0, .int .i64 0, .int .i64 0, .int .i64 0, .int .i64 0, .int .i64 0, .int .i64 0, .int .i64 0, .int .i64 0, .int .i64 0, .int .i64 0, .int .i64 0, .int .i64 0, .int .i64 0] 26))).step ((Below.refl _ _).alloc (Nat.le_refl _) (.cells #[.int .i64 0, .int .i64 0, .int .i64 0, .int .i64 0, .int .i64 0, .int .i64 0, .int .i64 0, .int .i64 0, .int .i64 0, .int .i64 0, .int .i64 0, .int .i64 0, .int .i64 (zs.length : Int), .int .i64 m, .int .i64 cnt] 26)))
  have HT2 := Lib.hid ((Rw.new (w.alloc (.cells #[.slice A zs.length c, .int .i64 m] 35)) #[.int .i64 0, .int .i64 0, .int .i64 0, .int .i64 0, .int .i64 0, .int .i64 0, .int .i64 0, .int .i64 0, .int .i64 0, .int .i64 0, .int .i64 0, .int .i64 0, .int .i64 0, .int .i64 0, .int .i64 0] 26 (w.heap.size + 1) (by simp)).step ((Below.refl _ _).alloc (Nat.le_refl _) (.cells #[.int .i64 0, .int .i64 0, .int .i64 0, .int .i64 0, .int .i64 0, .int .i64 0, .int .i64 0, .int .i64 0, .int .i64 0, .int .i64 0, .int .i64 0, .int .i64 0, .int .i64 (zs.length : Int), .int .i64 m, .int .i64 cnt] 26)))
  have HT3 := Lib.hid (Rw.new ((w.alloc (.cells #[.slice A zs.length c, .int .i64 m] 35)).alloc (.cells #[.int .i64 0, .int .i64 0, .int .i64 0, .int .i64 0, .int .i64 0, .int .i64 0, .int .i64 0, .int .i64 0, .int .i64 0, .int .i64 0, .int .i64 0, .int .i64 0, .int .i64 0, .int .i64 0, .int .i64 0] 26)) #[.int .i64 0, .int .i64 0, .int .i64 0, .int .i64 0, .int .i64 0, .int .i64 0, .int .i64 0, .int .i64 0, .int .i64 0, .int .i64 0, .int .i64 0, .int .i64 0, .int .i64 (zs.length : Int), .int .i64 m, .int .i64 cnt] 26 (w.heap.size + 2) (by simp))
  have HB := Lib.hid ((((Below.refl w.heap.size w).alloc (Nat.le_refl _) (.cells #[.slice A zs.length c, .int .i64 m] 35)).alloc (by simp) (.cells #[.int .i64 0, .int .i64 0, .int .i64 0, .int .i64 0, .int .i64 0, .int .i64 0, .int .i64 0, .int .i64 0, .int .i64 0, .int .i64 0, .int .i64 0, .int .i64 0, .int .i64 0, .int .i64 0, .int .i64 0] 26)).alloc (by simp; omega) (.cells #[.int .i64 0, .int .i64 0, .int .i64 0, .int .i64 0, .int .i64 0, .int .i64 0, .int .i64 0, .int .i64 0, .int .i64 0, .int .i64 0, .int .i64 0, .int .i64 0, .int .i64 (zs.length : Int), .int .i64 m, .int .i64 cnt] 26))
  have HS := Lib.hid (hS.step (((Below.refl w.heap.size w).alloc (Nat.le_refl _) (.cells #[.slice A zs.length c, .int .i64 m] 35)).alloc (by simp) (.cells #[.int .i64 0, .int .i64 0, .int .i64 0, .int .i64 0, .int .i64 0, .int .i64 0, .int .i64 0, .int .i64 0, .int .i64 0, .int .i64 0, .int .i64 0, .int .i64 0, .int .i64 0, .int .i64 0, .int .i64 0] 26)))
  replace HS := Lib.hid (HS.out.step ((Below.refl _ _).alloc (Nat.le_refl _) (.cells #[.int .i64 0, .int .i64 0, .int .i64 0, .int .i64 0, .int .i64 0, .int .i64 0, .int .i64 0, .int .i64 0, .int .i64 0, .int .i64 0, .int .i64 0, .int .i64 0, .int .i64 (zs.length : Int), .int .i64 m, .int .i64 cnt] 26)))
  have HSP := Lib.hid (splice_rm zs zs.length m cnt hn)
  clear hS
  go_enter Try.func68, Try.ntmps68
  go_upto_region 2 with fail
  generalize (((w.alloc (.cells #[.slice A zs.length c, .int .i64 m] 35)).alloc (.cells #[.int .i64 0, .int .i64 0, .int .i64 0, .int .i64 0, .int .i64 0, .int .i64 0, .int .i64 0, .int .i64 0, .int .i64 0, .int .i64 0, .int .i64 0, .int .i64 0, .int .i64 0, .int .i64 0, .int .i64 0] 26)).alloc (.cells #[.int .i64 0, .int .i64 0, .int .i64 0, .int .i64 0, .int .i64 0, .int .i64 0, .int .i64 0, .int .i64 0, .int .i64 0, .int .i64 0, .int .i64 0, .int .i64 0, .int .i64 (zs.length : Int), .int .i64 m, .int .i64 cnt] 26)) = wa at HA HT2 HT3 HB HS ⊢
  have HL := Lib.hid (ones zs)
  have HMin : Hid ((zs.map (Value.int .i64)).length = Nat.min zs.length 12) := Lib.hid (by rw [List.length_map]; exact (Nat.min_eq_left hn).symm)
  have HFit : Hid (0 + (zs.map (Value.int .i64)).length ≤ ([.int .i64 0, .int .i64 0, .int .i64 0, .int .i64 0, .int .i64 0, .int .i64 0, .int .i64 0, .int .i64 0, .int .i64 0, .int .i64 0, .int .i64 0, .int .i64 0, .int .i64 (zs.length : Int), .int .i64 m, .int .i64 cnt] : List Value).length) := Lib.hid (by simp; omega)
  have HP : Hid (0 < (zs.map (Value.int .i64)).length → some (Addr.mk (w.heap.size + 2) 0 none) = some ⟨w.heap.size + 2, 0, none⟩ ∧ ∃ ad, A = some ad ∧ ∀ (j : Nat) (v : Value), (zs.map (Value.int .i64))[j]? = some v → wa.cell? (ad.add j) = some v) := Lib.hid (fun h0 => by
    obtain ⟨b, o, rfl, _, hb, hc⟩ := HS.out.ints (by simpa using h0)
    exact ⟨rfl, _, rfl, Ints.add hc⟩)
  have c0 := HA.out.c0
  clear HS
  go_region_law (refine step_copy_splice rfl (.tmp 14) (.tmp 16) 29 29 rfl 3 Try.underlying29 sz1 (some ⟨w.heap.size + 2, 0, none⟩) A 12 12 zs.length c (by simp [Act.eval, Act.put]) (by simp [Act.eval, Act.put]) (w.heap.size + 2) 0 [.int .i64 0, .int .i64 0, .int .i64 0, .int .i64 0, .int .i64 0, .int .i64 0, .int .i64 0, .int .i64 0, .int .i64 0, .int .i64 0, .int .i64 0, .int .i64 0, .int .i64 (zs.length : Int), .int .i64 m, .int .i64 cnt] 26 HT3.out.row (zs.map (Value.int .i64)) HMin.out HP.out HFit.out HL.out (w.heap.size + 2) wa (Below.refl _ _).drew (Nat.le_refl _) ?_; intro w3 HG3 hB3; have HB3 := Lib.hid hB3; clear hB3)
  all_goals
    have HR3 : Hid (Rw w3 (w.heap.size + 2) (rmA (rz zs) zs.length m cnt) 26) := Lib.hid ⟨by
      have h1 := HG3.out
      rwa [HSP.out] at h1⟩
    have HT2' := Lib.hid (Rw.mk ((HB3.out.block (w.heap.size + 1) (by omega)).trans HT2.out.row))
    have HB2 := Lib.hid (HB.out.trans (HB3.out.mono (by omega)))
    clear HG3 HSP HL HMin HFit HP c0 HA HT2 HT3 HB HB3
    go_simp
    have c0 := HR3.out.cell (i := 0) (v := .int .i64 (rz zs 0)) rfl
    have c1 := HR3.out.cell (i := 1) (v := .int .i64 (rz zs 1)) rfl
    have c2 := HR3.out.cell (i := 2) (v := .int .i64 (rz zs 2)) rfl
    have c3 := HR3.out.cell (i := 3) (v := .int .i64 (rz zs 3)) rfl
    have c4 := HR3.out.cell (i := 4) (v := .int .i64 (rz zs 4)) rfl
    have c5 := HR3.out.cell (i := 5) (v := .int .i64 (rz zs 5)) rfl
    have c6 := HR3.out.cell (i := 6) (v := .int .i64 (rz zs 6)) rfl
    have c7 := HR3.out.cell (i := 7) (v := .int .i64 (rz zs 7)) rfl
    have c8 := HR3.out.cell (i := 8) (v := .int .i64 (rz zs 8)) rfl
    have c9 := HR3.out.cell (i := 9) (v := .int .i64 (rz zs 9)) rfl
    have c10 := HR3.out.cell (i := 10) (v := .int .i64 (rz zs 10)) rfl
    have c11 := HR3.out.cell (i := 11) (v := .int .i64 (rz zs 11)) rfl
    have c12 := HR3.out.cell (i := 12) (v := .int .i64 zs.length) rfl
    have c13 := HR3.out.cell (i := 13) (v := .int .i64 m) rfl
    have c14 := HR3.out.cell (i := 14) (v := .int .i64 cnt) rfl
    have d0 := HT2'.out.cell (i := 0) (v := .int .i64 0) rfl
    have d1 := HT2'.out.cell (i := 1) (v := .int .i64 0) rfl
    have d2 := HT2'.out.cell (i := 2) (v := .int .i64 0) rfl
    have d3 := HT2'.out.cell (i := 3) (v := .int .i64 0) rfl
    have d4 := HT2'.out.cell (i := 4) (v := .int .i64 0) rfl
    have d5 := HT2'.out.cell (i := 5) (v := .int .i64 0) rfl
    have d6 := HT2'.out.cell (i := 6) (v := .int .i64 0) rfl
    have d7 := HT2'.out.cell (i := 7) (v := .int .i64 0) rfl
    have d8 := HT2'.out.cell (i := 8) (v := .int .i64 0) rfl
    have d9 := HT2'.out.cell (i := 9) (v := .int .i64 0) rfl
    have d10 := HT2'.out.cell (i := 10) (v := .int .i64 0) rfl
    have d11 := HT2'.out.cell (i := 11) (v := .int .i64 0) rfl
    have d12 := HT2'.out.cell (i := 12) (v := .int .i64 0) rfl
    have d13 := HT2'.out.cell (i := 13) (v := .int .i64 0) rfl
    have d14 := HT2'.out.cell (i := 14) (v := .int .i64 0) rfl
    have f0 := HT2'.out.free 0
    have f1 := HT2'.out.free 1
    have f2 := HT2'.out.free 2
    have f3 := HT2'.out.free 3
    have f4 := HT2'.out.free 4
    have f5 := HT2'.out.free 5
    have f6 := HT2'.out.free 6
    have f7 := HT2'.out.free 7
    have f8 := HT2'.out.free 8
    have f9 := HT2'.out.free 9
    have f10 := HT2'.out.free 10
    have f11 := HT2'.out.free 11
    have f12 := HT2'.out.free 12
    have f13 := HT2'.out.free 13
    have f14 := HT2'.out.free 14
    obtain ⟨hs, hw⟩ := stored15 (q := fun _ => 0) (n0 := 0) (m0 := 0) (c0 := 0) HT2'.out (rz zs) zs.length m cnt
    have HB4 := Lib.hid (HB2.out.trans (hw.below (by omega) (by have := HR3.out.lt; omega)))
    clear hw HT2' HR3 HB2
    go_wp2
    generalize (((((((((((((((w3.setCell ⟨w.heap.size + 1, 0, none⟩ (.int .i64 (rz zs 0))).setCell ⟨w.heap.size + 1, 1, none⟩ (.int .i64 (rz zs 1))).setCell ⟨w.heap.size + 1, 2, none⟩ (.int .i64 (rz zs 2))).setCell ⟨w.heap.size + 1, 3, none⟩ (.int .i64 (rz zs 3))).setCell ⟨w.heap.size + 1, 4, none⟩ (.int .i64 (rz zs 4))).setCell ⟨w.heap.size + 1, 5, none⟩ (.int .i64 (rz zs 5))).setCell ⟨w.heap.size + 1, 6, none⟩ (.int .i64 (rz zs 6))).setCell ⟨w.heap.size + 1, 7, none⟩ (.int .i64 (rz zs 7))).setCell ⟨w.heap.size + 1, 8, none⟩ (.int .i64 (rz zs 8))).setCell ⟨w.heap.size + 1, 9, none⟩ (.int .i64 (rz zs 9))).setCell ⟨w.heap.size + 1, 10, none⟩ (.int .i64 (rz zs 10))).setCell ⟨w.heap.size + 1, 11, none⟩ (.int .i64 (rz zs 11))).setCell ⟨w.heap.size + 1, 12, none⟩ (.int .i64 zs.length)).setCell ⟨w.heap.size + 1, 13, none⟩ (.int .i64 m)).setCell ⟨w.heap.size + 1, 14, none⟩ (.int .i64 cnt)) = wf at hs HB4 ⊢
    refine bodyPost_ret (v := .agg (rmA (rz zs) zs.length m cnt)) (results_cell_row rfl _ _ (w.heap.size + 1) _ _ _ _ rfl hs.row Try.underlying26 rfl infoRm) rfl ?_
    exact ⟨rfl, HB4.out⟩

set_option maxRecDepth 100000 in
set_option maxHeartbeats 8000000 in
theorem state12_any (p : Nat → Int) (k : Nat) (m cnt : Int) (w : World) (h1 : 1 ≤ k) (h12 : k ≤ 12) :
    Calls Try.prog 66 #[.agg (rmA p k m cnt)] w fun e w' => ∃ B d, e = .returned (.agg #[.slice B (lz p k).length d, .int .i64 m]) ∧ Res w' w.heap.size w'.heap.size B (lz p k) ∧ Below w.heap.size w w' := by
  have HT1 := Lib.hid ((Rw.new w (rmA p k m cnt) 26 w.heap.size rfl).step ((Below.refl _ _).alloc (Nat.le_refl _) (.cells #[.slice none 0 0, .int .i64 0] 35)))
  have HT2 := Lib.hid (Two.new (w.alloc (.cells (rmA p k m cnt) 26)) (.slice none 0 0) (.int .i64 0) 35 (w.heap.size + 1) (by simp))
  have HB := Lib.hid (((Below.refl w.heap.size w).alloc (Nat.le_refl _) (.cells (rmA p k m cnt) 26)).alloc (by simp) (.cells #[.slice none 0 0, .int .i64 0] 35))
  have HC := Lib.hid (fun W (hI : Ins W 0 W.heap.size (some ⟨w.heap.size, 0, none⟩) (lz p k)) => clone_ints w.heap.size 0 12 0 W.heap.size (lz p k) W hI (by rw [lz_len]; exact h1) (by rw [lz_len]; exact h12))
  rw [lz_len] at HC ⊢
  go_enter Try.func66, Try.ntmps66
  simp only [rmA] at HT1 HT2 HB ⊢
  go_upto_region 1 with fail
  generalize (w.alloc (.cells #[.int .i64 (p 0), .int .i64 (p 1), .int .i64 (p 2), .int .i64 (p 3), .int .i64 (p 4), .int .i64 (p 5), .int .i64 (p 6), .int .i64 (p 7), .int .i64 (p 8), .int .i64 (p 9), .int .i64 (p 10), .int .i64 (p 11), .int .i64 k, .int .i64 m, .int .i64 cnt] 26)).alloc (.cells #[.slice none 0 0, .int .i64 0] 35) = wa at HT1 HT2 HB ⊢
  have c12 := HT1.out.cell (i := 12) (v := .int .i64 k) rfl
  have c13 := HT1.out.cell (i := 13) (v := .int .i64 m) rfl
  have hk1 : (0 : Int) ≤ (k : Int) := by omega
  have hk2 : (k : Int) ≤ 12 := by omega
  have HT1' : Hid (Rw wa w.heap.size (rmA p k m cnt) 26) := HT1
  clear HT1
  go_region_held3 (fun w' => w'.cell? ⟨w.heap.size, 12, none⟩ = some (.int .i64 (k : Int)) ∧ w'.cell? ⟨w.heap.size, 13, none⟩ = some (.int .i64 m))
    (first
     | exact ⟨(HT1'.out.step (Below.refl _ wa).drew).cell (i := 12) (v := .int .i64 k) rfl, (HT1'.out.step (Below.refl _ wa).drew).cell (i := 13) (v := .int .i64 m) rfl⟩
     | exact ⟨HT1_1.out.cell (i := 12) (v := .int .i64 k) rfl, HT1_1.out.cell (i := 13) (v := .int .i64 m) rfl⟩
     | exact ⟨(HT1_1.out.within (within_set (within_set (Within.refl (w.heap.size + 1) (w.heap.size + 1 + 1) v1) (Nat.le_refl _) (Nat.lt_succ_self _) 0 _) (Nat.le_refl _) (Nat.lt_succ_self _) 1 _) (.inl (by omega))).cell (i := 12) (v := .int .i64 k) rfl, (HT1_1.out.within (within_set (within_set (Within.refl (w.heap.size + 1) (w.heap.size + 1 + 1) v1) (Nat.le_refl _) (Nat.lt_succ_self _) 0 _) (Nat.le_refl _) (Nat.lt_succ_self _) 1 _) (.inl (by omega))).cell (i := 13) (v := .int .i64 m) rfl⟩)
    (first
     | (go_at_call 114; (refine (HC.out wa.drew ((HT1'.out.step (Below.refl _ wa).drew).ints h12)).mono ?_); rintro e v1 ⟨B1, d1, rfl, hr, hb⟩; have HR1 := Lib.hid hr; have HZ1 := Lib.hid (below_trans (Below.refl _ wa).drew hb); have HT1_1 := Lib.hid (HT1'.out.step HZ1.out); have HT2_1 := Lib.hid (HT2.out.step HZ1.out); have HB_1 := Lib.hid (below_trans HB.out HZ1.out); have q0 := HT2_1.out.c0; have q1 := HT2_1.out.c1; have q2 := HT2_1.out.f0; have q3 := HT2_1.out.f1; clear hb hr))
  all_goals
    obtain ⟨hs, hw⟩ := stored2 HT2_1.out.row (.slice B1 k d1) (.int .i64 m)
    have HRX := Lib.hid (by
      have h := HR1.out
      exact (Res.within ⟨h.own.wide (lo' := w.heap.size + 1 + 1) (hi' := v1.heap.size) (by have := HT2.out.lt; show _ ≤ wa.heap.size; omega) (Nat.le_refl _), Nat.le_refl _⟩ hw (.inr (Nat.le_refl _)) : Res _ (w.heap.size + 1 + 1) v1.heap.size B1 (lz p k)))
    have HBX := Lib.hid (HB_1.out.trans (hw.below (by omega) (by have := HT1_1.out.lt; omega)))
    have hsz := hw.size
    clear hw HR1 HB_1 HT1_1 HT2_1 q0 q1 q2 q3 HZ1 HC
    generalize ((v1.setCell ⟨w.heap.size + 1, 0, none⟩ (.slice B1 k d1)).setCell ⟨w.heap.size + 1, 1, none⟩ (.int .i64 m)) = wf at hs hsz HRX HBX ⊢
    have e0 := two0 hs
    have e1 := two1 hs
    go_wp2
    refine bodyPost_ret (v := .agg #[.slice B1 k d1, .int .i64 m]) (by simp [results, go_sem, e0, e1]) rfl ?_
    exact ⟨B1, d1, rfl, ⟨HRX.out.own.wide (by omega) hsz, Nat.le_refl _⟩, HBX.out⟩
end Go.Proofs.Ytpjoljaamakagaa
