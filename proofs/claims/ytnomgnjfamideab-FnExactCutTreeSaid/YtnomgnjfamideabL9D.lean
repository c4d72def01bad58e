/- Trees of questions: CutTree, of both sides. -/
import Derived.Test.YtnomgnjfamideabL9C
import Derived.Test.YtnomgnjfamideabL9O
import Derived.WalkMore
import Derived.IntWalk
import Derived.WalkSpells
namespace Go.Proofs.Ytnomgnjfamideab
open Go.RowKit Go.ChangeShapes Go.WideShapes Go.Maps
set_option linter.unusedVariables false

theorem NMade.put9 {w : World} {lo hi : Nat} {A : Option Addr} {l : List (Int × Int × Int)} (h : NMade w lo hi A l) (p : Nat) (hp : p < l.length) :
    ∃ g, A = some ⟨g, 0, none⟩ ∧ lo ≤ g ∧ g < hi ∧ (∃ u, w.cell? ⟨g, p * 3, none⟩ = some u) ∧ (∃ u, w.cell? ⟨g, p * 3 + 1, none⟩ = some u) ∧ (∃ u, w.cell? ⟨g, p * 3 + 2, none⟩ = some u) ∧ (∀ i, w.frozen? ⟨g, i, none⟩ = false) ∧
      ∀ x y z : Int, NMade (((w.setCell ⟨g, p * 3, none⟩ (.int .i64 x)).setCell ⟨g, p * 3 + 1, none⟩ (.int .i64 y)).setCell ⟨g, p * 3 + 2, none⟩ (.int .i64 z)) lo hi A (l.set p (x, y, z)) ∧ Within g (g + 1) w (((w.setCell ⟨g, p * 3, none⟩ (.int .i64 x)).setCell ⟨g, p * 3 + 1, none⟩ (.int .i64 y)).setCell ⟨g, p * 3 + 2, none⟩ (.int .i64 z)) := by
  rcases h.own with ⟨e, e2⟩ | ⟨g, cur, e, h1, h2, hrow, hsz, hc⟩
  · rw [e2] at hp; exact absurd hp (Nat.not_lt_zero _)
  have hx := hc p l[p] (List.getElem?_eq_getElem hp)
  refine ⟨g, e, h1, h2, ⟨_, by rw [row_cellI hrow]; exact hx.1⟩, ⟨_, by rw [row_cellI hrow]; exact hx.2.1⟩, ⟨_, by rw [row_cellI hrow]; exact hx.2.2⟩, fun i => row_freeI hrow i, fun x y z => ?_⟩
  have hw := within_set (within_set (within_set (Within.refl g (g + 1) w) (Nat.le_refl _) (Nat.lt_succ_self _) (p * 3) (.int .i64 x)) (Nat.le_refl _) (Nat.lt_succ_self _) (p * 3 + 1) (.int .i64 y)) (Nat.le_refl _) (Nat.lt_succ_self _) (p * 3 + 2) (.int .i64 z)
  refine ⟨⟨.inr ⟨g, _, e, h1, h2, row_setI (row_setI (row_setI hrow (p * 3) (.int .i64 x)) (p * 3 + 1) (.int .i64 y)) (p * 3 + 2) (.int .i64 z), by simpa using hsz, fun j v hv => ?_⟩, Nat.le_trans h.top hw.size⟩, hw⟩
  by_cases hj : j = p
  · subst hj
    rw [List.getElem?_set_self hp] at hv
    injection hv with hv
    subst hv
    refine ⟨?_, ?_, ?_⟩
    · rw [Array.getElem?_setIfInBounds_ne (by omega), Array.getElem?_setIfInBounds_ne (by omega), Array.getElem?_setIfInBounds_self_of_lt (by omega)]
    · rw [Array.getElem?_setIfInBounds_ne (by omega), Array.getElem?_setIfInBounds_self_of_lt (by rw [Array.size_setIfInBounds]; omega)]
    · rw [Array.getElem?_setIfInBounds_self_of_lt (by rw [Array.size_setIfInBounds, Array.size_setIfInBounds]; omega)]
  · rw [List.getElem?_set_ne (fun e => hj e.symm)] at hv
    have hq := hc j v hv
    refine ⟨?_, ?_, ?_⟩
    · rw [Array.getElem?_setIfInBounds_ne (by omega), Array.getElem?_setIfInBounds_ne (by omega), Array.getElem?_setIfInBounds_ne (by omega)]; exact hq.1
    · rw [Array.getElem?_setIfInBounds_ne (by omega), Array.getElem?_setIfInBounds_ne (by omega), Array.getElem?_setIfInBounds_ne (by omega)]; exact hq.2.1
    · rw [Array.getElem?_setIfInBounds_ne (by omega), Array.getElem?_setIfInBounds_ne (by omega), Array.getElem?_setIfInBounds_ne (by omega)]; exact hq.2.2
set_option maxRecDepth 100000 in
set_option maxHeartbeats 8000000 in
theorem clone9_any (b o c lo hi : Nat) (ns : List (Int × Int × Int)) (w : World) (hS : NIns w lo hi (some ⟨b, o, none⟩) ns) (h1 : 1 ≤ ns.length) (h7 : ns.length ≤ 127) :
    Calls Try.prog 40 #[.slice (some ⟨b, o, none⟩) ns.length c] w fun e w' => ∃ B d, e = .returned (.slice B ns.length d) ∧ NMade w' w.heap.size w'.heap.size B ns ∧ Below w.heap.size w w' := by
  obtain ⟨i0, hi0, hz0, hz1, hz2⟩ := info_parts infoN9
  have hq : ∀ (W : World) (a : Option Addr) (n c n' c' : Nat), (binOp .eql 26 (.slice a n c) (.slice none n' c')).run Try.prog W = .ok (.bool a.isNone) W := fun W a n c n' c' => Lib.run_eql_slice_nil W _ _ a n c n' c' Try.underlying26
  have hbe := (Below.refl _ w).alloc (Nat.le_refl _) (.cells #[] 56)
  have HO := Lib.hid (N0_any w w.heap.size (Nat.le_refl _))
  have HNn := Lib.hid (hS.step hbe).news
  have HL := Lib.hid (show (cellsN ns).length = ns.length * 3 from cellsN_len ns)
  have HB := Lib.hid hbe
  clear hbe hS
  have hsome : (some (Addr.mk b o none)).isNone = false := rfl
  go_enter Try.func40, Try.ntmps40
  go_upto_region 3 with (fail)
  go_wp2_with (at_builtin; refine wpList_append_own _ rfl (.tmp 5) (.tmp 6) 26 rfl w.heap.size 56 i0 (.agg #[.int .i64 0, .int .i64 0, .int .i64 0]) 3 24 Try.underlying26 hi0 hz0 hz1 hz2 rfl (by decide) _ _ _ rfl HO.out ⟨b, o, none⟩ ns.length c (cellsN ns) rfl HL.out HNn.out (cellsN_one _) (by unfold maxLen; omega) (by omega) (by simp) ?_; intro v' w7 hown' hgrow _)
  have hp7 := Past.of_within (within_grown8 HO.out hgrow) (Nat.le_refl _)
  have HO7 : Hid (w7.ownsRow w.heap.size 56 3 v' ns.length (cellsN ns)) := Lib.hid (nds_append (l := []) (r := ns) hown' rfl rfl)
  have HB7 := Lib.hid (HB.out.trans (hp7.below (by omega) (by have := HB.out.size; omega)))
  clear hp7 hown' hgrow
  go_ret
  obtain ⟨A8, c8, he, hcc, hR⟩ := own_resNC HO7.out rfl
  exact ⟨A8, c8, by rw [he]; rfl, hR, HB7.out⟩
set_option maxRecDepth 100000 in
set_option maxHeartbeats 8000000 in
theorem cutTree_impl_no (n : Int) (A : Option Addr) (c lo hi : Nat) (ns : List (Int × Int × Int)) (k : Int) (w : World) (hS : NIns w lo hi A ns) (hn : ns.length ≤ 1048576) (hno : nodeB n ns k = false) :
    Calls Try.prog 15 #[.int .i64 n, .agg #[.slice A ns.length c], .int .i64 k] w fun e w' => e = .returned (.tuple #[.agg #[.slice none 0 0], .bool false]) ∧ Below w.heap.size w w' := by
  have HT := Lib.hid (One.new w (.slice A ns.length c) 28 w.heap.size rfl)
  have HB := Lib.hid ((Below.refl w.heap.size w).alloc (Nat.le_refl _) (.cells #[.slice A ns.length c] 28))
  have HR := Lib.hid (One.new (w.alloc (.cells #[.slice A ns.length c] 28)) (.slice none 0 0) 28 (w.heap.size + 1) (by simp))
  replace HT := Lib.hid (HT.out.step ((Below.refl _ _).alloc (Nat.le_refl _) (.cells #[.slice none 0 0] 28)))
  replace HB := Lib.hid (HB.out.alloc HB.out.size (.cells #[.slice none 0 0] 28))
  have HI := Lib.hid (hS.step HB.out)
  have HC := Lib.hid (fun W h => node9_impl n A c lo hi ns k W h hn)
  rw [hno] at HC
  clear hS hno
  go_enter Try.func15, Try.ntmps15
  go_wp2_with fail
  generalize (w.alloc (.cells #[.slice A ns.length c] 28)).alloc (.cells #[.slice none 0 0] 28) = w0 at HB HT HR HI ⊢
  have h0 := HT.out.c0
  with_reducible refine (HC.out _ HI.out).mono ?_
  rintro e w1 ⟨rfl, hb⟩
  replace HB := Lib.hid (below_trans HB.out hb)
  replace HT := Lib.hid (HT.out.step hb)
  replace HR := Lib.hid (HR.out.step hb)
  replace HI := Lib.hid (HI.out.step hb)
  replace h0 := HT.out.c0
  clear hb
  clear h0
  have r0 := HR.out.c0
  have rf0 := HR.out.f0
  obtain ⟨hs, hw⟩ := stored1 HR.out (.slice none 0 0)
  have e0 := hs.c0
  have HF := Lib.hid (HB.out.trans (hw.below (by omega) HB.out.size))
  clear hs hw
  go_wp2
  refine bodyPost_ret (v := .tuple #[.agg #[.slice none 0 0], .bool false]) (by simp [results, go_sem, e0]) rfl ?_
  exact ⟨rfl, HF.out⟩
set_option maxRecDepth 100000 in
set_option maxHeartbeats 8000000 in
theorem cutTree_spec_no (n : Int) (A : Option Addr) (c lo hi : Nat) (ns : List (Int × Int × Int)) (k : Int) (w : World) (hS : NIns w lo hi A ns) (hn : ns.length ≤ 1048576) (hno : nodeB n ns k = false) :
    Calls Try.prog 14 #[.int .i64 n, .agg #[.slice A ns.length c], .int .i64 k] w fun e w' => e = .returned (.tuple #[.agg #[.slice none 0 0], .bool false]) ∧ Below w.heap.size w w' := by
  have HT := Lib.hid (One.new w (.slice A ns.length c) 28 w.heap.size rfl)
  have HB := Lib.hid ((Below.refl w.heap.size w).alloc (Nat.le_refl _) (.cells #[.slice A ns.length c] 28))
  have HR := Lib.hid (One.new (w.alloc (.cells #[.slice A ns.length c] 28)) (.slice none 0 0) 28 (w.heap.size + 1) (by simp))
  replace HT := Lib.hid (HT.out.step ((Below.refl _ _).alloc (Nat.le_refl _) (.cells #[.slice none 0 0] 28)))
  replace HB := Lib.hid (HB.out.alloc HB.out.size (.cells #[.slice none 0 0] 28))
  have HI := Lib.hid (hS.step HB.out)
  have HC := Lib.hid (fun W h => node9_spec n A c lo hi ns k W h hn)
  rw [hno] at HC
  clear hS hno
  go_enter Try.func14, Try.ntmps14
  go_wp2_with fail
  generalize (w.alloc (.cells #[.slice A ns.length c] 28)).alloc (.cells #[.slice none 0 0] 28) = w0 at HB HT HR HI ⊢
  have h0 := HT.out.c0
  with_reducible refine (HC.out _ HI.out).mono ?_
  rintro e w1 ⟨rfl, hb⟩
  replace HB := Lib.hid (below_trans HB.out hb)
  replace HT := Lib.hid (HT.out.step hb)
  replace HR := Lib.hid (HR.out.step hb)
  replace HI := Lib.hid (HI.out.step hb)
  replace h0 := HT.out.c0
  clear hb
  clear h0
  have r0 := HR.out.c0
  have rf0 := HR.out.f0
  obtain ⟨hs, hw⟩ := stored1 HR.out (.slice none 0 0)
  have e0 := hs.c0
  have HF := Lib.hid (HB.out.trans (hw.below (by omega) HB.out.size))
  clear hs hw
  go_wp2
  refine bodyPost_ret (v := .tuple #[.agg #[.slice none 0 0], .bool false]) (by simp [results, go_sem, e0]) rfl ?_
  exact ⟨rfl, HF.out⟩
set_option maxRecDepth 100000 in
set_option maxHeartbeats 8000000 in
theorem cutTree_spec (n : Int) (A : Option Addr) (c lo hi : Nat) (ns : List (Int × Int × Int)) (p : Nat) (t : T9) (w : World) (hS : NIns w lo hi A ns) (hT : Tree9 n ns t) (hk : p < ns.length) (hc : ns.length ≤ c) :
    Calls Try.prog 14 #[.int .i64 n, .agg #[.slice A ns.length c], .int .i64 (p : Int)] w fun e w' => ∃ B d, e = .returned (.tuple #[.agg #[.slice B (tell9 (cut9 t 0 p) 0).length d], .bool true]) ∧ NMade w' w.heap.size w'.heap.size B (tell9 (cut9 t 0 p) 0) ∧ Below w.heap.size w w' := by
  have HT := Lib.hid (One.new w (.slice A ns.length c) 28 w.heap.size rfl)
  have HB := Lib.hid ((Below.refl w.heap.size w).alloc (Nat.le_refl _) (.cells #[.slice A ns.length c] 28))
  have HR := Lib.hid (One.new (w.alloc (.cells #[.slice A ns.length c] 28)) (.slice none 0 0) 28 (w.heap.size + 1) (by simp))
  replace HT := Lib.hid (HT.out.step ((Below.refl _ _).alloc (Nat.le_refl _) (.cells #[.slice none 0 0] 28)))
  replace HB := Lib.hid (HB.out.alloc HB.out.size (.cells #[.slice none 0 0] 28))
  have HI := Lib.hid (hS.step HB.out)
  have HC := Lib.hid (fun W h => node9_spec n A c lo hi ns (p : Int) W h (by have := hT.le127; omega))
  rw [nodeB_yes hT hk] at HC
  have hns := At9.all hT.at0 hT.len
  have hlen := hT.len
  have HF := Lib.hid (fun W (h : NIns W lo hi A ns) => l9Cut_any n t A c lo hi p (p : Int) W (hns ▸ h) (by omega) hT.ok hT.deep (by omega) (Int.le_refl _) (Int.le_refl _))
  rw [← hlen] at HF
  clear hS hT hk hns hlen hc
  generalize tell9 (cut9 t 0 p) 0 = L at HF ⊢
  go_enter Try.func14, Try.ntmps14
  go_wp2_with fail
  generalize (w.alloc (.cells #[.slice A ns.length c] 28)).alloc (.cells #[.slice none 0 0] 28) = w0 at HB HT HR HI ⊢
  have h0 := HT.out.c0
  with_reducible refine (HC.out _ HI.out).mono ?_
  rintro e w1 ⟨rfl, hb⟩
  replace HB := Lib.hid (below_trans HB.out hb)
  replace HT := Lib.hid (HT.out.step hb)
  replace HR := Lib.hid (HR.out.step hb)
  replace HI := Lib.hid (HI.out.step hb)
  replace h0 := HT.out.c0
  clear hb
  have hrl := HR.out.lt
  go_wp2_with fail
  with_reducible refine (HF.out _ HI.out).mono ?_
  rintro e w2 ⟨Bt, dt, rfl, hm, hb⟩
  replace HB := Lib.hid (below_trans HB.out hb)
  replace HT := Lib.hid (HT.out.step hb)
  replace HR := Lib.hid (HR.out.step hb)
  replace HI := Lib.hid (HI.out.step hb)
  replace h0 := HT.out.c0
  have HM := Lib.hid hm
  clear hm
  clear hb
  clear h0
  have r0 := HR.out.c0
  have rf0 := HR.out.f0
  obtain ⟨hs, hw⟩ := stored1 HR.out (.slice Bt L.length dt)
  have e0 := hs.c0
  have hbs := HB.out.size
  have HF := Lib.hid (HB.out.trans (hw.below (by omega) HB.out.size))
  have HM2 := Lib.hid (HM.out.within hw (.inr (by omega)))
  clear hs hw
  go_wp2
  refine bodyPost_ret (v := .tuple #[.agg #[.slice Bt L.length dt], .bool true]) (by simp [results, go_sem, e0]) rfl ?_
  have HM3 := HM2.out.wide (lo' := w.heap.size) (by omega) HM2.out.top (Nat.le_refl _)
  first | exact ⟨_, _, rfl, HM3, HF.out⟩ | exact ⟨rfl, HM3, HF.out⟩ | exact ⟨HM3, HF.out⟩ | exact ⟨_, ⟨_, rfl⟩, HM3, HF.out⟩ | exact ⟨⟨_, rfl⟩, HM3, HF.out⟩
set_option maxRecDepth 100000 in
set_option maxHeartbeats 16000000 in
theorem cutTree_impl (n : Int) (A : Option Addr) (c lo hi : Nat) (ns : List (Int × Int × Int)) (p : Nat) (t : T9) (w : World) (hS : NIns w lo hi A ns) (hT : Tree9 n ns t) (hk : p < ns.length) :
    Calls Try.prog 15 #[.int .i64 n, .agg #[.slice A ns.length c], .int .i64 (p : Int)] w fun e w' => ∃ B d, e = .returned (.tuple #[.agg #[.slice B (tell9 (cut9 t 0 p) 0).length d], .bool true]) ∧ NMade w' w.heap.size w'.heap.size B (tell9 (cut9 t 0 p) 0) ∧ Below w.heap.size w w' := by
  obtain ⟨b, o, rfl⟩ := hS.addr9 (by omega)
  have HT := Lib.hid (One.new w (.slice (some ⟨b, o, none⟩) ns.length c) 28 w.heap.size rfl)
  have HB := Lib.hid ((Below.refl w.heap.size w).alloc (Nat.le_refl _) (.cells #[.slice (some ⟨b, o, none⟩) ns.length c] 28))
  have HR := Lib.hid (One.new (w.alloc (.cells #[.slice (some ⟨b, o, none⟩) ns.length c] 28)) (.slice none 0 0) 28 (w.heap.size + 1) (by simp))
  replace HT := Lib.hid (HT.out.step ((Below.refl _ _).alloc (Nat.le_refl _) (.cells #[.slice none 0 0] 28)))
  replace HB := Lib.hid (HB.out.alloc HB.out.size (.cells #[.slice none 0 0] 28))
  have HI := Lib.hid (hS.step HB.out)
  have hl7 := hT.le127
  obtain ⟨hl1, hl2⟩ := hl7
  have HC := Lib.hid (fun W h => node9_impl n (some ⟨b, o, none⟩) c lo hi ns (p : Int) W h (by omega))
  rw [nodeB_yes hT hk] at HC
  have HK := Lib.hid (fun W h => clone9_any b o c lo hi ns W h hl1 hl2)
  have HL := Lib.hid (fun W => leafNode_any W)
  have HF := Lib.hid (fun A' c' lo' hi' W h => treeFrom_any n A' c' lo' hi' (ns.set p lf9) 0 W h (by rw [List.length_set]; omega))
  have hrt := read9_cut (n := n) (ns := ns) (k := p) hT.at0 hT.deep hT.ok (Nat.zero_le _) (by have := hT.len; omega)
  rw [show ((0 : Nat) : Int) = 0 from rfl] at hrt
  rw [hrt, List.length_set] at HF
  have hki : (p : Int) < (ns.length : Int) := by omega
  have HKp := Lib.hid hk
  clear hS hT hk hrt
  generalize tell9 (cut9 t 0 p) 0 = L at HF ⊢
  go_enter Try.func15, Try.ntmps15
  go_wp2_with fail
  generalize (w.alloc (.cells #[.slice (some ⟨b, o, none⟩) ns.length c] 28)).alloc (.cells #[.slice none 0 0] 28) = w0 at HB HT HR HI ⊢
  have h0 := HT.out.c0
  with_reducible refine (HC.out _ HI.out).mono ?_
  rintro e w1 ⟨rfl, hb⟩
  replace HB := Lib.hid (below_trans HB.out hb)
  replace HT := Lib.hid (HT.out.step hb)
  replace HR := Lib.hid (HR.out.step hb)
  replace HI := Lib.hid (HI.out.step hb)
  replace h0 := HT.out.c0
  clear hb
  have hws := HR.out.lt
  have hwb := HB.out.size
  go_wp2_with fail
  with_reducible refine (HK.out _ HI.out).mono ?_
  rintro e w2 ⟨Bk, dk, rfl, hm, hb⟩
  replace HB := Lib.hid (below_trans HB.out hb)
  replace HT := Lib.hid (HT.out.step hb)
  replace HR := Lib.hid (HR.out.step hb)
  replace HI := Lib.hid (HI.out.step hb)
  replace h0 := HT.out.c0
  have HM0 := Lib.hid hm
  clear hm
  clear hb
  clear h0
  go_wp2_with fail
  with_reducible refine (HL.out _).mono ?_
  rintro e w3 ⟨rfl, hb⟩
  replace HB := Lib.hid (below_trans HB.out hb)
  replace HT := Lib.hid (HT.out.step hb)
  replace HR := Lib.hid (HR.out.step hb)
  replace HI := Lib.hid (HI.out.step hb)
  replace HM0 := Lib.hid (HM0.out.step hb)
  clear hb
  obtain ⟨g, rfl, hg1, hg2, ⟨u0, hu0⟩, ⟨u1, hu1⟩, ⟨u2, hu2⟩, hfz, hset⟩ := HM0.out.put9 p HKp.out
  have hf0 := hfz (p * 3)
  have hf1 := hfz (p * 3 + 1)
  have hf2 := hfz (p * 3 + 2)
  have HS := Lib.hid (hset (-1) (-1) (-1))
  clear hfz hset
  go_upto_region 5 with (fail)
  clear hu0 hu1 hu2 hf0 hf1 hf2
  have HMs : Hid (NMade _ _ _ _ (ns.set p lf9)) := Lib.hid HS.out.1
  have hw9 := HS.out.2
  replace HR := Lib.hid (HR.out.within hw9 (.inl (by omega)))
  replace HB := Lib.hid (HB.out.trans (hw9.below (by omega) HB.out.size))
  clear hw9 HS HM0 HT HI
  generalize ((w3.setCell ⟨g, p * 3, none⟩ (.int .i64 (-1))).setCell ⟨g, p * 3 + 1, none⟩ (.int .i64 (-1))).setCell ⟨g, p * 3 + 2, none⟩ (.int .i64 (-1)) = w5 at HMs HR HB ⊢
  have hrl := HR.out.lt
  go_wp2_with fail
  with_reducible refine (HF.out _ _ _ _ _ HMs.out.ins).mono ?_
  rintro e w6 ⟨Bt, dt, rfl, hm, hb⟩
  replace HR := Lib.hid (HR.out.step hb)
  replace HB := Lib.hid (below_trans HB.out hb)
  have HM := Lib.hid hm
  clear hm
  clear hb
  have r0 := HR.out.c0
  have rf0 := HR.out.f0
  obtain ⟨hs, hw⟩ := stored1 HR.out (.slice Bt L.length dt)
  have e0 := hs.c0
  have hbs := HB.out.size
  have HF := Lib.hid (HB.out.trans (hw.below (by omega) HB.out.size))
  have HM2 := Lib.hid (HM.out.within hw (.inr (by omega)))
  clear hs hw
  go_wp2
  refine bodyPost_ret (v := .tuple #[.agg #[.slice Bt L.length dt], .bool true]) (by simp [results, go_sem, e0]) rfl ?_
  have HM3 := HM2.out.wide (lo' := w.heap.size) (by omega) HM2.out.top (Nat.le_refl _)
  first | exact ⟨_, _, rfl, HM3, HF.out⟩ | exact ⟨rfl, HM3, HF.out⟩ | exact ⟨HM3, HF.out⟩ | exact ⟨_, ⟨_, rfl⟩, HM3, HF.out⟩ | exact ⟨⟨_, rfl⟩, HM3, HF.out⟩
theorem cutTree_both (n : Int) (ns : List (Int × Int × Int)) (h : ns.length ≤ 1048576) (k : Int) : ∃ (r0 : List (Int × Int × Int)) (r1 : Bool), r0.length ≤ 1048576 ∧
    (∀ (w : World) (B : Option Addr) (c lo hi : Nat), NIns w lo hi B ns → ns.length ≤ c → Calls Try.prog 15 #[.int .i64 n, .agg #[.slice B ns.length c], .int .i64 k] w fun e w' => ∃ B d, e = .returned (.tuple #[.agg #[.slice B r0.length d], .bool r1]) ∧ NMade w' w.heap.size w'.heap.size B r0 ∧ Below w.heap.size w w') ∧
    (∀ (w : World) (B : Option Addr) (c lo hi : Nat), NIns w lo hi B ns → ns.length ≤ c → Calls Try.prog 14 #[.int .i64 n, .agg #[.slice B ns.length c], .int .i64 k] w fun e w' => ∃ B d, e = .returned (.tuple #[.agg #[.slice B r0.length d], .bool r1]) ∧ NMade w' w.heap.size w'.heap.size B r0 ∧ Below w.heap.size w w') := by
  cases hno : nodeB n ns k with
  | false => exact ⟨[], false, by simp, fun w B c lo hi hS _ => (cutTree_impl_no n B c lo hi ns k w hS h hno).mono fun _ _ => zero_tree9o, fun w B c lo hi hS _ => (cutTree_spec_no n B c lo hi ns k w hS h hno).mono fun _ _ => zero_tree9o⟩
  | true =>
    obtain ⟨t, p, hT, rfl, hk⟩ := nodeB_of hno
    exact ⟨tell9 (cut9 t 0 p) 0, true, by rw [tell9_len]; have h1 := T9.size_127 hT.deep; have h2 := cut9_size t 0 p; omega, fun w B c lo hi hS _ => cutTree_impl n B c lo hi ns p t w hS hT hk, fun w B c lo hi hS hc => cutTree_spec n B c lo hi ns p t w hS hT hk hc⟩
end Go.Proofs.Ytnomgnjfamideab
