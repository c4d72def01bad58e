/- Trees of questions: SubTree, of both sides. -/
import Derived.Test.YtnomgnjfamideabL9K
import Derived.Test.YtnomgnjfamideabL9X
namespace Go.Proofs.Ytnomgnjfamideab
open Go.RowKit Go.ChangeShapes Go.WideShapes Go.Maps
set_option linter.unusedVariables false

theorem zero_tree9o {w w' : World} {e : Ending} (h : e = .returned (.tuple #[.agg #[.slice none 0 0], .bool false]) ∧ Below w.heap.size w w') : ∃ B d, e = .returned (.tuple #[.agg #[.slice B ([] : List (Int × Int × Int)).length d], .bool false]) ∧ NMade w' w.heap.size w'.heap.size B [] ∧ Below w.heap.size w w' :=
  ⟨none, 0, h.1, ⟨.inl ⟨rfl, rfl⟩, Nat.le_refl _⟩, h.2⟩
theorem NIns.addr9 {w : World} {lo hi : Nat} {A : Option Addr} {l : List (Int × Int × Int)} (h : NIns w lo hi A l) (h0 : 0 < l.length) : ∃ b o, A = some ⟨b, o, none⟩ := by
  obtain ⟨b, o, e, _⟩ := h.nds h0
  exact ⟨b, o, e⟩
set_option maxRecDepth 100000 in
set_option maxHeartbeats 8000000 in
theorem subTree_impl_no (n : Int) (A : Option Addr) (c lo hi : Nat) (ns : List (Int × Int × Int)) (k : Int) (w : World) (hS : NIns w lo hi A ns) (hn : ns.length ≤ 1048576) (hno : nodeB n ns k = false) :
    Calls Try.prog 17 #[.int .i64 n, .agg #[.slice A ns.length c], .int .i64 k] w fun e w' => e = .returned (.tuple #[.agg #[.slice none 0 0], .bool false]) ∧ Below w.heap.size w w' := by
  have HT := Lib.hid (One.new w (.slice A ns.length c) 28 w.heap.size rfl)
  have HB := Lib.hid ((Below.refl w.heap.size w).alloc (Nat.le_refl _) (.cells #[.slice A ns.length c] 28))
  have HR := Lib.hid (One.new (w.alloc (.cells #[.slice A ns.length c] 28)) (.slice none 0 0) 28 (w.heap.size + 1) (by simp))
  replace HT := Lib.hid (HT.out.step ((Below.refl _ _).alloc (Nat.le_refl _) (.cells #[.slice none 0 0] 28)))
  replace HB := Lib.hid (HB.out.alloc HB.out.size (.cells #[.slice none 0 0] 28))
  have HI := Lib.hid (hS.step HB.out)
  have HC := Lib.hid (fun W h => node9_impl n A c lo hi ns k W h hn)
  rw [hno] at HC
  clear hS hno
  go_enter Try.func17, Try.ntmps17
  go_wp2_with fail
  generalize (w.alloc (.cells #[.slice A ns.length c] 28)).alloc (.cells #[.slice none 0 0] 28) = w0 at HB HT HR HI ⊢
  have h0 := HT.out.c0
  with_reducible refine (HC.out _ HI.out).mono ?_
  rintro e w1 ⟨rfl, hb⟩
  replace HB := Lib.hid (below_trans HB.out hb)
  replace HT := Lib.hid (HT.out.step hb)
  replace HR := Lib.hid (HR.out.step hb)
  replace HI := Lib.hid (HI.out.step hb)
  replace h0 := HT.out.c0
  clear hb
  clear h0
  have r0 := HR.out.c0
  have rf0 := HR.out.f0
  obtain ⟨hs, hw⟩ := stored1 HR.out (.slice none 0 0)
  have e0 := hs.c0
  have HF := Lib.hid (HB.out.trans (hw.below (by omega) HB.out.size))
  clear hs hw
  go_wp2
  refine bodyPost_ret (v := .tuple #[.agg #[.slice none 0 0], .bool false]) (by simp [results, go_sem, e0]) rfl ?_
  exact ⟨rfl, HF.out⟩
set_option maxRecDepth 100000 in
set_option maxHeartbeats 8000000 in
theorem subTree_spec_no (n : Int) (A : Option Addr) (c lo hi : Nat) (ns : List (Int × Int × Int)) (k : Int) (w : World) (hS : NIns w lo hi A ns) (hn : ns.length ≤ 1048576) (hno : nodeB n ns k = false) :
    Calls Try.prog 16 #[.int .i64 n, .agg #[.slice A ns.length c], .int .i64 k] w fun e w' => e = .returned (.tuple #[.agg #[.slice none 0 0], .bool false]) ∧ Below w.heap.size w w' := by
  have HT := Lib.hid (One.new w (.slice A ns.length c) 28 w.heap.size rfl)
  have HB := Lib.hid ((Below.refl w.heap.size w).alloc (Nat.le_refl _) (.cells #[.slice A ns.length c] 28))
  have HR := Lib.hid (One.new (w.alloc (.cells #[.slice A ns.length c] 28)) (.slice none 0 0) 28 (w.heap.size + 1) (by simp))
  replace HT := Lib.hid (HT.out.step ((Below.refl _ _).alloc (Nat.le_refl _) (.cells #[.slice none 0 0] 28)))
  replace HB := Lib.hid (HB.out.alloc HB.out.size (.cells #[.slice none 0 0] 28))
  have HI := Lib.hid (hS.step HB.out)
  have HC := Lib.hid (fun W h => node9_spec n A c lo hi ns k W h hn)
  rw [hno] at HC
  clear hS hno
  go_enter Try.func16, Try.ntmps16
  go_wp2_with fail
  generalize (w.alloc (.cells #[.slice A ns.length c] 28)).alloc (.cells #[.slice none 0 0] 28) = w0 at HB HT HR HI ⊢
  have h0 := HT.out.c0
  with_reducible refine (HC.out _ HI.out).mono ?_
  rintro e w1 ⟨rfl, hb⟩
  replace HB := Lib.hid (below_trans HB.out hb)
  replace HT := Lib.hid (HT.out.step hb)
  replace HR := Lib.hid (HR.out.step hb)
  replace HI := Lib.hid (HI.out.step hb)
  replace h0 := HT.out.c0
  clear hb
  clear h0
  have r0 := HR.out.c0
  have rf0 := HR.out.f0
  obtain ⟨hs, hw⟩ := stored1 HR.out (.slice none 0 0)
  have e0 := hs.c0
  have HF := Lib.hid (HB.out.trans (hw.below (by omega) HB.out.size))
  clear hs hw
  go_wp2
  refine bodyPost_ret (v := .tuple #[.agg #[.slice none 0 0], .bool false]) (by simp [results, go_sem, e0]) rfl ?_
  exact ⟨rfl, HF.out⟩
set_option maxRecDepth 100000 in
set_option maxHeartbeats 8000000 in
theorem subTree_impl (n : Int) (A : Option Addr) (c lo hi : Nat) (ns : List (Int × Int × Int)) (p : Nat) (t tb : T9) (w : World) (hS : NIns w lo hi A ns) (hT : Tree9 n ns t) (hk : p < ns.length) (hA : At9 ns p tb) (hok : tb.ok n) (hd : tb.depth ≤ 6) :
    Calls Try.prog 17 #[.int .i64 n, .agg #[.slice A ns.length c], .int .i64 (p : Int)] w fun e w' => ∃ B d, e = .returned (.tuple #[.agg #[.slice B (tell9 tb 0).length d], .bool true]) ∧ NMade w' w.heap.size w'.heap.size B (tell9 tb 0) ∧ Below w.heap.size w w' := by
  have HT := Lib.hid (One.new w (.slice A ns.length c) 28 w.heap.size rfl)
  have HB := Lib.hid ((Below.refl w.heap.size w).alloc (Nat.le_refl _) (.cells #[.slice A ns.length c] 28))
  have HR := Lib.hid (One.new (w.alloc (.cells #[.slice A ns.length c] 28)) (.slice none 0 0) 28 (w.heap.size + 1) (by simp))
  replace HT := Lib.hid (HT.out.step ((Below.refl _ _).alloc (Nat.le_refl _) (.cells #[.slice none 0 0] 28)))
  replace HB := Lib.hid (HB.out.alloc HB.out.size (.cells #[.slice none 0 0] 28))
  have HI := Lib.hid (hS.step HB.out)
  have HC := Lib.hid (fun W h => node9_impl n A c lo hi ns (p : Int) W h (by have := hT.le127; omega))
  rw [nodeB_yes hT hk] at HC
  have HF := Lib.hid (fun W h => treeFrom_any n A c lo hi ns (p : Int) W h (by have := hT.le127; omega))
  rw [read9_at hA hd hok] at HF
  clear hS hT hk hA hok hd
  generalize tell9 tb 0 = L at HF ⊢
  go_enter Try.func17, Try.ntmps17
  go_wp2_with fail
  generalize (w.alloc (.cells #[.slice A ns.length c] 28)).alloc (.cells #[.slice none 0 0] 28) = w0 at HB HT HR HI ⊢
  have h0 := HT.out.c0
  with_reducible refine (HC.out _ HI.out).mono ?_
  rintro e w1 ⟨rfl, hb⟩
  replace HB := Lib.hid (below_trans HB.out hb)
  replace HT := Lib.hid (HT.out.step hb)
  replace HR := Lib.hid (HR.out.step hb)
  replace HI := Lib.hid (HI.out.step hb)
  replace h0 := HT.out.c0
  clear hb
  have hrl := HR.out.lt
  go_wp2_with fail
  with_reducible refine (HF.out _ HI.out).mono ?_
  rintro e w2 ⟨Bt, dt, rfl, hm, hb⟩
  replace HB := Lib.hid (below_trans HB.out hb)
  replace HT := Lib.hid (HT.out.step hb)
  replace HR := Lib.hid (HR.out.step hb)
  replace HI := Lib.hid (HI.out.step hb)
  replace h0 := HT.out.c0
  have HM := Lib.hid hm
  clear hm
  clear hb
  clear h0
  have r0 := HR.out.c0
  have rf0 := HR.out.f0
  obtain ⟨hs, hw⟩ := stored1 HR.out (.slice Bt L.length dt)
  have e0 := hs.c0
  have hbs := HB.out.size
  have HF := Lib.hid (HB.out.trans (hw.below (by omega) HB.out.size))
  have HM2 := Lib.hid (HM.out.within hw (.inr (by omega)))
  clear hs hw
  go_wp2
  refine bodyPost_ret (v := .tuple #[.agg #[.slice Bt L.length dt], .bool true]) (by simp [results, go_sem, e0]) rfl ?_
  have HM3 := HM2.out.wide (lo' := w.heap.size) (by omega) HM2.out.top (Nat.le_refl _)
  first | exact ⟨_, _, rfl, HM3, HF.out⟩ | exact ⟨rfl, HM3, HF.out⟩ | exact ⟨HM3, HF.out⟩ | exact ⟨_, ⟨_, rfl⟩, HM3, HF.out⟩ | exact ⟨⟨_, rfl⟩, HM3, HF.out⟩
set_option maxRecDepth 100000 in
set_option maxHeartbeats 8000000 in
theorem subTree_spec (n : Int) (A : Option Addr) (c lo hi : Nat) (ns : List (Int × Int × Int)) (p : Nat) (t tb : T9) (w : World) (hS : NIns w lo hi A ns) (hT : Tree9 n ns t) (hk : p < ns.length) (hA : At9 ns p tb) (hok : tb.ok n) (hd : tb.depth ≤ 6) (hc : ns.length ≤ c) :
    Calls Try.prog 16 #[.int .i64 n, .agg #[.slice A ns.length c], .int .i64 (p : Int)] w fun e w' => ∃ B d, e = .returned (.tuple #[.agg #[.slice B (tell9 tb 0).length d], .bool true]) ∧ NMade w' w.heap.size w'.heap.size B (tell9 tb 0) ∧ Below w.heap.size w w' := by
  obtain ⟨b, o, rfl⟩ := hS.addr9 (by omega)
  have HT := Lib.hid (One.new w (.slice (some ⟨b, o, none⟩) ns.length c) 28 w.heap.size rfl)
  have HB := Lib.hid ((Below.refl w.heap.size w).alloc (Nat.le_refl _) (.cells #[.slice (some ⟨b, o, none⟩) ns.length c] 28))
  have HR := Lib.hid (One.new (w.alloc (.cells #[.slice (some ⟨b, o, none⟩) ns.length c] 28)) (.slice none 0 0) 28 (w.heap.size + 1) (by simp))
  replace HT := Lib.hid (HT.out.step ((Below.refl _ _).alloc (Nat.le_refl _) (.cells #[.slice none 0 0] 28)))
  replace HB := Lib.hid (HB.out.alloc HB.out.size (.cells #[.slice none 0 0] 28))
  have HI := Lib.hid (hS.step HB.out)
  have HC := Lib.hid (fun W h => node9_spec n (some ⟨b, o, none⟩) c lo hi ns (p : Int) W h (by have := hT.le127; omega))
  rw [nodeB_yes hT hk] at HC
  have HF := Lib.hid (fun W h => l9Sub_any n b o c lo hi ns p tb W h hT.le127.2 hc hA hok hd)
  rw [← tell9_len tb 0] at HF
  clear hS hT hk hA hok hd hc
  generalize tell9 tb 0 = L at HF ⊢
  go_enter Try.func16, Try.ntmps16
  go_wp2_with fail
  generalize (w.alloc (.cells #[.slice (some ⟨b, o, none⟩) ns.length c] 28)).alloc (.cells #[.slice none 0 0] 28) = w0 at HB HT HR HI ⊢
  have h0 := HT.out.c0
  with_reducible refine (HC.out _ HI.out).mono ?_
  rintro e w1 ⟨rfl, hb⟩
  replace HB := Lib.hid (below_trans HB.out hb)
  replace HT := Lib.hid (HT.out.step hb)
  replace HR := Lib.hid (HR.out.step hb)
  replace HI := Lib.hid (HI.out.step hb)
  replace h0 := HT.out.c0
  clear hb
  have hrl := HR.out.lt
  go_wp2_with fail
  with_reducible refine (HF.out _ HI.out).mono ?_
  rintro e w2 ⟨Bt, dt, rfl, hdt, hm, hb⟩
  replace HB := Lib.hid (below_trans HB.out hb)
  replace HT := Lib.hid (HT.out.step hb)
  replace HR := Lib.hid (HR.out.step hb)
  replace HI := Lib.hid (HI.out.step hb)
  replace h0 := HT.out.c0
  have HM := Lib.hid hm
  clear hm hdt
  clear hb
  clear h0
  have r0 := HR.out.c0
  have rf0 := HR.out.f0
  obtain ⟨hs, hw⟩ := stored1 HR.out (.slice Bt L.length dt)
  have e0 := hs.c0
  have hbs := HB.out.size
  have HF := Lib.hid (HB.out.trans (hw.below (by omega) HB.out.size))
  have HM2 := Lib.hid (HM.out.within hw (.inr (by omega)))
  clear hs hw
  go_wp2
  refine bodyPost_ret (v := .tuple #[.agg #[.slice Bt L.length dt], .bool true]) (by simp [results, go_sem, e0]) rfl ?_
  have HM3 := HM2.out.wide (lo' := w.heap.size) (by omega) HM2.out.top (Nat.le_refl _)
  first | exact ⟨_, _, rfl, HM3, HF.out⟩ | exact ⟨rfl, HM3, HF.out⟩ | exact ⟨HM3, HF.out⟩ | exact ⟨_, ⟨_, rfl⟩, HM3, HF.out⟩ | exact ⟨⟨_, rfl⟩, HM3, HF.out⟩
theorem subTree_both (n : Int) (ns : List (Int × Int × Int)) (h : ns.length ≤ 1048576) (k : Int) : ∃ (r0 : List (Int × Int × Int)) (r1 : Bool), r0.length ≤ 1048576 ∧
    (∀ (w : World) (B : Option Addr) (c lo hi : Nat), NIns w lo hi B ns → ns.length ≤ c → Calls Try.prog 17 #[.int .i64 n, .agg #[.slice B ns.length c], .int .i64 k] w fun e w' => ∃ B d, e = .returned (.tuple #[.agg #[.slice B r0.length d], .bool r1]) ∧ NMade w' w.heap.size w'.heap.size B r0 ∧ Below w.heap.size w w') ∧
    (∀ (w : World) (B : Option Addr) (c lo hi : Nat), NIns w lo hi B ns → ns.length ≤ c → Calls Try.prog 16 #[.int .i64 n, .agg #[.slice B ns.length c], .int .i64 k] w fun e w' => ∃ B d, e = .returned (.tuple #[.agg #[.slice B r0.length d], .bool r1]) ∧ NMade w' w.heap.size w'.heap.size B r0 ∧ Below w.heap.size w w') := by
  cases hno : nodeB n ns k with
  | false => exact ⟨[], false, by simp, fun w B c lo hi hS _ => (subTree_impl_no n B c lo hi ns k w hS h hno).mono fun _ _ => zero_tree9o, fun w B c lo hi hS _ => (subTree_spec_no n B c lo hi ns k w hS h hno).mono fun _ _ => zero_tree9o⟩
  | true =>
    obtain ⟨t, p, hT, rfl, hk⟩ := nodeB_of hno
    obtain ⟨tb, hA, hok, hdd⟩ := sub9_at hT.at0 hT.ok (Nat.zero_le p) (by have := hT.len; omega)
    have hd := Nat.le_trans hdd hT.deep
    exact ⟨tell9 tb 0, true, by rw [tell9_len]; have := T9.size_127 hd; omega, fun w B c lo hi hS _ => subTree_impl n B c lo hi ns p t tb w hS hT hk hA hok hd, fun w B c lo hi hS hc => subTree_spec n B c lo hi ns p t tb w hS hT hk hA hok hd hc⟩
end Go.Proofs.Ytnomgnjfamideab
