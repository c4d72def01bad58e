/- The function that tells both weights of each question: made, and called. -/
import Derived.Test.YtdolonmjhlhkeabBehind
import Derived.Deep.RegionHeld3
namespace Go.Proofs.Ytdolonmjhlhkeab
open Go.RowKit Go.ChangeShapes Go.WideShapes
set_option linter.unusedVariables false

/-- What the function has captured: a block with the function 'behind', which has captured the State's block and that of the weights. -/
def Weigher (w : World) (bb : Nat) (A : Option Addr) (c lo hi : Nat) (zs : List Int) (M q : Nat) : Prop :=
  ∃ sb wb g : Nat, One w bb (.func (.func 114) #[] #[.pointer (some ⟨sb, 0, none⟩), .pointer (some ⟨wb, 0, none⟩)]) 89 ∧
    Two w sb (.slice A zs.length c) (.int .i64 (M : Int)) 26 ∧ One w wb (.slice (some ⟨g, 0, none⟩) (M + 1) (M + 1)) 24 ∧ Ins w g (g + 1) (some ⟨g, 0, none⟩) (tabs M q) ∧ Ins w lo hi A zs
theorem Weigher.step {w w' : World} {bb : Nat} {A : Option Addr} {c lo hi : Nat} {zs : List Int} {M q : Nat} (h : Weigher w bb A c lo hi zs M q) (hb : Below w.heap.size w w') : Weigher w' bb A c lo hi zs M q := by
  obtain ⟨sb, wb, g, h1, h2, h3, h4, h5⟩ := h
  exact ⟨sb, wb, g, h1.step hb, h2.step hb, h3.step hb, h4.step hb, h5.step hb⟩

set_option maxRecDepth 100000 in
set_option maxHeartbeats 4000000 in
theorem weigherOf_any (A : Option Addr) (c lo hi : Nat) (zs : List Int) (M q : Nat) (Q : Int) (w : World) (hS : Ins w lo hi A zs) (hM : M ≤ 2) (hq : q ≤ 29) (hQ : Q = (q : Int) + 1) :
    Calls Try.prog 90 #[.agg #[.slice A zs.length c, .int .i64 (M : Int)], .int .i64 Q] w fun e w' => ∃ bb, e = .returned (.func (.func 115) #[] #[.pointer (some ⟨bb, 0, none⟩)]) ∧ Weigher w' bb A c lo hi zs M q ∧ Below w.heap.size w w' := by
  have HT := Lib.hid (Two.new w (.slice A zs.length c) (.int .i64 (M : Int)) 26 w.heap.size rfl)
  have HB := Lib.hid ((Below.refl w.heap.size w).alloc (Nat.le_refl _) (.cells #[.slice A zs.length c, .int .i64 (M : Int)] 26))
  have HI := Lib.hid (hS.step HB.out)
  have HWT := Lib.hid (fun W x (hx : x = (q : Int)) => by rw [hx]; exact weightsOf_impl M q hM (by omega) W : ∀ (W : World) (x : Int), x = (q : Int) → Calls Try.prog 71 #[.int .i64 (M : Int), .int .i64 x] W fun e w' => ∃ g, e = .returned (.slice (some ⟨g, 0, none⟩) (M + 1) (M + 1)) ∧ W.heap.size ≤ g ∧ w'.heap[g]? = some (.cells ((tabs M q).map (Value.int .i64)).toArray 3 (0, 0)) ∧ Below W.heap.size W w')
  have hmf : ∀ (fn : Fn) (first cap : Array Value) (w : World), (Instr.makeFunc fn first cap).run Try.prog w = .ok (.func fn first cap) w := fun _ _ _ _ => rfl
  clear hS
  go_enter Try.func90, Try.ntmps90
  go_wp2_with fail
  generalize w.alloc (.cells #[.slice A zs.length c, .int .i64 (M : Int)] 26) = wa at HT HI HB ⊢
  have h0 := HT.out.c0
  have h1 := HT.out.c1
  go_wp2_with fail
  refine (HWT.out _ _ (by omega)).mono ?_
  rintro e wb ⟨g, rfl, hg, hr, hb⟩
  have HRb := Lib.hid (row_insW hr)
  have HTb := Lib.hid (HT.out.step hb)
  have HIb := Lib.hid (HI.out.step hb)
  have HBb := Lib.hid (below_trans HB.out hb)
  clear hb hr h0 h1 HT HI HB
  have n1 : ((wb.alloc (.cells #[.slice (some ⟨g, 0, none⟩) (M + 1) (M + 1)] 24)).alloc (.cells #[.nilFunc] 89)).cell? ⟨wb.heap.size + 1, 0, none⟩ = some .nilFunc := (One.new _ _ _ _ (by simp)).c0
  have n2 : ((wb.alloc (.cells #[.slice (some ⟨g, 0, none⟩) (M + 1) (M + 1)] 24)).alloc (.cells #[.nilFunc] 89)).frozen? ⟨wb.heap.size + 1, 0, none⟩ = false := row_freeI (One.new _ _ _ _ (by simp)).row 0
  have hsf : ∀ (a : Addr) (fn : Fn) (x y : Array Value) (w : World) (u : Value), w.cell? a = some u → w.frozen? a = false → (store a (.func fn x y)).run Try.prog w = .ok () (w.setCell a (.func fn x y)) := fun a fn x y w u h1 h2 => by
    rw [run_store _ _ _ _ _ rfl, h1]
    simp [h2]
  go_wp2
  go_ret
  clear n1 n2 hsf hmf
  have B1 := (Below.refl wb.heap.size wb).alloc (Nat.le_refl _) (.cells #[.slice (some ⟨g, 0, none⟩) (M + 1) (M + 1)] 24)
  have hw1 := One.new wb (.slice (some ⟨g, 0, none⟩) (M + 1) (M + 1)) 24 wb.heap.size rfl
  have hT1 := HTb.out.step B1
  have hI1 := HIb.out.step B1
  have hR1 := HRb.out.step B1
  generalize hwb : wb.alloc (.cells #[.slice (some ⟨g, 0, none⟩) (M + 1) (M + 1)] 24) = wc at B1 hw1 hT1 hI1 hR1 ⊢
  have B2 := (Below.refl wc.heap.size wc).alloc (Nat.le_refl _) (.cells #[.func (.func 114) #[] #[.pointer (some ⟨w.heap.size, 0, none⟩), .pointer (some ⟨wb.heap.size, 0, none⟩)]] 89)
  exact ⟨_, rfl, ⟨w.heap.size, wb.heap.size, g, One.new _ _ _ _ (by rw [← hwb]; simp), hT1.step B2, hw1.step B2, hR1.step B2, hI1.step B2⟩, below_trans HBb.out (below_trans B1 B2)⟩

set_option maxRecDepth 100000 in
set_option maxHeartbeats 8000000 in
theorem weigh_any (A : Option Addr) (c lo hi : Nat) (zs : List Int) (M q : Nat) (k : Int) (bb : Nat) (w : World) (hW : Weigher w bb A c lo hi zs M q) (hst : isSt zs (M : Int) = true) (hq : q ≤ 30) (hk : qOK zs.length k = true) :
    Calls Try.prog 115 #[.int .i64 k, .pointer (some ⟨bb, 0, none⟩)] w fun e w' => e = .returned (.agg #[.int .i64 (behW q M zs k true : Int), .int .i64 (behW q M zs k false : Int)]) ∧ Below w.heap.size w w' := by
  have hlt : bb < w.heap.size := by
    obtain ⟨sb, wb, g, h1, _⟩ := hW
    exact h1.lt
  have HBl := Lib.hid ((Below.refl w.heap.size w).alloc (Nat.le_refl _) (.cells #[.int .i64 0, .int .i64 0] 42))
  have HR := Lib.hid (Two.new w (.int .i64 0) (.int .i64 0) 42 w.heap.size rfl)
  obtain ⟨sb, wb, g, h1, h2, h3, h4, h5⟩ := hW.step HBl.out
  have HC := Lib.hid (fun (W : World) (y : Bool) (hb : Below (w.alloc (.cells #[.int .i64 0, .int .i64 0] 42)).heap.size (w.alloc (.cells #[.int .i64 0, .int .i64 0] 42)) W) => behind_any A c lo hi zs M q k y sb wb g W (h2.step hb) (h3.step hb) (h4.step hb) (h5.step hb) hst hq hk)
  have HO := Lib.hid h1
  clear hW hst hk h1 h2 h3 h4 h5
  go_enter Try.func115, Try.ntmps115
  go_wp2_with fail
  have hne : bb ≠ w.heap.size := by omega
  generalize w.alloc (.cells #[.int .i64 0, .int .i64 0] 42) = wa at HC HO HBl HR ⊢
  go_region_held3 (fun w' => w'.cell? ⟨bb, 0, none⟩ = some (.func (.func 114) #[] #[.pointer (some ⟨sb, 0, none⟩), .pointer (some ⟨wb, 0, none⟩)]))
    (first | exact (HO.out.step (Below.refl _ wa).drew).c0 | exact (HO.out.step HK.out).c0 | exact (HO.out.step HK2.out).c0 | exact (World.cell?_of_block ((within_set (within_set (Within.refl w.heap.size (w.heap.size + 1) w2) (Nat.le_refl _) (Nat.lt_succ_self _) 0 _) (Nat.le_refl _) (Nat.lt_succ_self _) 1 _).block bb (HO.out.step HK2.out).lt (.inl hlt))).trans (HO.out.step HK2.out).c0)
    (first | (go_at_call 114; refine (HC.out _ false HK.out).mono ?_; rintro e w2 ⟨rfl, hb⟩; have HK2 := Lib.hid (below_trans HK.out hb); have HR2 := Lib.hid (HR.out.step HK2.out); have q0 := HR2.out.c0; have q1 := HR2.out.c1; have q2 := HR2.out.f0; have q3 := HR2.out.f1; clear hb) | (go_at_call 114; refine (HC.out wa.drew true (Below.refl _ wa).drew).mono ?_; rintro e w1 ⟨rfl, hb⟩; have HK := Lib.hid (below_trans (Below.refl _ wa).drew hb); clear hb))
  all_goals
    go_wp2
    obtain ⟨hs, hw⟩ := stored2 HR2.out.row (.int .i64 (behW q M zs k true : Int)) (.int .i64 (behW q M zs k false : Int))
    generalize ((w2.setCell ⟨w.heap.size, 0, none⟩ (.int .i64 (behW q M zs k true : Int))).setCell ⟨w.heap.size, 1, none⟩ (.int .i64 (behW q M zs k false : Int))) = wf at hs hw ⊢
    have e0 := two0 hs
    have e1 := two1 hs
    refine bodyPost_ret (v := .agg #[.int .i64 (behW q M zs k true : Int), .int .i64 (behW q M zs k false : Int)]) (by simp [results, go_sem, e0, e1]) rfl ?_
    have HBf := below_trans HBl.out HK2.out
    exact ⟨rfl, HBf.trans (hw.below (Nat.le_refl _) HBf.size)⟩
end Go.Proofs.Ytdolonmjhlhkeab
