/- SplitString of the program: it collects what the iterator hands out. -/
import Derived.Maps.AppendAt
import Derived.Maps.OwnIn
import Derived.Test.YtdbhmlnojbmepaaParts
namespace Go.Proofs.Ytdbhmlnojbmepaa
open Go.RowKit Go.Shelf
set_option linter.unusedVariables false
attribute [local go_sem] Oper.semAt_some

set_option maxHeartbeats 1000000 in
theorem partsOf_in (F : Fence) (n : Nat) (hf : F.fn 27) (hro : F.round = none) (s : ByteArray) (c : Int) (w : World) :
    CallsIn F n Try.prog 27 #[.string s, .int .u8 c] w fun e w' =>
      e = .returned (.func (.func 37) #[] #[.pointer (some ⟨w.heap.size, 0, none⟩), .pointer (some ⟨w.heap.size + 1, 0, none⟩)]) ∧ w' = (w.alloc (.cells #[.string s] 9)).alloc (.cells #[.int .u8 c] 5) := by
  refine callsIn_of_wp Try.func27 rfl hf ?_ hro
  simp only [Try.ntmps27, List.size_toArray, List.length_cons, List.length_nil, Nat.reduceAdd, Nat.reduceSub, Array.replicate_succ, Array.replicate_zero, List.push_toArray, List.append_toArray, List.nil_append, List.cons_append]
  gi_wp2
  go_ret
  exact ⟨rfl, rfl⟩

theorem parts_stops (F : Fence) (n : Nat) (hf : F.fn 37) (hro : F.round = none) (hn : 1 ≤ n) (b1 b2 : Nat) (s : ByteArray) (c : UInt8) (hs : s.size ≤ 1048576) (w : World)
    (hc1 : w.cell? ⟨b1, 0, none⟩ = some (.string s)) (hc2 : w.cell? ⟨b2, 0, none⟩ = some (.int .u8 (c.toNat : Int))) (hb1 : b1 < w.heap.size) (hb2 : b2 < w.heap.size) :
    SeqStopsK F n Try.prog 37 #[.pointer (some ⟨b1, 0, none⟩), .pointer (some ⟨b2, 0, none⟩)] (fun x : ByteArray => #[Value.string x]) (Two b1 b2) (fun ys => ys = parts s c) (fun _ => True) (parts s c).length w := fun l J Jx W hW hJ _ hY h0 =>
  parts1_in F n hf hro hn l b1 b2 s c hs J Jx (fun pre W1 h => hJ pre W1 W1.drew none h ⟨rfl, rfl, rfl, Nat.le_refl _, fun _ _ _ => rfl⟩ (by simp)) hY W
    ((hW.cell (p := ⟨b1, 0, none⟩) hb1).trans hc1) ((hW.cell (p := ⟨b2, 0, none⟩) hb2).trans hc2) h0
/-- The law's own book-keeping turns neither block. -/
theorem two_b {b1 b2 : Nat} {w : World} (h1 : b1 < w.heap.size) (h2 : b2 < w.heap.size) (W : World) (l : Nat) (o o' : Obj) (hl : w.heap.size ≤ l) (_ : W.heap[l]? = some o) (_ : o.isCells = false) (_ : o.isWalk = false) : Two b1 b2 W (W.putObj l o') :=
  ⟨(grownBy_putObj' W l o').block b1 (by have := (Array.getElem?_eq_some_iff.1 ‹W.heap[l]? = some o›).1; omega) (fun e => by injection e; omega), (grownBy_putObj' W l o').block b2 (by have := (Array.getElem?_eq_some_iff.1 ‹W.heap[l]? = some o›).1; omega) (fun e => by injection e; omega)⟩
/-- What the caller holds between two rounds, N blocks having lain when it began. -/
def Inv (N : Nat) (w : World) (pre : List ByteArray) (W : World) : Prop :=
  (∃ v, Boxed W (N + 1) 26 v ∧ W.ownsRow N 9 1 v pre.length (pre.map Value.string) ∧ (v.ownBlock ≠ some (N + 2) ∧ v.ownBlock ≠ some (N + 3))) ∧ Below N w W ∧ N + 4 ≤ W.heap.size
theorem inv_own {N : Nat} {w : World} {M : Nat} (hw : N = w.heap.size) (hM : N ≤ M) : OwnFrom M (Inv N w) :=
  OwnFrom.and (Own.from (holdsRow_own N (N + 1) 26 9 1 (fun pre : List ByteArray => pre.length) (fun pre => pre.map Value.string) (fun pre v => v.ownBlock ≠ some (N + 2) ∧ v.ownBlock ≠ some (N + 3))) _)
    (OwnFrom.and (ownFrom_below (by omega) (by omega)) (fun s A B row hs hg hr => Nat.le_trans hs hg.size))

theorem two_step {N : Nat} {W w1 : World} {v u : Value} {o : Obj} (hg : (W.alloc o).grownBy w1 v.ownBlock) (hnb : v.ownBlock ≠ some (N + 2) ∧ v.ownBlock ≠ some (N + 3)) (hsz : N + 4 ≤ W.heap.size) : Two (N + 1 + 1) (N + 1 + 1 + 1) W (w1.setCell ⟨N + 1, 0, none⟩ u) := by
  have key : ∀ b, b < W.heap.size → v.ownBlock ≠ some b → b ≠ N + 1 → (w1.setCell ⟨N + 1, 0, none⟩ u).heap[b]? = W.heap[b]? := fun b hb hn hne =>
    (Below.heap_setCell w1 ⟨N + 1, 0, none⟩ u b hne).trans ((hg.block b (by rw [World.size_alloc]; omega) (fun e => hn e.symm)).trans (Below.heap_alloc W o b hb))
  exact ⟨key _ (by omega) hnb.1 (by omega), key _ (by omega) hnb.2 (by omega)⟩
theorem nb_step {N : Nat} {W : World} {v v' : Value} {o : Obj} (hat : v'.ownBlock = v.ownBlock ∨ v'.ownBlock = some (W.alloc o).heap.size) (hnb : v.ownBlock ≠ some (N + 2) ∧ v.ownBlock ≠ some (N + 3)) (hsz : N + 4 ≤ W.heap.size) : v'.ownBlock ≠ some (N + 2) ∧ v'.ownBlock ≠ some (N + 3) := by
  rcases hat with h | h
  · rw [h]; exact hnb
  · rw [h, World.size_alloc]
    exact ⟨fun e => by injection e; omega, fun e => by injection e; omega⟩

set_option maxRecDepth 100000 in
set_option maxHeartbeats 2000000 in
theorem split_in (F : Fence) (n : Nat) (h1 : F.fn 10) (h2 : F.fn 27) (h3 : F.fn 37) (hro : F.round = none) (hn : 3 ≤ n) (s sep : ByteArray) (hs : s.size ≤ 4000) (hsep : sep.size = 1) (hpos : 0 < sep.size) (w : World) :
    CallsIn F n Try.prog 10 #[.string s, .string sep] w fun e W' => ∃ v, e = .returned (.tuple #[v, .bool true]) ∧ W'.ownsRow w.heap.size 9 1 v (parts s (sep[0]'hpos)).length ((parts s (sep[0]'hpos)).map Value.string) ∧ Below w.heap.size w W' := by
  have hn1 : 1 ≤ n := by omega
  obtain ⟨i0, hi, hz0, hz1, hz2⟩ := info_parts infoString
  have hse : ((sep.size : Int) != 1) = false := by simp; omega
  have hpl := parts_len s sep[0]
  have HSep := Lib.hid hsep
  clear hsep
  refine callsIn_of_wp_marks Try.func10 rfl h1 ?_ hro
  simp only [Try.ntmps10, List.size_toArray, List.length_cons, List.length_nil, Nat.reduceAdd, Nat.reduceSub, Array.replicate_succ, Array.replicate_zero, List.push_toArray, List.append_toArray, List.nil_append, List.cons_append]
  gi_wp2_with (gi_at_call 27; refine (partsOf_in F (n - 1) h2 hro _ _ _).mono ?_; rintro e w' ⟨rfl, rfl⟩)
  generalize hcs : sep[0] = c at hpl ⊢
  have bO : Boxed ((w.alloc (.cells #[] 9)).alloc (.cells #[.slice (some ⟨w.heap.size, 0, none⟩) 0 0] 26)) (w.heap.size + 1) 26 (.slice (some ⟨w.heap.size, 0, none⟩) 0 0) := by
    have := Boxed.new (w.alloc (.cells #[] 9)) 26 (.slice (some ⟨w.heap.size, 0, none⟩) 0 0)
    rwa [World.size_alloc] at this
  have hrow0 : (w.alloc (.cells #[] 9)).ownsRow w.heap.size 9 1 (.slice (some ⟨w.heap.size, 0, none⟩) 0 0) 0 [] := World.ownsRow_lit w #[] 0 (Nat.le_refl _) (by unfold maxLen; omega) rfl
  have bS : Boxed (((w.alloc (.cells #[] 9)).alloc (.cells #[.slice (some ⟨w.heap.size, 0, none⟩) 0 0] 26)).alloc (.cells #[.string s] 9)) (w.heap.size + 1 + 1) 9 (.string s) := by
    have := Boxed.new ((w.alloc (.cells #[] 9)).alloc (.cells #[.slice (some ⟨w.heap.size, 0, none⟩) 0 0] 26)) 9 (.string s)
    rwa [World.size_alloc, World.size_alloc] at this
  have bC : Boxed ((((w.alloc (.cells #[] 9)).alloc (.cells #[.slice (some ⟨w.heap.size, 0, none⟩) 0 0] 26)).alloc (.cells #[.string s] 9)).alloc (.cells #[.int .u8 (c.toNat : Int)] 5)) (w.heap.size + 1 + 1 + 1) 5 (.int .u8 (c.toNat : Int)) := by
    have := Boxed.new (((w.alloc (.cells #[] 9)).alloc (.cells #[.slice (some ⟨w.heap.size, 0, none⟩) 0 0] 26)).alloc (.cells #[.string s] 9)) 5 (.int .u8 (c.toNat : Int))
    rwa [World.size_alloc, World.size_alloc, World.size_alloc] at this
  have hB0 : Below w.heap.size w ((((w.alloc (.cells #[] 9)).alloc (.cells #[.slice (some ⟨w.heap.size, 0, none⟩) 0 0] 26)).alloc (.cells #[.string s] 9)).alloc (.cells #[.int .u8 (c.toNat : Int)] 5)) :=
    ((((Below.refl _ w).alloc (Nat.le_refl _) _).alloc (by simp) _).alloc (by simp; omega) _).alloc (by simp; omega) _
  have hI0 : Inv w.heap.size w [] ((((w.alloc (.cells #[] 9)).alloc (.cells #[.slice (some ⟨w.heap.size, 0, none⟩) 0 0] 26)).alloc (.cells #[.string s] 9)).alloc (.cells #[.int .u8 (c.toNat : Int)] 5)) :=
    ⟨⟨_, (bO.alloc _).alloc _, ((hrow0.alloc _).alloc _).alloc _, by simp [Value.ownBlock], by simp [Value.ownBlock]⟩, hB0, by simp⟩
  have hst := parts_stops F (n - 1) h3 hro (by omega) (w.heap.size + 1 + 1) (w.heap.size + 1 + 1 + 1) s c (by omega) _ (bS.alloc (.cells #[.int .u8 (c.toNat : Int)] 5)).cell bC.cell (by simp) (by simp)
  refine wpIn_rangeFunc_ownG hro hn1 (gf := 37) (lb := #[.pointer (some ⟨w.heap.size + 1 + 1, 0, none⟩), .pointer (some ⟨w.heap.size + 1 + 1 + 1, 0, none⟩)]) rfl h3 (enters_of Try.func37 (by kernel_rfl) rfl)
    hst Two.trans (two_b (by simp) (by simp)) (Below.refl _ _) (fun _ => rfl)
    (Inv w.heap.size w) (fun _ _ _ => False) (inv_own rfl (by simp; omega)) (fun _ _ _ _ _ hs _ _ => hs) hI0
    (fun x => { tmps := #[.string s, .string sep, undef, undef, .slice none 0 0, .bool false, .pointer (some ⟨w.heap.size + 1, 0, none⟩), .string x, .string s, .int .i64 (s.size : Int), .bool (decide ((4000 : Int) < (s.size : Int))), .bool (decide ((4000 : Int) < (s.size : Int))), .string sep, .int .i64 (sep.size : Int), .bool false, .bool (decide ((4000 : Int) < (s.size : Int))), undef, .slice (some ⟨w.heap.size, 0, none⟩) 0 0, .string s, .string sep, .int .u8 (c.toNat : Int), .func (.func 37) #[] #[.pointer (some ⟨w.heap.size + 1 + 1, 0, none⟩), .pointer (some ⟨w.heap.size + 1 + 1 + 1, 0, none⟩)], .string x, undef, undef, undef, undef, undef], defers := [] }) ?assign ?body ?done ?stop
  case assign =>
    intro l x W K hK
    gi_wp2
    exact hK
  case body =>
    clear hst hI0 hB0 bC bS hrow0 bO
    rintro l pre x W ⟨⟨v, hv, hrow, hnb⟩, hB, hsz⟩ hlt
    have hc := hv.cell
    have hp : pre.length ≤ 1048577 := by omega
    gi_wp2_with (gi_at_builtin; refine wpListIn_append_own_at _ rfl _ _ 26 rfl w.heap.size 9 i0 (.string ⟨#[]⟩) 1 16 Try.underlying26 hi hz0 hz1 hz2 rfl (by decide) _ _ _ rfl (hrow.alloc _) ⟨W.heap.size, 0, none⟩ 1 1 [.string x] rfl rfl (cell_one_new _ _ _) (by simp [Value.oneCell']) (by unfold maxLen; omega) (by omega) (by have := hB.size; simp; omega) ?_; intro v' w1 hown' hgrow _ hat; obtain ⟨g', cap', rfl⟩ := ownsRow_succ hown'; obtain ⟨hv1, hv2, hr2, hk2, hb2⟩ := hv.appended (by decide) hrow hB.size (by omega) hown' hgrow; have hc1 := hv1.cell; have hf1 := hv1.frozen)
    exact ⟨hk2.from _, two_step hgrow hnb hsz, ⟨_, hv2, by simpa using hr2, nb_step hat hnb hsz⟩, hB.trans hb2, by have := hgrow.size; rw [World.size_alloc] at this; show _ ≤ (World.setCell _ _ _).heap.size; simp [World.setCell]; omega⟩
  case done =>
    rintro D ys W hD rfl ⟨⟨v, hv, hrow, hnb⟩, hB, hsz⟩ hK
    have hcl := hv.cell
    clear hst hI0 hB0 bC bS hrow0 bO
    gi_wp2
    refine ⟨by simp, .inl ⟨_, _, rfl, run_takeDeferred hK, ?_⟩⟩
    rw [hcs]
    exact ⟨_, results_tmp2 rfl _ _ _, v, rfl, ownsRow_putObj hrow _ hK rfl, hB.trans (belowK_b (w := w) (Nat.le_refl _) W D _ _ (by simp at hD; omega) hK rfl rfl)⟩
  case stop =>
    rintro D c pre W _ _ h _
    exact h.elim

/-- The program's SplitString, where it answers. -/
theorem split_impl (s sep : ByteArray) (hs : s.size ≤ 4000) (hsep : sep.size = 1) (hpos : 0 < sep.size) (w : World) :
    Calls Try.prog 10 #[.string s, .string sep] w fun e W' => ∃ v, e = .returned (.tuple #[v, .bool true]) ∧ W'.ownsRow w.heap.size 9 1 v (parts s (sep[0]'hpos)).length ((parts s (sep[0]'hpos)).map Value.string) ∧ Below w.heap.size w W' :=
  (callsIn_wide (n := 6)).1 (split_in Fence.wide 6 trivial trivial trivial rfl (by omega) s sep hs hsep hpos w)
/-- An empty slice that the call has made, and no. -/
def RetEmpty (w : World) (e : Ending) (w' : World) : Prop := ∃ g, e = .returned (.tuple #[.slice (some ⟨g, 0, none⟩) 0 0, .bool false]) ∧ w.heap.size ≤ g ∧ w'.heap[g]? = some (.cells #[] 9 (0, 0)) ∧ Below w.heap.size w w'
theorem split_impl_no1 (s sep : ByteArray) (hs : 4000 < s.size) (hs2 : s.size ≤ 1048576) (w : World) :
    Calls Try.prog 10 #[.string s, .string sep] w (RetEmpty w) := by
  go_enter Try.func10, Try.ntmps10
  go_wp2
  go_ret2
  exact ⟨_, rfl, Nat.le_refl _, heap_alloc_new w _, (Below.refl _ _).alloc (Nat.le_refl _) _⟩
theorem split_impl_no2 (s sep : ByteArray) (hs : s.size ≤ 4000) (hsep : sep.size ≠ 1) (hsep2 : sep.size ≤ 1048576) (w : World) :
    Calls Try.prog 10 #[.string s, .string sep] w (RetEmpty w) := by
  have hse : ((sep.size : Int) != 1) = true := by simp; omega
  go_enter Try.func10, Try.ntmps10
  go_wp2
  go_ret2
  exact ⟨_, rfl, Nat.le_refl _, heap_alloc_new w _, (Below.refl _ _).alloc (Nat.le_refl _) _⟩
/-- The model's. -/
theorem split_spec (s sep : ByteArray) (hs : s.size ≤ 4000) (hsep : sep.size = 1) (hpos : 0 < sep.size) (w : World) :
    Calls Try.prog 17 #[.string s, .string sep] w fun e W' => ∃ v, e = .returned (.tuple #[v, .bool true]) ∧ W'.ownsRow w.heap.size 9 1 v (parts s (sep[0]'hpos)).length ((parts s (sep[0]'hpos)).map Value.string) ∧ Below w.heap.size w W' := by
  have hse : ((sep.size : Int) != 1) = false := by simp; omega
  have C := Lib.hid (l1Split_any s sep[0] w (by omega))
  go_enter Try.func17, Try.ntmps17
  go_wp2_with fail
  refine C.out.mono ?_
  rintro e w1 ⟨v, rfl, hown, hb⟩
  have HO := Lib.hid hown
  have HB := Lib.hid hb
  clear hown hb C
  go_wp2_with fail
  go_ret2
  exact ⟨v, rfl, HO.out, HB.out⟩
theorem split_spec_no1 (s sep : ByteArray) (hsep : sep.size ≠ 1) (hsep2 : sep.size ≤ 1048576) (w : World) :
    Calls Try.prog 17 #[.string s, .string sep] w (RetEmpty w) := by
  have hse : ((sep.size : Int) != 1) = true := by simp; omega
  go_enter Try.func17, Try.ntmps17
  go_wp2
  go_ret2
  exact ⟨_, rfl, Nat.le_refl _, heap_alloc_new w _, (Below.refl _ _).alloc (Nat.le_refl _) _⟩
theorem split_spec_no2 (s sep : ByteArray) (hs : 4000 < s.size) (hs2 : s.size ≤ 1048576) (hsep : sep.size = 1) (w : World) :
    Calls Try.prog 17 #[.string s, .string sep] w (RetEmpty w) := by
  have hse : ((sep.size : Int) != 1) = false := by simp; omega
  have H := Lib.hid hsep
  clear hsep
  go_enter Try.func17, Try.ntmps17
  go_wp2
  go_ret2
  exact ⟨_, rfl, Nat.le_refl _, heap_alloc_new w _, (Below.refl _ _).alloc (Nat.le_refl _) _⟩

/-- A slice in new memory that reads as ss, and whether there is an answer. -/
def SplitRet (w : World) (ss : List ByteArray) (ok : Bool) (e : Ending) (w' : World) : Prop :=
  ∃ g c cur, e = .returned (.tuple #[.slice (some ⟨g, 0, none⟩) ss.length c, .bool ok]) ∧ w.heap.size ≤ g ∧ w'.heap[g]? = some (.cells cur 9 (0, 0)) ∧ ss.length ≤ cur.size ∧ ss.length ≤ c ∧ (∀ (j : Nat) x, ss[j]? = some x → cur[j]? = some (.string x)) ∧ Below w.heap.size w w'
theorem splitRet_own {w w' : World} {ss : List ByteArray} {e : Ending} (hpos : 1 ≤ ss.length) (h : ∃ v, e = .returned (.tuple #[v, .bool true]) ∧ w'.ownsRow w.heap.size 9 1 v ss.length (ss.map Value.string) ∧ Below w.heap.size w w') : SplitRet w ss true e w' := by
  obtain ⟨v, rfl, hown, hb⟩ := h
  rcases hown.2 with ⟨_, h0⟩ | ⟨g, cap, cur, rfl, hg, hh, hn, hm, hsz, htk⟩
  · omega
  · refine ⟨g, cap, cur, rfl, hg, hh, by omega, hn, fun j x hx => ?_, hb⟩
    have h1 : (ss.map Value.string)[j]? = some (.string x) := by simp [hx]
    rw [← htk, List.getElem?_take] at h1
    split at h1
    · simpa using h1
    · cases h1
theorem splitRet_empty {w w' : World} {e : Ending} (h : RetEmpty w e w') : SplitRet w [] false e w' := by
  obtain ⟨g, rfl, hg, hh, hb⟩ := h
  exact ⟨g, 0, #[], rfl, hg, hh, Nat.le_refl _, Nat.le_refl _, fun j x hx => by simp at hx, hb⟩
theorem split_both (s sep : ByteArray) (hs : s.size ≤ 1048576) (hsep : sep.size ≤ 1048576) : ∃ ss ok, ss.length ≤ 4001 ∧ (∀ w, Calls Try.prog 10 #[.string s, .string sep] w (SplitRet w ss ok)) ∧ (∀ w, Calls Try.prog 17 #[.string s, .string sep] w (SplitRet w ss ok)) := by
  by_cases h1 : sep.size = 1
  · by_cases h2 : s.size ≤ 4000
    · have hpl := parts_len s (sep[0]'(by omega))
      exact ⟨parts s (sep[0]'(by omega)), true, by omega, fun w => (split_impl s sep h2 h1 (by omega) w).mono fun e w' h => splitRet_own hpl.1 h, fun w => (split_spec s sep h2 h1 (by omega) w).mono fun e w' h => splitRet_own hpl.1 h⟩
    · exact ⟨[], false, by simp, fun w => (split_impl_no1 s sep (by omega) hs w).mono fun e w' h => splitRet_empty h, fun w => (split_spec_no2 s sep (by omega) hs h1 w).mono fun e w' h => splitRet_empty h⟩
  · by_cases h2 : s.size ≤ 4000
    · exact ⟨[], false, by simp, fun w => (split_impl_no2 s sep h2 h1 hsep w).mono fun e w' h => splitRet_empty h, fun w => (split_spec_no1 s sep h1 hsep w).mono fun e w' h => splitRet_empty h⟩
    · exact ⟨[], false, by simp, fun w => (split_impl_no1 s sep (by omega) hs w).mono fun e w' h => splitRet_empty h, fun w => (split_spec_no1 s sep h1 hsep w).mono fun e w' h => splitRet_empty h⟩
end Go.Proofs.Ytdbhmlnojbmepaa
