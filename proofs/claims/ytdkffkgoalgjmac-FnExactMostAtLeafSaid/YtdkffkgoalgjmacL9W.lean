/- Trees of questions: the way to a node, of both sides. -/
import Derived.Test.YtdkffkgoalgjmacL9F
import Derived.Test.YtdkffkgoalgjmacL6A
import Derived.Deep.Cut
namespace Go.Proofs.Ytdkffkgoalgjmac
open Go.RowKit Go.ChangeShapes Go.WideShapes Go.Maps
set_option linter.unusedVariables false

theorem infoAsk9 : (Try.prog.info? 52).map (fun i => (i.zero, i.size, i.bytes)) = some (some (.agg #[.int .i64 0, .bool false]), 2, 16) := by kernel_rfl
/-- Whether a list is a tree and has a node. -/
def nodeB (n : Int) (ns : List (Int × Int × Int)) (k : Int) : Bool := isT9 n ns && inB k 0 ((ns.length : Int) - 1)
theorem nodeB_no {n : Int} {ns : List (Int × Int × Int)} {k : Int} (h : isT9 n ns = false) : nodeB n ns k = false := by simp [nodeB, h]
theorem nodeB_of {n : Int} {ns : List (Int × Int × Int)} {k : Int} (h : nodeB n ns k = true) : ∃ (t : T9) (p : Nat), Tree9 n ns t ∧ k = (p : Int) ∧ p < ns.length := by
  unfold nodeB at h
  rw [Bool.and_eq_true, inB_iff] at h
  obtain ⟨t, ht⟩ := isT9_of h.1
  exact ⟨t, k.toNat, ht, by omega, by omega⟩
theorem kept9 {w w' : World} {b : Nat} {cs : Array Value} {T : TypeId} {row : Option Nat} {o : Obj} (hr : w.heap[b]? = some (.cells cs T (0, 0))) (hne : some b ≠ row) (hg : (w.alloc o).grownBy w' row) : w'.heap[b]? = some (.cells cs T (0, 0)) :=
  (hg.block b (Nat.lt_of_lt_of_le (row_ltI hr) (Nat.le_of_lt (by simp))) hne).trans ((((Below.refl _ w).alloc (Nat.le_refl _) o).block b (row_ltI hr)).trans hr)
theorem One.past {B : Nat} {w w' : World} {b : Nat} {x : Value} {t : TypeId} (h : One w b x t) (hp : Past B w w') (hb : b < B) : One w' b x t := ⟨(hp.block b h.lt hb).trans h.row⟩
theorem AMade.low {w : World} {lo lo' hi : Nat} {A : Option Addr} {l : List (Int × Bool)} (h : AMade w lo hi A l) (h1 : lo' ≤ lo) : AMade w lo' hi A l := by
  refine ⟨?_, h.top⟩
  rcases h.own with hn | ⟨g, cur, e, g1, r⟩
  · exact .inl hn
  · exact .inr ⟨g, cur, e, Nat.le_trans h1 g1, r⟩
set_option maxRecDepth 100000 in
set_option maxHeartbeats 8000000 in
theorem way9_impl (n : Int) (A : Option Addr) (c lo hi : Nat) (ns : List (Int × Int × Int)) (k : Nat) (t : T9) (w : World) (hS : NIns w lo hi A ns) (hT : Tree9 n ns t) (hk : k < ns.length) :
    Calls Try.prog 72 #[.agg #[.slice A ns.length c], .int .i64 (k : Int)] w fun e w' => ∃ B d, e = .returned (.slice B (way9 t 0 k).length d) ∧ AMade w' w.heap.size w'.heap.size B (way9 t 0 k) ∧ Below w.heap.size w w' := by
  have HT := Lib.hid (One.new w (.slice A ns.length c) 33 w.heap.size rfl)
  have HB := Lib.hid ((Below.refl w.heap.size w).alloc (Nat.le_refl _) (.cells #[.slice A ns.length c] 33))
  have HI := Lib.hid (hS.step HB.out)
  obtain ⟨i0, hi0, hz0, hz1, hz2⟩ := info_parts infoAsk9
  have HL := Lib.hid (hT.le127)
  have hk127 : k ≤ 126 := by have := hT.le127; omega
  have htop := hS.top
  have HGo : Hid (∃ (b : T9) (p : Nat) (acc : List (Int × Bool)), p = 0 ∧ acc = [] ∧ Going9 n ns k (way9 t 0 k) b p acc ∧ acc.length + b.depth ≤ 6) := Lib.hid ⟨t, 0, [], rfl, rfl, Going9.start hT hk, by simpa using hT.deep⟩
  have HP := Lib.hid (fun (W : List (Int × Bool)) (b : T9) (p : Nat) (acc : List (Int × Bool)) (h : Going9 n ns k W b p acc) => show p < ns.length from by have h1 := h.lo; omega)
  generalize way9 t 0 k = W at HGo ⊢
  have HO := Lib.hid (A0_any (w.alloc (.cells #[.slice A ns.length c] 33)) (w.heap.size + 1) (by simp))
  rw [show (w.alloc (.cells #[.slice A ns.length c] 33)).heap.size = w.heap.size + 1 by simp] at HO
  have hbe := (Below.refl _ (w.alloc (.cells #[.slice A ns.length c] 33))).alloc (Nat.le_refl _) (.cells #[] 52)
  replace HT := Lib.hid (HT.out.step hbe)
  replace HI := Lib.hid (HI.out.step hbe)
  replace HB := Lib.hid (below_trans HB.out hbe)
  clear hbe hS hT
  go_enter Try.func72, Try.ntmps72
  go_wp2_with fail
  generalize (w.alloc (.cells #[.slice A ns.length c] 33)).alloc (.cells #[] 52) = w0 at HT HI HB HO ⊢
  go_loopw [5, 6] (fun ov i wr => ∃ (b : T9) (p : Nat) (acc : List (Int × Bool)), i = .int .i64 (p : Int) ∧ Hid (Going9 n ns k W b p acc) ∧ acc.length + b.depth ≤ 6 ∧ Hid (wr.ownsRow (w.heap.size + 1) 52 2 ov acc.length (cellsA acc)) ∧ Hid (One wr w.heap.size (.slice A ns.length c) 33) ∧ Hid (NIns wr lo hi A ns) ∧ Hid (Below w.heap.size w wr)) (fun _ i _ => k - (intOf i).toNat)
  case atStart =>
    obtain ⟨b, p, acc, rfl, rfl, hg, hd⟩ := HGo.out
    exact ⟨b, 0, [], rfl, hg, hd, HO, HT, HI, HB⟩
  case round =>
    clear HO HT HI HB HGo
    obtain ⟨b, p, acc, rfl, HG, hd, HO, HT, HI, HB⟩ := hrel
    rename World => wr
    by_cases hpk : p = k
    · subst hpk
      have HD := Lib.hid HG.out.done
      go_wp2
      go_ret
      obtain ⟨Ae, ce, he, hR⟩ := own_resA HO.out rfl
      rw [HD.out] at he hR
      rw [he]
      exact ⟨Ae, ce, rfl, AMade.low hR (Nat.le_succ _), HB.out⟩
    · have hpi : ¬ (p : Int) = (k : Int) := by omega
      obtain ⟨q, y, m, rfl⟩ := HG.out.parts hpk
      have hpn := HP.out _ _ _ _ HG.out
      obtain ⟨bb, oo, hA, hN⟩ := HI.out.at3 hpn
      have hx : ns[p] = (q, ((p + 1 : Nat) : Int), ((p + 1 + y.size : Nat) : Int)) := by
        have h1 := HG.out.at9.head
        rw [List.getElem?_eq_getElem hpn] at h1
        injection h1
      rw [hx] at hN
      have hc0 := hN.c0
      have hc1 := hN.c1
      have hc2 := hN.c2
      have hbl := hN.lt
      subst hA
      simp only at hc0 hc1 hc2
      have hdl := T9.depth_l (q := q) (y := y) (m := m)
      have hdr := T9.depth_r (q := q) (y := y) (m := m)
      have hsz : p + 1 + y.size ≤ 127 := by have h1 := HG.out.at9.no.le; have h2 := HL.out; omega
      have hplt : (p : Int) < (ns.length : Int) := by omega
      have HNE := Lib.hid (fun g (e : some g = Value.ownBlock u5) => ownBlock_lt8 HO.out e)
      have ht0 := HT.out.c0
      clear hx hN
      by_cases hl : k < p + 1 + y.size
      · have HG2 := Lib.hid (HG.out.left hpk hl)
        have hlo2 := HG2.out.lo
        have HDp : Hid ((acc ++ [(q, true)]).length + y.depth ≤ 6) := Lib.hid (by rw [List.length_append]; simp only [List.length_cons, List.length_nil]; omega)
        have hal : acc.length ≤ 6 := by omega
        generalize hP2 : p + 1 + y.size = P2 at hc2 hsz hl
        have hPP := Lib.hid hP2
        clear hP2 hdl hdr hd
        have hli : (k : Int) < (P2 : Int) := by omega
        clear HG
        generalize hP1 : ((p + 1 : Nat) : Int) = P1 at hc1
        have hPQ := Lib.hid hP1
        clear hP1
        go_upto_region 6 with (fail)
        have hb1 := (Below.refl _ wr).alloc (Nat.le_refl _) (.cells #[.int .i64 q, .int .i64 P1, .int .i64 (P2 : Int)] 125)
        have HX := Lib.hid (Three.new wr (.int .i64 q) (.int .i64 P1) (.int .i64 (P2 : Int)) 125 wr.heap.size rfl)
        replace HT := Lib.hid (HT.out.step hb1)
        replace HI := Lib.hid (HI.out.step hb1)
        replace HB := Lib.hid (below_trans HB.out hb1)
        replace HO := Lib.hid (pastA HO.out (Past.of_below hb1))
        have hb2 := (Below.refl _ (wr.alloc (.cells #[.int .i64 q, .int .i64 P1, .int .i64 (P2 : Int)] 125))).alloc (Nat.le_refl _) (.cells #[.int .i64 q, .bool true] 52)
        have HY := Lib.hid (Two.new (wr.alloc (.cells #[.int .i64 q, .int .i64 P1, .int .i64 (P2 : Int)] 125)) (.int .i64 q) (.bool true) 52 (wr.heap.size + 1) (by simp))
        replace HT := Lib.hid (HT.out.step hb2)
        replace HI := Lib.hid (HI.out.step hb2)
        replace HB := Lib.hid (below_trans HB.out hb2)
        replace HO := Lib.hid (pastA HO.out (Past.of_below hb2))
        replace HX := Lib.hid (HX.out.step hb2)
        generalize (wr.alloc (.cells #[.int .i64 q, .int .i64 P1, .int .i64 (P2 : Int)] 125)).alloc (.cells #[.int .i64 q, .bool true] 52) = w2 at HT HI HB HO HX HY ⊢
        clear hb1 hb2 hc0 hc1 hc2 ht0
        have y0 := HY.out.c0
        have y1 := HY.out.c1
        have hws := HB.out.size
        have htw := HT.out.lt
        have hrx := HX.out.lt
        go_wp2_with (at_builtin; refine wpList_append_own _ rfl (.tmp 25) (.tmp 27) 47 rfl (w.heap.size + 1) 52 i0 (.agg #[.int .i64 0, .bool false]) 2 16 Try.underlying47 hi0 hz0 hz1 hz2 rfl (by decide) _ _ _ rfl (HO.out.alloc _) ⟨w2.heap.size, 0, none⟩ 1 1 [.int .i64 q, .bool true] rfl rfl (cell_two_new _ _ _ _) (by simp [Value.oneCell']) (by unfold maxLen; omega) (by omega) (by simp; omega) ?_; intro v' w7 hown' hgrow _; clear y0 y1; have hx := Three.mk (kept9 HX.out.row (fun e => by have := HNE.out _ e; omega) hgrow); have x0 := hx.c0; have x1 := hx.c1; have x2 := hx.c2; have hy := Two.mk (kept9 HY.out.row (fun e => by have := HNE.out _ e; omega) hgrow); have y1 := hy.c1; clear hy; have hp7 := pastGrown8 HO.out hgrow; have HO7 := Lib.hid (askd_snoc6 hown' rfl); have HT7 := Lib.hid (HT.out.past hp7 (Nat.lt_succ_self _)); have HI7 := Lib.hid (HI.out.past hp7 (Nat.le_succ_of_le htop)); have HB7 := Lib.hid (HB.out.trans (hp7.below (Nat.le_succ _) hws)); clear hx hp7 hown' hgrow)
        with_reducible refine (behind9_yes _ _ _ _).mono ?_
        rintro e w8 ⟨rfl, hb⟩
        have HO8 := Lib.hid (pastA HO7.out (Past.of_below hb))
        have HT8 := Lib.hid (HT7.out.step hb)
        have HI8 := Lib.hid (HI7.out.step hb)
        have HB8 := Lib.hid (below_trans HB7.out hb)
        clear hb x0 x1 x2 y1
        go_wp2
        go_roundw
        case rel => exact ⟨y, p + 1, acc ++ [(q, true)], by rw [hPQ.out], HG2, HDp.out, HO8, HT8, HI8, HB8⟩
        case measure => rw [← hPQ.out]; simp [intOf]; omega
      · have HG2 := Lib.hid (HG.out.right hpk hl)
        have hlo2 := HG2.out.lo
        have HDp : Hid ((acc ++ [(q, false)]).length + m.depth ≤ 6) := Lib.hid (by rw [List.length_append]; simp only [List.length_cons, List.length_nil]; omega)
        have hal : acc.length ≤ 6 := by omega
        generalize hP2 : p + 1 + y.size = P2 at hc2 hsz hl hlo2 HG2
        have hPP := Lib.hid hP2
        clear hP2 hdl hdr hd
        have hli : (P2 : Int) ≤ (k : Int) := by omega
        have hli2 : decide ((k : Int) < (P2 : Int)) = false := decide_eq_false (by omega)
        clear HG
        generalize hP1 : ((p + 1 : Nat) : Int) = P1 at hc1
        have hPQ := Lib.hid hP1
        clear hP1
        go_upto_region 6 with (fail)
        have hb1 := (Below.refl _ wr).alloc (Nat.le_refl _) (.cells #[.int .i64 q, .int .i64 P1, .int .i64 (P2 : Int)] 125)
        have HX := Lib.hid (Three.new wr (.int .i64 q) (.int .i64 P1) (.int .i64 (P2 : Int)) 125 wr.heap.size rfl)
        replace HT := Lib.hid (HT.out.step hb1)
        replace HI := Lib.hid (HI.out.step hb1)
        replace HB := Lib.hid (below_trans HB.out hb1)
        replace HO := Lib.hid (pastA HO.out (Past.of_below hb1))
        have hb2 := (Below.refl _ (wr.alloc (.cells #[.int .i64 q, .int .i64 P1, .int .i64 (P2 : Int)] 125))).alloc (Nat.le_refl _) (.cells #[.int .i64 q, .bool false] 52)
        have HY := Lib.hid (Two.new (wr.alloc (.cells #[.int .i64 q, .int .i64 P1, .int .i64 (P2 : Int)] 125)) (.int .i64 q) (.bool false) 52 (wr.heap.size + 1) (by simp))
        replace HT := Lib.hid (HT.out.step hb2)
        replace HI := Lib.hid (HI.out.step hb2)
        replace HB := Lib.hid (below_trans HB.out hb2)
        replace HO := Lib.hid (pastA HO.out (Past.of_below hb2))
        replace HX := Lib.hid (HX.out.step hb2)
        generalize (wr.alloc (.cells #[.int .i64 q, .int .i64 P1, .int .i64 (P2 : Int)] 125)).alloc (.cells #[.int .i64 q, .bool false] 52) = w2 at HT HI HB HO HX HY ⊢
        clear hb1 hb2 hc0 hc1 hc2 ht0
        have y0 := HY.out.c0
        have y1 := HY.out.c1
        have hws := HB.out.size
        have htw := HT.out.lt
        have hrx := HX.out.lt
        go_wp2_with (at_builtin; refine wpList_append_own _ rfl (.tmp 25) (.tmp 27) 47 rfl (w.heap.size + 1) 52 i0 (.agg #[.int .i64 0, .bool false]) 2 16 Try.underlying47 hi0 hz0 hz1 hz2 rfl (by decide) _ _ _ rfl (HO.out.alloc _) ⟨w2.heap.size, 0, none⟩ 1 1 [.int .i64 q, .bool false] rfl rfl (cell_two_new _ _ _ _) (by simp [Value.oneCell']) (by unfold maxLen; omega) (by omega) (by simp; omega) ?_; intro v' w7 hown' hgrow _; clear y0 y1; have hx := Three.mk (kept9 HX.out.row (fun e => by have := HNE.out _ e; omega) hgrow); have x0 := hx.c0; have x1 := hx.c1; have x2 := hx.c2; have hy := Two.mk (kept9 HY.out.row (fun e => by have := HNE.out _ e; omega) hgrow); have y1 := hy.c1; clear hy; have hp7 := pastGrown8 HO.out hgrow; have HO7 := Lib.hid (askd_snoc6 hown' rfl); have HT7 := Lib.hid (HT.out.past hp7 (Nat.lt_succ_self _)); have HI7 := Lib.hid (HI.out.past hp7 (Nat.le_succ_of_le htop)); have HB7 := Lib.hid (HB.out.trans (hp7.below (Nat.le_succ _) hws)); clear hx hp7 hown' hgrow)
        with_reducible refine (behind9_no _ _ _ _).mono ?_
        rintro e w8 ⟨rfl, hb⟩
        have HO8 := Lib.hid (pastA HO7.out (Past.of_below hb))
        have HT8 := Lib.hid (HT7.out.step hb)
        have HI8 := Lib.hid (HI7.out.step hb)
        have HB8 := Lib.hid (below_trans HB7.out hb)
        clear hb x0 x1 x2 y1
        go_wp2
        go_roundw
        case rel => exact ⟨m, P2, acc ++ [(q, false)], rfl, HG2, HDp.out, HO8, HT8, HI8, HB8⟩
        case measure => have h9 := hPP.out; simp [intOf]; omega
set_option maxRecDepth 100000 in
set_option maxHeartbeats 8000000 in
theorem way9_spec (n : Int) (A : Option Addr) (c lo hi : Nat) (ns : List (Int × Int × Int)) (k : Nat) (t : T9) (w : World) (hS : NIns w lo hi A ns) (hT : Tree9 n ns t) (hk : k < ns.length) :
    Calls Try.prog 60 #[.agg #[.slice A ns.length c], .int .i64 (k : Int)] w fun e w' => ∃ B d, e = .returned (.slice B (way9 t 0 k).length d) ∧ AMade w' w.heap.size w'.heap.size B (way9 t 0 k) ∧ Below w.heap.size w w' := by
  have HT := Lib.hid (One.new w (.slice A ns.length c) 33 w.heap.size rfl)
  have HB := Lib.hid ((Below.refl w.heap.size w).alloc (Nat.le_refl _) (.cells #[.slice A ns.length c] 33))
  have HI := Lib.hid (hS.step HB.out)
  obtain ⟨i0, hi0, hz0, hz1, hz2⟩ := info_parts infoAsk9
  have HL := Lib.hid (hT.le127)
  have hk127 : k ≤ 126 := by have := hT.le127; omega
  have htop := hS.top
  have HGo : Hid (∃ (b : T9) (p : Nat) (acc : List (Int × Bool)), p = 0 ∧ acc = [] ∧ Going9 n ns k (way9 t 0 k) b p acc ∧ acc.length + b.depth ≤ 6) := Lib.hid ⟨t, 0, [], rfl, rfl, Going9.start hT hk, by simpa using hT.deep⟩
  have HP := Lib.hid (fun (W : List (Int × Bool)) (b : T9) (p : Nat) (acc : List (Int × Bool)) (h : Going9 n ns k W b p acc) => show p < ns.length from by have h1 := h.lo; omega)
  generalize way9 t 0 k = W at HGo ⊢
  have HO := Lib.hid (A0_any (w.alloc (.cells #[.slice A ns.length c] 33)) (w.heap.size + 1) (by simp))
  rw [show (w.alloc (.cells #[.slice A ns.length c] 33)).heap.size = w.heap.size + 1 by simp] at HO
  have hbe := (Below.refl _ (w.alloc (.cells #[.slice A ns.length c] 33))).alloc (Nat.le_refl _) (.cells #[] 52)
  replace HT := Lib.hid (HT.out.step hbe)
  replace HI := Lib.hid (HI.out.step hbe)
  replace HB := Lib.hid (below_trans HB.out hbe)
  clear hbe hS hT
  go_enter Try.func60, Try.ntmps60
  go_wp2_with fail
  generalize (w.alloc (.cells #[.slice A ns.length c] 33)).alloc (.cells #[] 52) = w0 at HT HI HB HO ⊢
  go_loopw [5, 6] (fun ov i wr => ∃ (b : T9) (p : Nat) (acc : List (Int × Bool)), i = .int .i64 (p : Int) ∧ Hid (Going9 n ns k W b p acc) ∧ acc.length + b.depth ≤ 6 ∧ Hid (wr.ownsRow (w.heap.size + 1) 52 2 ov acc.length (cellsA acc)) ∧ Hid (One wr w.heap.size (.slice A ns.length c) 33) ∧ Hid (NIns wr lo hi A ns) ∧ Hid (Below w.heap.size w wr)) (fun _ i _ => k - (intOf i).toNat)
  case atStart =>
    obtain ⟨b, p, acc, rfl, rfl, hg, hd⟩ := HGo.out
    exact ⟨b, 0, [], rfl, hg, hd, HO, HT, HI, HB⟩
  case round =>
    clear HO HT HI HB HGo
    obtain ⟨b, p, acc, rfl, HG, hd, HO, HT, HI, HB⟩ := hrel
    rename World => wr
    by_cases hpk : p = k
    · subst hpk
      have HD := Lib.hid HG.out.done
      go_wp2
      go_ret
      obtain ⟨Ae, ce, he, hR⟩ := own_resA HO.out rfl
      rw [HD.out] at he hR
      rw [he]
      exact ⟨Ae, ce, rfl, AMade.low hR (Nat.le_succ _), HB.out⟩
    · have hpi : ¬ (p : Int) = (k : Int) := by omega
      obtain ⟨q, y, m, rfl⟩ := HG.out.parts hpk
      have hpn := HP.out _ _ _ _ HG.out
      obtain ⟨bb, oo, hA, hN⟩ := HI.out.at3 hpn
      have hx : ns[p] = (q, ((p + 1 : Nat) : Int), ((p + 1 + y.size : Nat) : Int)) := by
        have h1 := HG.out.at9.head
        rw [List.getElem?_eq_getElem hpn] at h1
        injection h1
      rw [hx] at hN
      have hc0 := hN.c0
      have hc1 := hN.c1
      have hc2 := hN.c2
      have hbl := hN.lt
      subst hA
      simp only at hc0 hc1 hc2
      have hdl := T9.depth_l (q := q) (y := y) (m := m)
      have hdr := T9.depth_r (q := q) (y := y) (m := m)
      have hsz : p + 1 + y.size ≤ 127 := by have h1 := HG.out.at9.no.le; have h2 := HL.out; omega
      have hplt : (p : Int) < (ns.length : Int) := by omega
      have HNE := Lib.hid (fun g (e : some g = Value.ownBlock u5) => ownBlock_lt8 HO.out e)
      have ht0 := HT.out.c0
      clear hx hN
      by_cases hl : k < p + 1 + y.size
      · have HG2 := Lib.hid (HG.out.left hpk hl)
        have hlo2 := HG2.out.lo
        have HDp : Hid ((acc ++ [(q, true)]).length + y.depth ≤ 6) := Lib.hid (by rw [List.length_append]; simp only [List.length_cons, List.length_nil]; omega)
        have hal : acc.length ≤ 6 := by omega
        generalize hP2 : p + 1 + y.size = P2 at hc2 hsz hl
        have hPP := Lib.hid hP2
        clear hP2 hdl hdr hd
        have hli : (k : Int) < (P2 : Int) := by omega
        clear HG
        generalize hP1 : ((p + 1 : Nat) : Int) = P1 at hc1
        have hPQ := Lib.hid hP1
        clear hP1
        go_upto_region 6 with (fail)
        have hb1 := (Below.refl _ wr).alloc (Nat.le_refl _) (.cells #[.int .i64 q, .int .i64 P1, .int .i64 (P2 : Int)] 125)
        have HX := Lib.hid (Three.new wr (.int .i64 q) (.int .i64 P1) (.int .i64 (P2 : Int)) 125 wr.heap.size rfl)
        replace HT := Lib.hid (HT.out.step hb1)
        replace HI := Lib.hid (HI.out.step hb1)
        replace HB := Lib.hid (below_trans HB.out hb1)
        replace HO := Lib.hid (pastA HO.out (Past.of_below hb1))
        generalize wr.alloc (.cells #[.int .i64 q, .int .i64 P1, .int .i64 (P2 : Int)] 125) = w2 at HT HI HB HO HX ⊢
        clear hb1 hc0 hc1 hc2 ht0
        have x0 := HX.out.c0
        have hws := HB.out.size
        have htw := HT.out.lt
        have hrx := HX.out.lt
        go_wp2_with (at_builtin; refine wpList_append_own _ rfl (.tmp 22) (.tmp 27) 47 rfl (w.heap.size + 1) 52 i0 (.agg #[.int .i64 0, .bool false]) 2 16 Try.underlying47 hi0 hz0 hz1 hz2 rfl (by decide) _ _ _ rfl (HO.out.alloc _) ⟨w2.heap.size, 0, none⟩ 1 1 [.int .i64 q, .bool true] rfl rfl (cell_two_new _ _ _ _) (by simp [Value.oneCell']) (by unfold maxLen; omega) (by omega) (by simp; omega) ?_; intro v' w7 hown' hgrow _; clear x0; have hx := Three.mk (kept9 HX.out.row (fun e => by have := HNE.out _ e; omega) hgrow); have x0 := hx.c0; have x1 := hx.c1; have x2 := hx.c2; have hp7 := pastGrown8 HO.out hgrow; have HO7 := Lib.hid (askd_snoc6 hown' rfl); have HT7 := Lib.hid (HT.out.past hp7 (Nat.lt_succ_self _)); have HI7 := Lib.hid (HI.out.past hp7 (Nat.le_succ_of_le htop)); have HB7 := Lib.hid (HB.out.trans (hp7.below (Nat.le_succ _) hws)); clear hx hp7 hown' hgrow)
        go_roundw
        case rel => exact ⟨y, p + 1, acc ++ [(q, true)], by rw [hPQ.out], HG2, HDp.out, HO7, HT7, HI7, HB7⟩
        case measure => rw [← hPQ.out]; simp [intOf]; omega
      · have HG2 := Lib.hid (HG.out.right hpk hl)
        have hlo2 := HG2.out.lo
        have HDp : Hid ((acc ++ [(q, false)]).length + m.depth ≤ 6) := Lib.hid (by rw [List.length_append]; simp only [List.length_cons, List.length_nil]; omega)
        have hal : acc.length ≤ 6 := by omega
        generalize hP2 : p + 1 + y.size = P2 at hc2 hsz hl hlo2 HG2
        have hPP := Lib.hid hP2
        clear hP2 hdl hdr hd
        have hli : (P2 : Int) ≤ (k : Int) := by omega
        have hli2 : decide ((k : Int) < (P2 : Int)) = false := decide_eq_false (by omega)
        clear HG
        generalize hP1 : ((p + 1 : Nat) : Int) = P1 at hc1
        have hPQ := Lib.hid hP1
        clear hP1
        go_upto_region 6 with (fail)
        have hb1 := (Below.refl _ wr).alloc (Nat.le_refl _) (.cells #[.int .i64 q, .int .i64 P1, .int .i64 (P2 : Int)] 125)
        have HX := Lib.hid (Three.new wr (.int .i64 q) (.int .i64 P1) (.int .i64 (P2 : Int)) 125 wr.heap.size rfl)
        replace HT := Lib.hid (HT.out.step hb1)
        replace HI := Lib.hid (HI.out.step hb1)
        replace HB := Lib.hid (below_trans HB.out hb1)
        replace HO := Lib.hid (pastA HO.out (Past.of_below hb1))
        generalize wr.alloc (.cells #[.int .i64 q, .int .i64 P1, .int .i64 (P2 : Int)] 125) = w2 at HT HI HB HO HX ⊢
        clear hb1 hc0 hc1 hc2 ht0
        have x0 := HX.out.c0
        have hws := HB.out.size
        have htw := HT.out.lt
        have hrx := HX.out.lt
        go_wp2_with (at_builtin; refine wpList_append_own _ rfl (.tmp 22) (.tmp 27) 47 rfl (w.heap.size + 1) 52 i0 (.agg #[.int .i64 0, .bool false]) 2 16 Try.underlying47 hi0 hz0 hz1 hz2 rfl (by decide) _ _ _ rfl (HO.out.alloc _) ⟨w2.heap.size, 0, none⟩ 1 1 [.int .i64 q, .bool false] rfl rfl (cell_two_new _ _ _ _) (by simp [Value.oneCell']) (by unfold maxLen; omega) (by omega) (by simp; omega) ?_; intro v' w7 hown' hgrow _; clear x0; have hx := Three.mk (kept9 HX.out.row (fun e => by have := HNE.out _ e; omega) hgrow); have x0 := hx.c0; have x1 := hx.c1; have x2 := hx.c2; have hp7 := pastGrown8 HO.out hgrow; have HO7 := Lib.hid (askd_snoc6 hown' rfl); have HT7 := Lib.hid (HT.out.past hp7 (Nat.lt_succ_self _)); have HI7 := Lib.hid (HI.out.past hp7 (Nat.le_succ_of_le htop)); have HB7 := Lib.hid (HB.out.trans (hp7.below (Nat.le_succ _) hws)); clear hx hp7 hown' hgrow)
        go_roundw
        case rel => exact ⟨m, P2, acc ++ [(q, false)], rfl, HG2, HDp.out, HO7, HT7, HI7, HB7⟩
        case measure => have h9 := hPP.out; simp [intOf]; omega
end Go.Proofs.Ytdkffkgoalgjmac
