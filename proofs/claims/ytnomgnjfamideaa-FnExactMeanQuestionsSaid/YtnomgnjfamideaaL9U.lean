/- Trees of questions: TrueLeaf, of both sides. -/
import Derived.Test.YtnomgnjfamideaaL9W
namespace Go.Proofs.Ytnomgnjfamideaa
open Go.RowKit Go.ChangeShapes Go.WideShapes Go.Maps
set_option linter.unusedVariables false

theorem isNumber9_any (n k : Int) (w : World) :
    Calls Try.prog 76 #[.int .i64 n, .int .i64 k] w fun e w' => e = .returned (.bool (inB n 1 12 && inB k 0 (n - 1))) ∧ w' = w := by
  have HC := Lib.hid (fun W => isSize_any n W)
  cases hn : inB n 1 12 with
  | false =>
    rw [hn] at HC
    clear hn
    rw [Bool.false_and]
    go_enter Try.func76, Try.ntmps76
    go_wp2_with (go_at_call 59; refine (HC.out _).mono ?_; rintro e w1 ⟨rfl, rfl⟩)
    go_ret
    exact ⟨rfl, rfl⟩
  | true =>
    rw [hn] at HC
    clear hn
    rw [Bool.true_and]
    by_cases h1 : 0 ≤ k
    · by_cases h2 : k < n
      · rw [inB_t h1 (show k ≤ n - 1 by omega)]
        go_enter Try.func76, Try.ntmps76
        go_wp2_with (go_at_call 59; refine (HC.out _).mono ?_; rintro e w1 ⟨rfl, rfl⟩)
        go_ret
        first | exact ⟨rfl, rfl⟩ | (rw [decide_eq_true (show k < n by omega)]; exact ⟨rfl, rfl⟩)
      · rw [inB_f2 (show ¬ k ≤ n - 1 by omega)]
        go_enter Try.func76, Try.ntmps76
        go_wp2_with (go_at_call 59; refine (HC.out _).mono ?_; rintro e w1 ⟨rfl, rfl⟩)
        go_ret
        first | exact ⟨rfl, rfl⟩ | (rw [decide_eq_false (show ¬ k < n by omega)]; exact ⟨rfl, rfl⟩)
    · rw [inB_f1 h1]
      go_enter Try.func76, Try.ntmps76
      go_wp2_with (go_at_call 59; refine (HC.out _).mono ?_; rintro e w1 ⟨rfl, rfl⟩)
      go_ret
      exact ⟨rfl, rfl⟩

/-- On the way to the leaf of true answers. -/
structure Down9 (ns : List (Int × Int × Int)) (s : Nat) (R : Nat) (b : T9) (p : Nat) : Prop where
  at9 : At9 ns p b
  leaf : leaf9 s b p = R
theorem Down9.lt {ns : List (Int × Int × Int)} {s R : Nat} {b : T9} {p : Nat} (h : Down9 ns s R b p) : p < ns.length := by
  have h1 := h.at9.le
  have h2 := b.size_pos
  omega
theorem Down9.yes {ns : List (Int × Int × Int)} {s R : Nat} {q : Int} {y m : T9} {p : Nat} (h : Down9 ns s R (.br q y m) p) (hq : inQ q s = true) : Down9 ns s R y (p + 1) := ⟨h.at9.yes, by
  have h1 := h.leaf
  unfold leaf9 at h1
  rwa [if_pos hq] at h1⟩
theorem Down9.no {ns : List (Int × Int × Int)} {s R : Nat} {q : Int} {y m : T9} {p : Nat} (h : Down9 ns s R (.br q y m) p) (hq : inQ q s = false) : Down9 ns s R m (p + 1 + y.size) := ⟨h.at9.no, by
  have h1 := h.leaf
  unfold leaf9 at h1
  rwa [if_neg (by rw [hq]; decide)] at h1⟩
theorem At9.get {ns : List (Int × Int × Int)} {p : Nat} {q : Int} {y m : T9} (h : At9 ns p (.br q y m)) (hp : p < ns.length) : ns[p] = (q, ((p + 1 : Nat) : Int), ((p + 1 + y.size : Nat) : Int)) := by
  have h1 := h.head
  rw [List.getElem?_eq_getElem hp] at h1
  injection h1
theorem At9.getl {ns : List (Int × Int × Int)} {p : Nat} (h : At9 ns p .leaf) (hp : p < ns.length) : ns[p] = lf9 := by
  have h1 := h.leaf
  rw [List.getElem?_eq_getElem hp] at h1
  injection h1
theorem lf_br (q : Int) (p s : Nat) : ndB (q, ((p + 1 : Nat) : Int), (s : Int)) lf9 = false := ndB_f (fun e => by
  have := congrArg (fun x : Int × Int × Int => x.2.1) e
  simp only [lf9] at this
  omega)
set_option maxRecDepth 100000 in
set_option maxHeartbeats 8000000 in
theorem true9_impl (A : Option Addr) (c lo hi : Nat) (ns : List (Int × Int × Int)) (s : Nat) (t : T9) (w : World) (hS : NIns w lo hi A ns) (hA : At9 ns 0 t) (hn : ns.length ≤ 127) (hs : s ≤ 12) :
    Calls Try.prog 77 #[.agg #[.slice A ns.length c], .int .i64 (s : Int)] w fun e w' => e = .returned (.int .i64 ((leaf9 s t 0 : Nat) : Int)) ∧ Below w.heap.size w w' := by
  have HT := Lib.hid (One.new w (.slice A ns.length c) 29 w.heap.size rfl)
  have HB := Lib.hid ((Below.refl w.heap.size w).alloc (Nat.le_refl _) (.cells #[.slice A ns.length c] 29))
  have HI := Lib.hid (hS.step HB.out)
  have HD : Hid (Down9 ns s (leaf9 s t 0) t 0) := Lib.hid ⟨hA, rfl⟩
  generalize leaf9 s t 0 = R at HD ⊢
  have hs0 : (0 : Int) ≤ (s : Int) := by omega
  have HQ := Lib.hid (fun q W => inQuestion_any q s W hs)
  clear hS hA
  go_enter Try.func77, Try.ntmps77
  go_wp2_with fail
  generalize w.alloc (.cells #[.slice A ns.length c] 29) = w0 at HT HB HI ⊢
  go_loopw [5] (fun i wr => ∃ (b : T9) (p : Nat), i = .int .i64 (p : Int) ∧ Hid (Down9 ns s R b p) ∧ Hid (One wr w.heap.size (.slice A ns.length c) 29) ∧ Hid (NIns wr lo hi A ns) ∧ Hid (Below w.heap.size w wr)) (fun i _ => ns.length - (intOf i).toNat)
  case atStart => exact ⟨t, 0, rfl, HD, HT, HI, HB⟩
  case round =>
    clear HD HT HI HB
    obtain ⟨b, p, rfl, HD, HT, HI, HB⟩ := hrel
    rename World => wr
    have hpn := HD.out.lt
    have hpi : (p : Int) < (ns.length : Int) := by omega
    obtain ⟨bb, oo, rfl, hN⟩ := HI.out.at3 hpn
    cases b with
    | leaf =>
      rw [HD.out.at9.getl hpn] at hN
      have HR := Lib.hid HD.out.leaf
      have hc0 := hN.c0
      have hc1 := hN.c1
      have hc2 := hN.c2
      have hbl := hN.lt
      simp only [lf9] at hc0 hc1 hc2
      clear hN HD
      have h0 := HT.out.c0
      have HLf := Lib.hid (fun W => isLeaf_any (-1) (-1) (-1) true W (ndB_t rfl))
      go_wp2_with fail
      with_reducible refine (HLf.out _).mono ?_
      rintro e w2 ⟨rfl, hb⟩
      have HB2 := Lib.hid (below_trans HB.out hb)
      clear hb h0 hc0 hc1 hc2
      go_wp2
      go_ret
      exact ⟨by rw [← HR.out]; rfl, HB2.out⟩
    | br q y m =>
      rw [HD.out.at9.get hpn] at hN
      have hsz : p + 1 + y.size ≤ 127 := by have h1 := HD.out.at9.no.le; omega
      have hys := y.size_pos
      have hc0 := hN.c0
      have hc1 := hN.c1
      have hc2 := hN.c2
      have hbl := hN.lt
      simp only at hc0 hc1 hc2
      clear hN
      have HLf := Lib.hid (fun W => isLeaf_any q ((p + 1 : Nat) : Int) ((p + 1 + y.size : Nat) : Int) false W (lf_br q p _))
      cases hq : inQ q s with
    | true =>
      have HD2 := Lib.hid (HD.out.yes hq)
      generalize hP2 : p + 1 + y.size = P2 at hc2 hsz HLf
      have hPP := Lib.hid hP2
      clear hP2
      generalize hP1 : ((p + 1 : Nat) : Int) = P1 at hc1 HLf
      have hP10 : 0 ≤ P1 := by omega
      have hPQ := Lib.hid hP1
      clear hP1 HD
      have HQ2 := Lib.hid (fun W => HQ.out q W)
      rw [hq] at HQ2
      clear hq
      have h0 := HT.out.c0
      go_wp2_with fail
      with_reducible refine (HLf.out _).mono ?_
      rintro e w2 ⟨rfl, hb⟩
      have hcc := Nd3.mk (x := (q, P1, (P2 : Int))) hc0 hc1 hc2 hbl
      replace hcc := hcc.step hb
      clear hc0 hc1 hc2 hbl
      have hc0 := hcc.c0
      have hc1 := hcc.c1
      have hc2 := hcc.c2
      have hbl := hcc.lt
      simp only at hc0 hc1 hc2
      clear hcc
      replace HT := Lib.hid (HT.out.step hb)
      replace HI := Lib.hid (HI.out.step hb)
      replace HB := Lib.hid (below_trans HB.out hb)
      clear h0
      clear hb
      have h1 := HT.out.c0
      have hb1 := (Below.refl _ w2).alloc (Nat.le_refl _) (.cells #[.int .i64 q, .int .i64 P1, .int .i64 (P2 : Int)] 75)
      have HX := Lib.hid (Three.new w2 (.int .i64 q) (.int .i64 P1) (.int .i64 (P2 : Int)) 75 w2.heap.size rfl)
      replace HT := Lib.hid (HT.out.step hb1)
      replace HI := Lib.hid (HI.out.step hb1)
      replace HB := Lib.hid (below_trans HB.out hb1)
      go_wp2_with fail
      generalize w2.alloc (.cells #[.int .i64 q, .int .i64 P1, .int .i64 (P2 : Int)] 75) = w3 at HT HI HB HX ⊢
      clear hb1 h1 hc0 hc1 hc2 hbl
      go_region_held3 (fun w' => w'.cell? ⟨w2.heap.size, 0, none⟩ = some (.int .i64 q) ∧ w'.cell? ⟨w2.heap.size, 1, none⟩ = some (.int .i64 P1) ∧ w'.cell? ⟨w2.heap.size, 2, none⟩ = some (.int .i64 (P2 : Int)))
        (first
         | exact ⟨(HX.out.step (Below.refl _ w3).drew).c0, (HX.out.step (Below.refl _ w3).drew).c1, (HX.out.step (Below.refl _ w3).drew).c2⟩
         | exact ⟨HX_1.out.c0, HX_1.out.c1, HX_1.out.c2⟩)
        (first
         | (go_at_call 74; (with_reducible refine (behind9_yes _ _ _ w3.drew).mono ?_); rintro e v1 ⟨rfl, hb⟩; have HZ1 := Lib.hid (below_trans (Below.refl _ w3).drew hb); have HX_1 := Lib.hid (HX.out.step HZ1.out); have HT_1 := Lib.hid (HT.out.step HZ1.out); have HI_1 := Lib.hid (HI.out.step HZ1.out); have HB_1 := Lib.hid (below_trans HB.out HZ1.out); clear hb)
         | (go_at_call 106; (with_reducible refine (HQ2.out _).mono ?_); rintro e wX ⟨rfl, hw⟩; have hw := hw.symm; subst hw))
      all_goals
        go_wp2
        go_roundw
        case rel => exact ⟨y, p + 1, by rw [hPQ.out], HD2, HT_1, HI_1, HB_1⟩
        case measure => rw [← hPQ.out]; simp [intOf]; omega
    | false =>
      have HD2 := Lib.hid (HD.out.no hq)
      generalize hP2 : p + 1 + y.size = P2 at hc2 hsz HD2 HLf
      have hPP := Lib.hid hP2
      clear hP2
      generalize hP1 : ((p + 1 : Nat) : Int) = P1 at hc1 HLf
      have hP10 : 0 ≤ P1 := by omega
      have hPQ := Lib.hid hP1
      clear hP1 HD
      have HQ2 := Lib.hid (fun W => HQ.out q W)
      rw [hq] at HQ2
      clear hq
      have h0 := HT.out.c0
      go_wp2_with fail
      with_reducible refine (HLf.out _).mono ?_
      rintro e w2 ⟨rfl, hb⟩
      have hcc := Nd3.mk (x := (q, P1, (P2 : Int))) hc0 hc1 hc2 hbl
      replace hcc := hcc.step hb
      clear hc0 hc1 hc2 hbl
      have hc0 := hcc.c0
      have hc1 := hcc.c1
      have hc2 := hcc.c2
      have hbl := hcc.lt
      simp only at hc0 hc1 hc2
      clear hcc
      replace HT := Lib.hid (HT.out.step hb)
      replace HI := Lib.hid (HI.out.step hb)
      replace HB := Lib.hid (below_trans HB.out hb)
      clear h0
      clear hb
      have h1 := HT.out.c0
      have hb1 := (Below.refl _ w2).alloc (Nat.le_refl _) (.cells #[.int .i64 q, .int .i64 P1, .int .i64 (P2 : Int)] 75)
      have HX := Lib.hid (Three.new w2 (.int .i64 q) (.int .i64 P1) (.int .i64 (P2 : Int)) 75 w2.heap.size rfl)
      replace HT := Lib.hid (HT.out.step hb1)
      replace HI := Lib.hid (HI.out.step hb1)
      replace HB := Lib.hid (below_trans HB.out hb1)
      go_wp2_with fail
      generalize w2.alloc (.cells #[.int .i64 q, .int .i64 P1, .int .i64 (P2 : Int)] 75) = w3 at HT HI HB HX ⊢
      clear hb1 h1 hc0 hc1 hc2 hbl
      go_region_held3 (fun w' => w'.cell? ⟨w2.heap.size, 0, none⟩ = some (.int .i64 q) ∧ w'.cell? ⟨w2.heap.size, 1, none⟩ = some (.int .i64 P1) ∧ w'.cell? ⟨w2.heap.size, 2, none⟩ = some (.int .i64 (P2 : Int)))
        (first
         | exact ⟨(HX.out.step (Below.refl _ w3).drew).c0, (HX.out.step (Below.refl _ w3).drew).c1, (HX.out.step (Below.refl _ w3).drew).c2⟩
         | exact ⟨HX_1.out.c0, HX_1.out.c1, HX_1.out.c2⟩)
        (first
         | (go_at_call 74; (with_reducible refine (behind9_no _ _ _ w3.drew).mono ?_); rintro e v1 ⟨rfl, hb⟩; have HZ1 := Lib.hid (below_trans (Below.refl _ w3).drew hb); have HX_1 := Lib.hid (HX.out.step HZ1.out); have HT_1 := Lib.hid (HT.out.step HZ1.out); have HI_1 := Lib.hid (HI.out.step HZ1.out); have HB_1 := Lib.hid (below_trans HB.out HZ1.out); clear hb)
         | (go_at_call 106; (with_reducible refine (HQ2.out _).mono ?_); rintro e wX ⟨rfl, hw⟩; have hw := hw.symm; subst hw))
      all_goals
        go_wp2
        go_roundw
        case rel => exact ⟨m, P2, rfl, HD2, HT_1, HI_1, HB_1⟩
        case measure => have h9 := hPP.out; simp [intOf]; omega
set_option maxRecDepth 100000 in
set_option maxHeartbeats 8000000 in
theorem true9_spec (A : Option Addr) (c lo hi : Nat) (ns : List (Int × Int × Int)) (s : Nat) (t : T9) (w : World) (hS : NIns w lo hi A ns) (hA : At9 ns 0 t) (hn : ns.length ≤ 127) (hs : s ≤ 12) :
    Calls Try.prog 75 #[.agg #[.slice A ns.length c], .int .i64 (s : Int)] w fun e w' => e = .returned (.int .i64 ((leaf9 s t 0 : Nat) : Int)) ∧ Below w.heap.size w w' := by
  have HT := Lib.hid (One.new w (.slice A ns.length c) 29 w.heap.size rfl)
  have HB := Lib.hid ((Below.refl w.heap.size w).alloc (Nat.le_refl _) (.cells #[.slice A ns.length c] 29))
  have HI := Lib.hid (hS.step HB.out)
  have HD : Hid (Down9 ns s (leaf9 s t 0) t 0) := Lib.hid ⟨hA, rfl⟩
  generalize leaf9 s t 0 = R at HD ⊢
  have hs0 : (0 : Int) ≤ (s : Int) := by omega
  clear hS hA
  go_enter Try.func75, Try.ntmps75
  go_wp2_with fail
  generalize w.alloc (.cells #[.slice A ns.length c] 29) = w0 at HT HB HI ⊢
  go_loopw [5] (fun i wr => ∃ (b : T9) (p : Nat), i = .int .i64 (p : Int) ∧ Hid (Down9 ns s R b p) ∧ Hid (One wr w.heap.size (.slice A ns.length c) 29) ∧ Hid (NIns wr lo hi A ns) ∧ Hid (Below w.heap.size w wr)) (fun i _ => ns.length - (intOf i).toNat)
  case atStart => exact ⟨t, 0, rfl, HD, HT, HI, HB⟩
  case round =>
    clear HD HT HI HB
    obtain ⟨b, p, rfl, HD, HT, HI, HB⟩ := hrel
    rename World => wr
    have hpn := HD.out.lt
    have hpi : (p : Int) < (ns.length : Int) := by omega
    obtain ⟨bb, oo, rfl, hN⟩ := HI.out.at3 hpn
    cases b with
    | leaf =>
      rw [HD.out.at9.getl hpn] at hN
      have HR := Lib.hid HD.out.leaf
      have hc0 := hN.c0
      have hc1 := hN.c1
      have hc2 := hN.c2
      have hbl := hN.lt
      simp only [lf9] at hc0 hc1 hc2
      clear hN HD
      have h0 := HT.out.c0
      go_wp2
      go_ret
      exact ⟨by rw [← HR.out]; rfl, HB.out⟩
    | br q y m =>
      rw [HD.out.at9.get hpn] at hN
      have hsz : p + 1 + y.size ≤ 127 := by have h1 := HD.out.at9.no.le; omega
      have hys := y.size_pos
      have hc0 := hN.c0
      have hc1 := hN.c1
      have hc2 := hN.c2
      have hbl := hN.lt
      simp only at hc0 hc1 hc2
      clear hN
      cases hq : inQ q s with
    | true =>
      have HD2 := Lib.hid (HD.out.yes hq)
      generalize hP2 : p + 1 + y.size = P2 at hc2 hsz
      have hPP := Lib.hid hP2
      clear hP2
      generalize hP1 : ((p + 1 : Nat) : Int) = P1 at hc1
      have hP10 : 0 ≤ P1 := by omega
      have hPQ := Lib.hid hP1
      clear hP1 HD
      have hqb : (bits .and .i64 (q / 2 ^ s) 1 == 1) = true := hq
      clear hq
      have h0 := HT.out.c0
      go_wp2
      go_roundw
      case rel => exact ⟨y, p + 1, by rw [hPQ.out], HD2, HT, HI, HB⟩
      case measure => rw [← hPQ.out]; simp [intOf]; omega
    | false =>
      have HD2 := Lib.hid (HD.out.no hq)
      generalize hP2 : p + 1 + y.size = P2 at hc2 hsz HD2
      have hPP := Lib.hid hP2
      clear hP2
      generalize hP1 : ((p + 1 : Nat) : Int) = P1 at hc1
      have hP10 : 0 ≤ P1 := by omega
      have hPQ := Lib.hid hP1
      clear hP1 HD
      have hqb : (bits .and .i64 (q / 2 ^ s) 1 == 1) = false := hq
      clear hq
      have h0 := HT.out.c0
      go_wp2
      go_roundw
      case rel => exact ⟨m, P2, rfl, HD2, HT, HI, HB⟩
      case measure => have h9 := hPP.out; simp [intOf]; omega
set_option maxRecDepth 100000 in
set_option maxHeartbeats 8000000 in
theorem trueLeaf_impl_no1 (n : Int) (A : Option Addr) (c lo hi : Nat) (ns : List (Int × Int × Int)) (s : Int) (w : World) (hS : NIns w lo hi A ns) (hn : ns.length ≤ 1048576) (hno : isT9 n ns = false) :
    Calls Try.prog 43 #[.int .i64 n, .agg #[.slice A ns.length c], .int .i64 s] w fun e w' => e = .returned (.tuple #[.int .i64 0, .bool false]) ∧ Below w.heap.size w w' := by
  have HT := Lib.hid (One.new w (.slice A ns.length c) 29 w.heap.size rfl)
  have HB := Lib.hid ((Below.refl w.heap.size w).alloc (Nat.le_refl _) (.cells #[.slice A ns.length c] 29))
  have HI := Lib.hid (hS.step HB.out)
  have HC := Lib.hid (fun W h => isTree_impl n A c lo hi ns W h hn)
  rw [hno] at HC
  clear hS hno
  go_enter Try.func43, Try.ntmps43
  go_wp2_with fail
  generalize w.alloc (.cells #[.slice A ns.length c] 29) = w0 at HB HT HI ⊢
  have h0 := HT.out.c0
  with_reducible refine (HC.out _ HI.out).mono ?_
  rintro e w1 ⟨rfl, hb⟩
  replace HB := Lib.hid (below_trans HB.out hb)
  replace HT := Lib.hid (HT.out.step hb)
  replace HI := Lib.hid (HI.out.step hb)
  replace h0 := HT.out.c0
  clear hb
  clear h0
  go_wp2
  go_ret2
  exact ⟨rfl, HB.out⟩
set_option maxRecDepth 100000 in
set_option maxHeartbeats 8000000 in
theorem trueLeaf_impl_no2 (n : Int) (A : Option Addr) (c lo hi : Nat) (ns : List (Int × Int × Int)) (s : Int) (w : World) (hS : NIns w lo hi A ns) (hn : ns.length ≤ 1048576) (t : T9) (hT : Tree9 n ns t) (hyes : isT9 n ns = true) (hsb : inB s 0 (n - 1) = false) :
    Calls Try.prog 43 #[.int .i64 n, .agg #[.slice A ns.length c], .int .i64 s] w fun e w' => e = .returned (.tuple #[.int .i64 0, .bool false]) ∧ Below w.heap.size w w' := by
  have HT := Lib.hid (One.new w (.slice A ns.length c) 29 w.heap.size rfl)
  have HB := Lib.hid ((Below.refl w.heap.size w).alloc (Nat.le_refl _) (.cells #[.slice A ns.length c] 29))
  have HI := Lib.hid (hS.step HB.out)
  have HC := Lib.hid (fun W h => isTree_impl n A c lo hi ns W h hn)
  rw [hyes] at HC
  have hn12 := hT.n12
  have HM := Lib.hid (fun W => isNumber9_any n s W)
  rw [inB_iff.2 (show 1 ≤ n ∧ n ≤ 12 from hn12), Bool.true_and] at HM
  rw [hsb] at HM
  clear hS hyes hT hsb
  go_enter Try.func43, Try.ntmps43
  go_wp2_with fail
  generalize w.alloc (.cells #[.slice A ns.length c] 29) = w0 at HB HT HI ⊢
  have h0 := HT.out.c0
  with_reducible refine (HC.out _ HI.out).mono ?_
  rintro e w1 ⟨rfl, hb⟩
  replace HB := Lib.hid (below_trans HB.out hb)
  replace HT := Lib.hid (HT.out.step hb)
  replace HI := Lib.hid (HI.out.step hb)
  replace h0 := HT.out.c0
  clear hb
  clear h0
  go_wp2_with (go_at_call 76; (with_reducible refine (HM.out _).mono ?_); rintro e wX ⟨rfl, hw⟩; have hw := hw.symm; subst hw)
  go_ret2
  exact ⟨rfl, HB.out⟩
set_option maxRecDepth 100000 in
set_option maxHeartbeats 8000000 in
theorem trueLeaf_impl (n : Int) (A : Option Addr) (c lo hi : Nat) (ns : List (Int × Int × Int)) (s : Nat) (t : T9) (w : World) (hS : NIns w lo hi A ns) (hn : ns.length ≤ 1048576) (hT : Tree9 n ns t) (hsn : (s : Int) < n) :
    Calls Try.prog 43 #[.int .i64 n, .agg #[.slice A ns.length c], .int .i64 (s : Int)] w fun e w' => e = .returned (.tuple #[.int .i64 ((leaf9 s t 0 : Nat) : Int), .bool true]) ∧ Below w.heap.size w w' := by
  have HT := Lib.hid (One.new w (.slice A ns.length c) 29 w.heap.size rfl)
  have HB := Lib.hid ((Below.refl w.heap.size w).alloc (Nat.le_refl _) (.cells #[.slice A ns.length c] 29))
  have HI := Lib.hid (hS.step HB.out)
  have HC := Lib.hid (fun W h => isTree_impl n A c lo hi ns W h hn)
  rw [isT9_mk hT] at HC
  have hn12 := hT.n12
  have HM := Lib.hid (fun W => isNumber9_any n (s : Int) W)
  rw [inB_iff.2 (show 1 ≤ n ∧ n ≤ 12 from hn12), Bool.true_and] at HM
  rw [inB_t (show (0 : Int) ≤ (s : Int) by omega) (show (s : Int) ≤ n - 1 by omega)] at HM
  have HW := Lib.hid (fun W h => true9_impl A c lo hi ns s t W h hT.at0 (hT.le127).2 (by omega))
  clear hS hT
  go_enter Try.func43, Try.ntmps43
  go_wp2_with fail
  generalize w.alloc (.cells #[.slice A ns.length c] 29) = w0 at HB HT HI ⊢
  have h0 := HT.out.c0
  with_reducible refine (HC.out _ HI.out).mono ?_
  rintro e w1 ⟨rfl, hb⟩
  replace HB := Lib.hid (below_trans HB.out hb)
  replace HT := Lib.hid (HT.out.step hb)
  replace HI := Lib.hid (HI.out.step hb)
  replace h0 := HT.out.c0
  clear hb
  go_wp2_with (go_at_call 76; (with_reducible refine (HM.out _).mono ?_); rintro e wX ⟨rfl, hw⟩; have hw := hw.symm; subst hw)
  with_reducible refine (HW.out w1 HI.out).mono ?_
  rintro e w2 ⟨rfl, hb⟩
  replace HB := Lib.hid (below_trans HB.out hb)
  replace HT := Lib.hid (HT.out.step hb)
  replace HI := Lib.hid (HI.out.step hb)
  replace h0 := HT.out.c0
  clear hb
  clear h0
  go_wp2
  go_ret2
  exact ⟨rfl, HB.out⟩
set_option maxRecDepth 100000 in
set_option maxHeartbeats 8000000 in
theorem trueLeaf_spec_no1 (n : Int) (A : Option Addr) (c lo hi : Nat) (ns : List (Int × Int × Int)) (s : Int) (w : World) (hS : NIns w lo hi A ns) (hn : ns.length ≤ 1048576) (hno : isT9 n ns = false) :
    Calls Try.prog 42 #[.int .i64 n, .agg #[.slice A ns.length c], .int .i64 s] w fun e w' => e = .returned (.tuple #[.int .i64 0, .bool false]) ∧ Below w.heap.size w w' := by
  have HT := Lib.hid (One.new w (.slice A ns.length c) 29 w.heap.size rfl)
  have HB := Lib.hid ((Below.refl w.heap.size w).alloc (Nat.le_refl _) (.cells #[.slice A ns.length c] 29))
  have HI := Lib.hid (hS.step HB.out)
  have HC := Lib.hid (fun W h => l9Tree_any n A c lo hi ns W h hn)
  rw [hno] at HC
  clear hS hno
  go_enter Try.func42, Try.ntmps42
  go_wp2_with fail
  generalize w.alloc (.cells #[.slice A ns.length c] 29) = w0 at HB HT HI ⊢
  have h0 := HT.out.c0
  with_reducible refine (HC.out _ HI.out).mono ?_
  rintro e w1 ⟨rfl, hb⟩
  replace HB := Lib.hid (below_trans HB.out hb)
  replace HT := Lib.hid (HT.out.step hb)
  replace HI := Lib.hid (HI.out.step hb)
  replace h0 := HT.out.c0
  clear hb
  clear h0
  go_wp2
  go_ret2
  exact ⟨rfl, HB.out⟩
set_option maxRecDepth 100000 in
set_option maxHeartbeats 8000000 in
theorem trueLeaf_spec_no2 (n : Int) (A : Option Addr) (c lo hi : Nat) (ns : List (Int × Int × Int)) (s : Int) (w : World) (hS : NIns w lo hi A ns) (hn : ns.length ≤ 1048576) (t : T9) (hT : Tree9 n ns t) (hyes : isT9 n ns = true) (hsb : inB s 0 (n - 1) = false) :
    Calls Try.prog 42 #[.int .i64 n, .agg #[.slice A ns.length c], .int .i64 s] w fun e w' => e = .returned (.tuple #[.int .i64 0, .bool false]) ∧ Below w.heap.size w w' := by
  have HT := Lib.hid (One.new w (.slice A ns.length c) 29 w.heap.size rfl)
  have HB := Lib.hid ((Below.refl w.heap.size w).alloc (Nat.le_refl _) (.cells #[.slice A ns.length c] 29))
  have HI := Lib.hid (hS.step HB.out)
  have HC := Lib.hid (fun W h => l9Tree_any n A c lo hi ns W h hn)
  rw [hyes] at HC
  have hn12 := hT.n12
  have HM := Lib.hid (fun W => l1In_any s 0 (n - 1) W)
  rw [hsb] at HM
  clear hS hyes hT hsb
  go_enter Try.func42, Try.ntmps42
  go_wp2_with fail
  generalize w.alloc (.cells #[.slice A ns.length c] 29) = w0 at HB HT HI ⊢
  have h0 := HT.out.c0
  with_reducible refine (HC.out _ HI.out).mono ?_
  rintro e w1 ⟨rfl, hb⟩
  replace HB := Lib.hid (below_trans HB.out hb)
  replace HT := Lib.hid (HT.out.step hb)
  replace HI := Lib.hid (HI.out.step hb)
  replace h0 := HT.out.c0
  clear hb
  clear h0
  go_wp2_with (go_at_call 71; (with_reducible refine (HM.out _).mono ?_); rintro e wX ⟨rfl, hw⟩; have hw := hw.symm; subst hw)
  go_ret2
  exact ⟨rfl, HB.out⟩
set_option maxRecDepth 100000 in
set_option maxHeartbeats 8000000 in
theorem trueLeaf_spec (n : Int) (A : Option Addr) (c lo hi : Nat) (ns : List (Int × Int × Int)) (s : Nat) (t : T9) (w : World) (hS : NIns w lo hi A ns) (hn : ns.length ≤ 1048576) (hT : Tree9 n ns t) (hsn : (s : Int) < n) :
    Calls Try.prog 42 #[.int .i64 n, .agg #[.slice A ns.length c], .int .i64 (s : Int)] w fun e w' => e = .returned (.tuple #[.int .i64 ((leaf9 s t 0 : Nat) : Int), .bool true]) ∧ Below w.heap.size w w' := by
  have HT := Lib.hid (One.new w (.slice A ns.length c) 29 w.heap.size rfl)
  have HB := Lib.hid ((Below.refl w.heap.size w).alloc (Nat.le_refl _) (.cells #[.slice A ns.length c] 29))
  have HI := Lib.hid (hS.step HB.out)
  have HC := Lib.hid (fun W h => l9Tree_any n A c lo hi ns W h hn)
  rw [isT9_mk hT] at HC
  have hn12 := hT.n12
  have HM := Lib.hid (fun W => l1In_any (s : Int) 0 (n - 1) W)
  rw [inB_t (show (0 : Int) ≤ (s : Int) by omega) (show (s : Int) ≤ n - 1 by omega)] at HM
  have HW := Lib.hid (fun W h => true9_spec A c lo hi ns s t W h hT.at0 (hT.le127).2 (by omega))
  clear hS hT
  go_enter Try.func42, Try.ntmps42
  go_wp2_with fail
  generalize w.alloc (.cells #[.slice A ns.length c] 29) = w0 at HB HT HI ⊢
  have h0 := HT.out.c0
  with_reducible refine (HC.out _ HI.out).mono ?_
  rintro e w1 ⟨rfl, hb⟩
  replace HB := Lib.hid (below_trans HB.out hb)
  replace HT := Lib.hid (HT.out.step hb)
  replace HI := Lib.hid (HI.out.step hb)
  replace h0 := HT.out.c0
  clear hb
  go_wp2_with (go_at_call 71; (with_reducible refine (HM.out _).mono ?_); rintro e wX ⟨rfl, hw⟩; have hw := hw.symm; subst hw)
  with_reducible refine (HW.out w1 HI.out).mono ?_
  rintro e w2 ⟨rfl, hb⟩
  replace HB := Lib.hid (below_trans HB.out hb)
  replace HT := Lib.hid (HT.out.step hb)
  replace HI := Lib.hid (HI.out.step hb)
  replace h0 := HT.out.c0
  clear hb
  clear h0
  go_wp2
  go_ret2
  exact ⟨rfl, HB.out⟩
theorem trueLeaf_both (n : Int) (ns : List (Int × Int × Int)) (h : ns.length ≤ 1048576) (s : Int) : ∃ (r0 : Int) (r1 : Bool),
    (∀ (w : World) (B : Option Addr) (c lo hi : Nat), NIns w lo hi B ns → Calls Try.prog 43 #[.int .i64 n, .agg #[.slice B ns.length c], .int .i64 s] w fun e w' => e = .returned (.tuple #[.int .i64 r0, .bool r1]) ∧ Below w.heap.size w w') ∧
    (∀ (w : World) (B : Option Addr) (c lo hi : Nat), NIns w lo hi B ns → Calls Try.prog 42 #[.int .i64 n, .agg #[.slice B ns.length c], .int .i64 s] w fun e w' => e = .returned (.tuple #[.int .i64 r0, .bool r1]) ∧ Below w.heap.size w w') := by
  cases hno : isT9 n ns with
  | false => exact ⟨0, false, fun w B c lo hi hS => trueLeaf_impl_no1 n B c lo hi ns s w hS h hno, fun w B c lo hi hS => trueLeaf_spec_no1 n B c lo hi ns s w hS h hno⟩
  | true =>
    obtain ⟨t, hT⟩ := isT9_of hno
    cases hsb : inB s 0 (n - 1) with
    | false => exact ⟨0, false, fun w B c lo hi hS => trueLeaf_impl_no2 n B c lo hi ns s w hS h t hT hno hsb, fun w B c lo hi hS => trueLeaf_spec_no2 n B c lo hi ns s w hS h t hT hno hsb⟩
    | true =>
      have hb := inB_iff.1 hsb
      obtain ⟨k, rfl⟩ : ∃ k : Nat, s = (k : Int) := ⟨s.toNat, by omega⟩
      exact ⟨((leaf9 k t 0 : Nat) : Int), true, fun w B c lo hi hS => trueLeaf_impl n B c lo hi ns k t w hS h hT (by omega), fun w B c lo hi hS => trueLeaf_spec n B c lo hi ns k t w hS h hT (by omega)⟩
end Go.Proofs.Ytnomgnjfamideaa
