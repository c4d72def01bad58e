/- Trees of questions: which lists of nodes are trees, of both sides. -/
import Derived.Test.YtdkffkgoalgjmacL9B
import Derived.Test.YtdkffkgoalgjmacL9E
namespace Go.Proofs.Ytdkffkgoalgjmac
open Go.RowKit Go.ChangeShapes Go.WideShapes
set_option linter.unusedVariables false

set_option maxRecDepth 100000 in
set_option maxHeartbeats 8000000 in
theorem treeOf_any (t : T9) (v : Option Addr) (w : World) (hi : Nat) (hB : BrI w hi t v) (hs : t.size ≤ 127) :
    Calls Try.prog 167 #[.pointer v] w fun e w' => ∃ A c, e = .returned (.agg #[.slice A (tell9 t 0).length c]) ∧ NMade w' w.heap.size w'.heap.size A (tell9 t 0) ∧ Below w.heap.size w w' := by
  have hsf : ∀ (a : Addr) (fn : Fn) (x y : Array Value) (w : World) (u : Value), w.cell? a = some u → w.frozen? a = false → (store a (.func fn x y)).run Try.prog w = .ok () (w.setCell a (.func fn x y)) := fun a fn x y w u h1 h2 => by
    rw [run_store _ _ _ _ _ rfl, h1]
    simp [h2]
  have hmf : ∀ (fn : Fn) (first cap : Array Value) (w : World), (Instr.makeFunc fn first cap).run Try.prog w = .ok (.func fn first cap) w := fun _ _ _ _ => rfl
  -- the blocks that are laid ahead of the telling
  have b1 := (Below.refl w.heap.size w).alloc (Nat.le_refl _) (.cells #[.slice none 0 0] 33)
  have hR0 := One.new w (.slice none 0 0) 33 w.heap.size rfl
  generalize hw1 : w.alloc (.cells #[.slice none 0 0] 33) = w1 at b1 hR0
  have hz1 : w1.heap.size = w.heap.size + 1 := by rw [← hw1]; simp
  have b2 := (Below.refl w1.heap.size w1).alloc (Nat.le_refl _) (.cells #[] 125)
  have hrow := N0_any w1 (w.heap.size + 1) (by omega)
  generalize hw2 : w1.alloc (.cells #[] 125) = w2 at b2 hrow
  have hz2 : w2.heap.size = w.heap.size + 2 := by rw [← hw2]; simp; omega
  have b3 := (Below.refl w2.heap.size w2).alloc (Nat.le_refl _) (.cells #[.slice (some ⟨w1.heap.size, 0, none⟩) 0 0] 31)
  have hvar := One.new w2 (.slice (some ⟨w1.heap.size, 0, none⟩) 0 0) 31 (w.heap.size + 2) (by omega)
  generalize hw3 : w2.alloc (.cells #[.slice (some ⟨w1.heap.size, 0, none⟩) 0 0] 31) = w3 at b3 hvar
  have hz3 : w3.heap.size = w.heap.size + 3 := by rw [← hw3]; simp; omega
  have b4 := (Below.refl w3.heap.size w3).alloc (Nat.le_refl _) (.cells #[.func (.func 169) #[] #[.pointer (some ⟨w.heap.size + 2, 0, none⟩), .pointer (some ⟨w.heap.size + 3, 0, none⟩)]] 164)
  have hfn := One.new w3 (.func (.func 169) #[] #[.pointer (some ⟨w.heap.size + 2, 0, none⟩), .pointer (some ⟨w.heap.size + 3, 0, none⟩)]) 164 (w.heap.size + 3) (by omega)
  generalize hw4 : w3.alloc (.cells #[.func (.func 169) #[] #[.pointer (some ⟨w.heap.size + 2, 0, none⟩), .pointer (some ⟨w.heap.size + 3, 0, none⟩)]] 164) = w4 at b4 hfn
  have hz4 : w4.heap.size = w.heap.size + 4 := by rw [← hw4]; simp; omega
  have hbig := below_trans (below_trans (below_trans b1 b2) b3) b4
  have HBR := Lib.hid (hB.step hbig)
  have HB := Lib.hid hbig
  have HR := Lib.hid (((hR0.step b2).step b3).step b4)
  have HT : Hid (Telling w4 (w.heap.size + 1) (w.heap.size + 2) (w.heap.size + 3) (.slice (some ⟨w1.heap.size, 0, none⟩) 0 0) []) := Lib.hid ⟨hvar.step b4, past8 (past8 hrow (Past.of_below b3)) (Past.of_below b4), hfn, by omega, by omega, by omega⟩
  have hh := hB.top
  have HC := Lib.hid (tell9_any t v w4 (w.heap.size + 1) (w.heap.size + 2) (w.heap.size + 3) hi _ [] HT.out HBR.out (by omega) (by simpa using hs))
  have HF := Lib.hid hfn
  have HW4 : Hid ((((w.alloc (.cells #[.slice none 0 0] 33)).alloc (.cells #[] 125)).alloc (.cells #[.slice (some ⟨w.heap.size + 1, 0, none⟩) 0 0] 31)).alloc (.cells #[.func (.func 169) #[] #[.pointer (some ⟨w.heap.size + 2, 0, none⟩), .pointer (some ⟨w.heap.size + 3, 0, none⟩)]] 164) = w4) := Lib.hid (by rw [hw1, hw2, ← hz1, hw3, hw4])
  clear hB b1 hR0 b2 hrow b3 hvar b4 hfn hbig hw1 hw2 hw3 hw4 hz1 hz2 hz3
  clear HT HBR
  go_enter Try.func167, Try.ntmps167
  go_wp2_with fail
  rw [HW4.out]
  have h3 := HF.out.c0
  go_wp2_with fail
  refine HC.out.mono ?_
  rintro e w5 ⟨V', rfl, ht, hp⟩
  obtain ⟨A, cA, hV, hM⟩ := own_resN ht.row rfl
  subst hV
  have hvar := ht.var
  have hvc := hvar.c0
  have hR5 : One w5 w.heap.size (.slice none 0 0) 33 := ⟨(hp.block w.heap.size HR.out.lt (by omega)).trans HR.out.row⟩
  have HB5 := Lib.hid (HB.out.trans (hp.below (C := w.heap.size) (by omega) HB.out.size))
  obtain ⟨hs5, hw5⟩ := stored1 hR5 (.slice A (tell9 t 0).length cA)
  have h5c := hR5.c0
  have h5f := hR5.f0
  have e0 := hs5.c0
  have HM := Lib.hid (hM.within hw5 (.inr (by omega)))
  have HB6 := Lib.hid (HB5.out.trans (hw5.below (Nat.le_refl _) HB5.out.size))
  have hlen : ([] ++ tell9 t 0).length = (tell9 t 0).length := by simp
  clear hp ht hvar hR5 hs5 hw5 hM h3
  go_wp2
  refine bodyPost_ret (v := .agg #[.slice A (tell9 t 0).length cA]) (by simp [results, go_sem, e0]) rfl ?_
  exact ⟨A, cA, rfl, HM.out.wide (by omega) HM.out.top (Nat.le_refl _), HB6.out⟩

set_option maxRecDepth 100000 in
set_option maxHeartbeats 8000000 in
theorem treeFrom_any (n : Int) (A : Option Addr) (c lo hi : Nat) (ns : List (Int × Int × Int)) (place : Int) (w : World) (hS : NIns w lo hi A ns) (hn : ns.length ≤ 1048576) :
    Calls Try.prog 156 #[.int .i64 n, .slice A ns.length c, .int .i64 place] w fun e w' => ∃ B d, e = .returned (.agg #[.slice B (tell9 (read9 n ns 6 place) 0).length d]) ∧ NMade w' w.heap.size w'.heap.size B (tell9 (read9 n ns 6 place) 0) ∧ Below w.heap.size w w' := by
  have HR := Lib.hid (One.new w (.slice none 0 0) 33 w.heap.size rfl)
  have HB := Lib.hid ((Below.refl w.heap.size w).alloc (Nat.le_refl _) (.cells #[.slice none 0 0] 33))
  have HI := Lib.hid (hS.step HB.out)
  have HC := Lib.hid (fun W h => branchAt_any n A c lo hi ns hn 6 place W (Nat.le_refl _) h)
  rw [show ((6 : Nat) : Int) = 6 from rfl] at HC
  have HD := Lib.hid (fun W hi v h => treeOf_any (read9 n ns 6 place) v W hi h (T9.size_127 (read9_depth n ns 6 place)))
  clear hS
  generalize read9 n ns 6 place = t at HC HD ⊢
  go_enter Try.func156, Try.ntmps156
  go_wp2_with fail
  generalize w.alloc (.cells #[.slice none 0 0] 33) = w0 at HR HB HI ⊢
  with_reducible refine (HC.out _ HI.out).mono ?_
  rintro e w1 ⟨v, rfl, hv, hb⟩
  replace HR := Lib.hid (HR.out.step hb)
  replace HB := Lib.hid (below_trans HB.out hb)
  have HV := Lib.hid hv
  have hlt := HR.out.lt
  clear hv hb HC HI
  go_wp2_with fail
  with_reducible refine (HD.out _ _ _ HV.out).mono ?_
  rintro e w2 ⟨B, d, rfl, hm, hb⟩
  replace HR := Lib.hid (HR.out.step hb)
  replace HB := Lib.hid (below_trans HB.out hb)
  obtain ⟨hs5, hw5⟩ := stored1 HR.out (.slice B (tell9 t 0).length d)
  have h5c := HR.out.c0
  have h5f := HR.out.f0
  have e0 := hs5.c0
  have HM := Lib.hid (hm.within hw5 (.inr (by omega)))
  have HB6 := Lib.hid (HB.out.trans (hw5.below (Nat.le_refl _) HB.out.size))
  have hbs := HB.out.size
  clear hs5 hw5 hm hb HD HV
  go_wp2
  refine bodyPost_ret (v := .agg #[.slice B (tell9 t 0).length d]) (by simp [results, go_sem, e0]) rfl ?_
  exact ⟨B, d, rfl, HM.out.wide (by omega) HM.out.top (Nat.le_refl _), HB6.out⟩

/-- What is the same so far. -/
def SameTo (l r : List (Int × Int × Int)) (k : Nat) : Prop := ∀ j, j < k → l[j]? = r[j]?
theorem SameTo.all {l r : List (Int × Int × Int)} (h : SameTo l r l.length) (he : l.length = r.length) : l = r := by
  apply List.ext_getElem?
  intro j
  rcases Nat.lt_or_ge j l.length with h1 | h1
  · exact h j h1
  · rw [List.getElem?_eq_none h1, List.getElem?_eq_none (by omega)]
theorem SameTo.next {l r : List (Int × Int × Int)} {k : Nat} (h : SameTo l r k) (h1 : k < l.length) (h2 : k < r.length) (e : l[k] = r[k]) : SameTo l r (k + 1) := fun j hj => by
  by_cases ej : j = k
  · subst ej
    rw [List.getElem?_eq_getElem h1, List.getElem?_eq_getElem h2, e]
  · exact h j (by omega)
theorem same_no {l r : List (Int × Int × Int)} {k : Nat} (h1 : k < l.length) (h2 : k < r.length) (e : l[k] ≠ r[k]) : decide (l = r) = false := by
  apply decide_eq_false
  rintro rfl
  exact e rfl
set_option maxRecDepth 100000 in
set_option maxHeartbeats 8000000 in
theorem equalNodes_any (A B : Option Addr) (c d lo hi lo' hi' : Nat) (l r : List (Int × Int × Int)) (w : World) (hS : NIns w lo hi A l) (hR : NIns w lo' hi' B r) (hl : l.length ≤ 1048576) (hr : r.length ≤ 1048576) :
    Calls Try.prog 155 #[.slice A l.length c, .slice B r.length d] w fun e w' => e = .returned (.bool (decide (l = r))) ∧ Below w.heap.size w w' := by
  have HS := Lib.hid hS
  have HR := Lib.hid hR
  clear hS hR
  by_cases hlen : l.length = r.length
  · have HE := Lib.hid (fun h => SameTo.all (l := l) (r := r) h hlen)
    have HLN := Lib.hid hlen
    have hle : ((l.length : Int) == (r.length : Int)) = true := by simp [hlen]
    have hle2 : ((l.length : Int) != (r.length : Int)) = false := by simp [hlen]
    clear hlen
    have hrl : (r.length : Int) = (l.length : Int) := by have := HLN.out; omega
    rw [show r.length = l.length from HLN.out.symm]
    clear hrl hle hle2
    go_enter Try.func155, Try.ntmps155
    go_wp2_with fail
    go_loopw [13] (fun i wr => ∃ k : Nat, k ≤ l.length ∧ i = .int .i64 (k : Int) ∧ Hid (SameTo l r k) ∧ Hid (Below w.heap.size w wr)) (fun i _ => l.length - (intOf i).toNat)
    case atStart => exact ⟨0, Nat.zero_le _, rfl, Lib.hid (fun j h => absurd h (by omega)), Below.refl _ _⟩
    case round =>
      obtain ⟨k, hk, rfl, HK, HB⟩ := hrel
      by_cases hlt : k < l.length
      · have hlr : k < r.length := by have := HLN.out; omega
        have hki : (k : Int) < (l.length : Int) := by omega
        obtain ⟨b, o, rfl, hx⟩ := (HS.out.step HB.out).at3 hlt
        obtain ⟨b', o', rfl, hy⟩ := (HR.out.step HB.out).at3 hlr
        have HN := Lib.hid (fun e => HK.out.next hlt hlr e)
        have HNo := Lib.hid (fun e => same_no hlt hlr e)
        generalize l[k] = x at hx HN HNo
        generalize r[k] = y at hy HN HNo
        obtain ⟨x1, x2, x3⟩ := x
        obtain ⟨y1, y2, y3⟩ := y
        have x0 := hx.c0
        have x1' := hx.c1
        have x2' := hx.c2
        have y0 := hy.c0
        have y1' := hy.c1
        have y2' := hy.c2
        simp only at x0 x1' x2' y0 y1' y2'
        clear hx hy
        have heq : ∀ w, (Op.equalIn 10000 125 (.agg #[.int .i64 x1, .int .i64 x2, .int .i64 x3]) (.agg #[.int .i64 y1, .int .i64 y2, .int .i64 y3])).run Try.prog w = .ok (ndB (x1, x2, x3) (y1, y2, y3)) w := fun w => eq_node x1 x2 x3 y1 y2 y3 w
        by_cases he : (x1, x2, x3) = (y1, y2, y3)
        · rw [ndB_t he] at heq
          have HN2 := Lib.hid (HN.out he)
          clear he HN HNo HK
          have hlt1 : k < l.length := hlt
          clear hlt hlr
          go_wp2_with fail
          go_quiet (fail)
          go_wp2
          go_roundw
          case rel => exact ⟨k + 1, by omega, by go_num, HN2, by exact Lib.hid (below_drewN HB.out _)⟩
          case measure => simp [intOf]; omega
        · rw [ndB_f he] at heq
          have HD := Lib.hid (HNo.out he)
          clear he HN HNo HK
          clear hlr
          go_wp2_with fail
          go_quiet (fail)
          go_wp2
          go_ret
          rw [HD.out]
          exact ⟨rfl, below_drewN HB.out _⟩
      · obtain rfl : k = l.length := by omega
        have HD := Lib.hid (decide_eq_true (HE.out HK.out))
        go_wp2
        go_ret
        rw [HD.out]
        exact ⟨rfl, HB.out⟩
  · have HD : Hid (decide (l = r) = false) := Lib.hid (decide_eq_false (fun e => hlen (by rw [e])))
    have hne : ¬ (l.length : Int) = (r.length : Int) := by omega
    rw [HD.out]
    clear hlen
    go_enter Try.func155, Try.ntmps155
    go_wp2
    go_ret
    exact ⟨rfl, Below.refl _ _⟩
theorem field_tree (A : Option Addr) (n c : Nat) (w : World) : (Instr.field 33 (.agg #[.slice A n c]) 0).run Try.prog w = .ok (.slice A n c) w := by kernel_rfl
set_option maxRecDepth 100000 in
set_option maxHeartbeats 8000000 in
theorem isTree_impl (n : Int) (A : Option Addr) (c lo hi : Nat) (ns : List (Int × Int × Int)) (w : World) (hS : NIns w lo hi A ns) (hn : ns.length ≤ 1048576) :
    Calls Try.prog 125 #[.int .i64 n, .agg #[.slice A ns.length c]] w fun e w' => e = .returned (.bool (isT9 n ns)) ∧ Below w.heap.size w w' := by
  have HT := Lib.hid (One.new w (.slice A ns.length c) 33 w.heap.size rfl)
  have HB := Lib.hid ((Below.refl w.heap.size w).alloc (Nat.le_refl _) (.cells #[.slice A ns.length c] 33))
  have HI := Lib.hid (hS.step HB.out)
  have HZ := Lib.hid (fun W => isSize_any n W)
  cases hs : inB n 1 12 with
  | false =>
    rw [hs] at HZ
    rw [isT9_no hs]
    clear hs hS
    go_enter Try.func125, Try.ntmps125
    go_wp2_with fail
    generalize w.alloc (.cells #[.slice A ns.length c] 33) = w0 at HT HB HI ⊢
    go_quiet ((go_at_call 154; with_reducible refine Calls.quiet_of_same (HZ.out _)))
    go_wp2
    go_ret
    exact ⟨rfl, below_drewN HB.out _⟩
  | true =>
    rw [hs] at HZ
    have HE : Hid (isT9 n ns = decide (ns = tell9 (read9 n ns 6 0) 0)) := Lib.hid (by unfold isT9; rw [hs]; rfl)
    have HF := Lib.hid (fun W h => treeFrom_any n A c lo hi ns 0 W h hn)
    have hsz : (tell9 (read9 n ns 6 0) 0).length ≤ 1048576 := by rw [tell9_len]; have := T9.size_127 (read9_depth n ns 6 0); omega
    have HQ := Lib.hid (fun W lo' hi' B d h h' => equalNodes_any A B c d lo hi lo' hi' ns (tell9 (read9 n ns 6 0) 0) W h h' hn hsz)
    rw [HE.out]
    clear hs hS hsz HE
    have hfd := field_tree
    generalize tell9 (read9 n ns 6 0) 0 = ms at HF HQ ⊢
    go_enter Try.func125, Try.ntmps125
    go_wp2_with fail
    generalize w.alloc (.cells #[.slice A ns.length c] 33) = w0 at HT HB HI ⊢
    go_region_held3 (fun w' => w'.cell? ⟨w.heap.size, 0, none⟩ = some (.slice A ns.length c))
      (first
       | exact (HT.out.step (Below.refl _ w0).drew).c0
       | exact HT_1.out.c0
       | exact HT_2.out.c0)
      (first
       | (go_at_call 155; (with_reducible refine (HQ.out _ _ _ _ _ HI_1.out HM_1.out.ins).mono ?_); rintro e v2 ⟨rfl, hb⟩; have HZ2 := Lib.hid (below_trans HZ1.out hb); have HT_2 := Lib.hid (HT.out.step HZ2.out); have HB_2 := Lib.hid (below_trans HB.out HZ2.out); clear hb)
       | (go_at_call 156; (with_reducible refine (HF.out _ (HI.out.step (Below.refl _ w0).drew)).mono ?_); rintro e v1 ⟨B, d, rfl, hm, hb⟩; have HZ1 := Lib.hid (below_trans (Below.refl _ w0).drew hb); have HT_1 := Lib.hid (HT.out.step HZ1.out); have HI_1 := Lib.hid (HI.out.step HZ1.out); have HM_1 := Lib.hid hm; clear hb hm)
       | (go_at_call 154; (with_reducible refine (HZ.out _).mono ?_); rintro e wX ⟨rfl, hw⟩; have hw := hw.symm; subst hw))
    all_goals
      go_wp2
      go_ret
      exact ⟨rfl, HB_2.out⟩
set_option maxRecDepth 100000 in
set_option maxHeartbeats 8000000 in
theorem l9Tree_any (n : Int) (A : Option Addr) (c lo hi : Nat) (ns : List (Int × Int × Int)) (w : World) (hS : NIns w lo hi A ns) (hn : ns.length ≤ 1048576) :
    Calls Try.prog 68 #[.int .i64 n, .agg #[.slice A ns.length c]] w fun e w' => e = .returned (.bool (isT9 n ns)) ∧ Below w.heap.size w w' := by
  have HT := Lib.hid (One.new w (.slice A ns.length c) 33 w.heap.size rfl)
  have HB := Lib.hid ((Below.refl w.heap.size w).alloc (Nat.le_refl _) (.cells #[.slice A ns.length c] 33))
  have HI := Lib.hid (hS.step HB.out)
  have HZ := Lib.hid (fun W => l2Numbers_any n W)
  clear hS
  cases hs : inB n 1 12 with
  | false =>
    rw [hs] at HZ
    rw [isT9_no hs]
    clear hs
    go_enter Try.func68, Try.ntmps68
    go_wp2_with (go_at_call 120; (with_reducible refine (HZ.out _).mono ?_); rintro e wX ⟨rfl, hw⟩; have hw := hw.symm; subst hw)
    go_ret
    exact ⟨rfl, HB.out⟩
  | true =>
    rw [hs] at HZ
    rw [isT9_end n ns hs]
    clear hs
    have HN := Lib.hid (fun W => l1In_any (ns.length : Int) 1 127 W)
    cases h1 : inB (ns.length : Int) 1 127 with
    | false =>
      rw [h1] at HN
      rw [Bool.false_and]
      clear h1
      go_enter Try.func68, Try.ntmps68
      go_wp2_with (first | (go_at_call 120; (with_reducible refine (HZ.out _).mono ?_); rintro e wX ⟨rfl, hw⟩; have hw := hw.symm; subst hw) | (go_at_call 58; (with_reducible refine (HN.out _).mono ?_); rintro e wX ⟨rfl, hw⟩; have hw := hw.symm; subst hw))
      go_ret
      exact ⟨rfl, HB.out⟩
    | true =>
      rw [h1] at HN
      rw [Bool.true_and]
      clear h1
      have HE := Lib.hid (fun W h => l9End_any n A c lo hi ns hn 7 0 0 W (Nat.le_refl _) (by omega) h)
      rw [show (((0 : Nat)) : Int) = 0 from rfl] at HE
      cases he : end9 n ns 7 0 with
      | none =>
        rw [he] at HE
        have HA : Hid (decide ((none : Option Nat) = some ns.length) = false) := Lib.hid (by simp)
        rw [HA.out]
        clear he
        go_enter Try.func68, Try.ntmps68
        go_wp2_with (first | (go_at_call 120; (with_reducible refine (HZ.out _).mono ?_); rintro e wX ⟨rfl, hw⟩; have hw := hw.symm; subst hw) | (go_at_call 58; (with_reducible refine (HN.out _).mono ?_); rintro e wX ⟨rfl, hw⟩; have hw := hw.symm; subst hw))
        generalize w.alloc (.cells #[.slice A ns.length c] 33) = w0 at HT HB HI ⊢
        with_reducible refine (HE.out _ HI.out).mono ?_
        rintro e w1 ⟨rfl, hb⟩
        replace HB := Lib.hid (below_trans HB.out hb)
        clear hb
        go_wp2
        go_ret
        exact ⟨rfl, HB.out⟩
      | some e1 =>
        rw [he] at HE
        have hea : endA (some e1) = (e1 : Int) := rfl
        rw [hea] at HE
        clear hea he
        by_cases hl : e1 = ns.length
        · subst hl
          have HA : Hid (decide (some ns.length = some ns.length) = true) := Lib.hid (by simp)
          rw [HA.out]
          go_enter Try.func68, Try.ntmps68
          go_wp2_with (first | (go_at_call 120; (with_reducible refine (HZ.out _).mono ?_); rintro e wX ⟨rfl, hw⟩; have hw := hw.symm; subst hw) | (go_at_call 58; (with_reducible refine (HN.out _).mono ?_); rintro e wX ⟨rfl, hw⟩; have hw := hw.symm; subst hw))
          generalize w.alloc (.cells #[.slice A ns.length c] 33) = w0 at HT HB HI ⊢
          with_reducible refine (HE.out _ HI.out).mono ?_
          rintro e w1 ⟨rfl, hb⟩
          replace HB := Lib.hid (below_trans HB.out hb)
          replace HT := Lib.hid (HT.out.step hb)
          have h0 := HT.out.c0
          clear hb
          go_wp2
          go_ret
          exact ⟨rfl, HB.out⟩
        · have HA : Hid (decide (some e1 = some ns.length) = false) := Lib.hid (by simp [hl])
          rw [HA.out]
          have hne : ((e1 : Int) == (ns.length : Int)) = false := by simp; omega
          go_enter Try.func68, Try.ntmps68
          go_wp2_with (first | (go_at_call 120; (with_reducible refine (HZ.out _).mono ?_); rintro e wX ⟨rfl, hw⟩; have hw := hw.symm; subst hw) | (go_at_call 58; (with_reducible refine (HN.out _).mono ?_); rintro e wX ⟨rfl, hw⟩; have hw := hw.symm; subst hw))
          generalize w.alloc (.cells #[.slice A ns.length c] 33) = w0 at HT HB HI ⊢
          with_reducible refine (HE.out _ HI.out).mono ?_
          rintro e w1 ⟨rfl, hb⟩
          replace HB := Lib.hid (below_trans HB.out hb)
          replace HT := Lib.hid (HT.out.step hb)
          have h0 := HT.out.c0
          clear hb
          go_wp2
          go_ret
          exact ⟨rfl, HB.out⟩
end Go.Proofs.Ytdkffkgoalgjmac
