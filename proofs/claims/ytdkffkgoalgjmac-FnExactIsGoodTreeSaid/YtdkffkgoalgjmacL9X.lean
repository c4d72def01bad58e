/- Trees of questions: WayTo, DepthOf, of both sides. -/
import Derived.Test.YtdkffkgoalgjmacL9W
namespace Go.Proofs.Ytdkffkgoalgjmac
open Go.RowKit Go.ChangeShapes Go.WideShapes Go.Maps
set_option linter.unusedVariables false

set_option maxRecDepth 100000 in
set_option maxHeartbeats 8000000 in
theorem node9_impl (n : Int) (A : Option Addr) (c lo hi : Nat) (ns : List (Int × Int × Int)) (k : Int) (w : World) (hS : NIns w lo hi A ns) (hn : ns.length ≤ 1048576) :
    Calls Try.prog 118 #[.int .i64 n, .agg #[.slice A ns.length c], .int .i64 k] w fun e w' => e = .returned (.bool (nodeB n ns k)) ∧ Below w.heap.size w w' := by
  have HT := Lib.hid (One.new w (.slice A ns.length c) 33 w.heap.size rfl)
  have HB := Lib.hid ((Below.refl w.heap.size w).alloc (Nat.le_refl _) (.cells #[.slice A ns.length c] 33))
  have HI := Lib.hid (hS.step HB.out)
  have HC := Lib.hid (fun W h => isTree_impl n A c lo hi ns W h hn)
  clear hS
  cases ht : isT9 n ns with
  | false =>
    rw [ht] at HC
    rw [nodeB_no ht]
    clear ht
    go_enter Try.func118, Try.ntmps118
    go_wp2_with fail
    generalize w.alloc (.cells #[.slice A ns.length c] 33) = w0 at HB HT HI ⊢
    have h0 := HT.out.c0
    with_reducible refine (HC.out _ HI.out).mono ?_
    rintro e w1 ⟨rfl, hb⟩
    replace HB := Lib.hid (below_trans HB.out hb)
    replace HT := Lib.hid (HT.out.step hb)
    replace HI := Lib.hid (HI.out.step hb)
    replace h0 := HT.out.c0
    clear hb
    go_wp2
    go_ret
    exact ⟨rfl, HB.out⟩
  | true =>
    rw [ht] at HC
    have HE : Hid (nodeB n ns k = inB k 0 ((ns.length : Int) - 1)) := Lib.hid (by unfold nodeB; rw [ht]; rfl)
    rw [HE.out]
    clear ht HE
    by_cases h0 : 0 ≤ k
    · by_cases h1 : k < (ns.length : Int)
      · rw [inB_t (show 0 ≤ k from h0) (show k ≤ (ns.length : Int) - 1 by omega)]
        go_enter Try.func118, Try.ntmps118
        go_wp2_with fail
        generalize w.alloc (.cells #[.slice A ns.length c] 33) = w0 at HT HB HI ⊢
        have h0 := HT.out.c0
        with_reducible refine (HC.out _ HI.out).mono ?_
        rintro e w2 ⟨rfl, hb⟩
        replace HT := Lib.hid (HT.out.step hb)
        replace HB := Lib.hid (below_trans HB.out hb)
        replace HI := Lib.hid (HI.out.step hb)
        replace h0 := HT.out.c0
        clear hb
        go_wp2
        go_ret
        first | exact ⟨rfl, HB.out⟩ | (rw [decide_eq_true (show k < (ns.length : Int) by omega)]; exact ⟨rfl, HB.out⟩)
      · rw [inB_f2 (show ¬ k ≤ (ns.length : Int) - 1 by omega)]
        have h2 : (ns.length : Int) ≤ k := by omega
        go_enter Try.func118, Try.ntmps118
        go_wp2_with fail
        generalize w.alloc (.cells #[.slice A ns.length c] 33) = w0 at HT HB HI ⊢
        have h0 := HT.out.c0
        with_reducible refine (HC.out _ HI.out).mono ?_
        rintro e w3 ⟨rfl, hb⟩
        replace HT := Lib.hid (HT.out.step hb)
        replace HB := Lib.hid (below_trans HB.out hb)
        replace HI := Lib.hid (HI.out.step hb)
        replace h0 := HT.out.c0
        clear hb
        go_wp2
        go_ret
        first | exact ⟨rfl, HB.out⟩ | (rw [decide_eq_false (show ¬ k < (ns.length : Int) by omega)]; exact ⟨rfl, HB.out⟩)
    · rw [inB_f1 (show ¬ 0 ≤ k from h0)]
      have h2 : k < 0 := by omega
      go_enter Try.func118, Try.ntmps118
      go_wp2_with fail
      generalize w.alloc (.cells #[.slice A ns.length c] 33) = w0 at HT HB HI ⊢
      have h0 := HT.out.c0
      with_reducible refine (HC.out _ HI.out).mono ?_
      rintro e w4 ⟨rfl, hb⟩
      replace HT := Lib.hid (HT.out.step hb)
      replace HB := Lib.hid (below_trans HB.out hb)
      replace HI := Lib.hid (HI.out.step hb)
      replace h0 := HT.out.c0
      clear hb
      go_wp2
      go_ret
      first | exact ⟨rfl, HB.out⟩ | (rw [decide_eq_false (show ¬ k < (ns.length : Int) by omega)]; exact ⟨rfl, HB.out⟩)
set_option maxRecDepth 100000 in
set_option maxHeartbeats 8000000 in
theorem node9_spec (n : Int) (A : Option Addr) (c lo hi : Nat) (ns : List (Int × Int × Int)) (k : Int) (w : World) (hS : NIns w lo hi A ns) (hn : ns.length ≤ 1048576) :
    Calls Try.prog 57 #[.int .i64 n, .agg #[.slice A ns.length c], .int .i64 k] w fun e w' => e = .returned (.bool (nodeB n ns k)) ∧ Below w.heap.size w w' := by
  have HT := Lib.hid (One.new w (.slice A ns.length c) 33 w.heap.size rfl)
  have HB := Lib.hid ((Below.refl w.heap.size w).alloc (Nat.le_refl _) (.cells #[.slice A ns.length c] 33))
  have HI := Lib.hid (hS.step HB.out)
  have HC := Lib.hid (fun W h => l9Tree_any n A c lo hi ns W h hn)
  clear hS
  cases ht : isT9 n ns with
  | false =>
    rw [ht] at HC
    rw [nodeB_no ht]
    clear ht
    go_enter Try.func57, Try.ntmps57
    go_wp2_with fail
    generalize w.alloc (.cells #[.slice A ns.length c] 33) = w0 at HB HT HI ⊢
    have h0 := HT.out.c0
    with_reducible refine (HC.out _ HI.out).mono ?_
    rintro e w1 ⟨rfl, hb⟩
    replace HB := Lib.hid (below_trans HB.out hb)
    replace HT := Lib.hid (HT.out.step hb)
    replace HI := Lib.hid (HI.out.step hb)
    replace h0 := HT.out.c0
    clear hb
    go_wp2
    go_ret
    exact ⟨rfl, HB.out⟩
  | true =>
    rw [ht] at HC
    have HE : Hid (nodeB n ns k = inB k 0 ((ns.length : Int) - 1)) := Lib.hid (by unfold nodeB; rw [ht]; rfl)
    rw [HE.out]
    clear ht HE
    have HN := Lib.hid (fun W => l1In_any k 0 ((ns.length : Int) - 1) W)
    go_enter Try.func57, Try.ntmps57
    go_wp2_with fail
    generalize w.alloc (.cells #[.slice A ns.length c] 33) = w0 at HT HB HI ⊢
    have h0 := HT.out.c0
    with_reducible refine (HC.out _ HI.out).mono ?_
    rintro e w2 ⟨rfl, hb⟩
    replace HT := Lib.hid (HT.out.step hb)
    replace HB := Lib.hid (below_trans HB.out hb)
    replace HI := Lib.hid (HI.out.step hb)
    replace h0 := HT.out.c0
    clear hb
    go_wp2_with (go_at_call 58; (with_reducible refine (HN.out _).mono ?_); rintro e wX ⟨rfl, hw⟩; have hw := hw.symm; subst hw)
    go_ret
    exact ⟨rfl, HB.out⟩
theorem nodeB_yes {n : Int} {ns : List (Int × Int × Int)} {t : T9} {p : Nat} (hT : Tree9 n ns t) (hk : p < ns.length) : nodeB n ns (p : Int) = true := by
  unfold nodeB
  rw [isT9_mk hT, inB_t (by omega) (by omega)]
  rfl
set_option maxRecDepth 100000 in
set_option maxHeartbeats 8000000 in
theorem wayTo_impl_no (n : Int) (A : Option Addr) (c lo hi : Nat) (ns : List (Int × Int × Int)) (k : Int) (w : World) (hS : NIns w lo hi A ns) (hn : ns.length ≤ 1048576) (hno : nodeB n ns k = false) :
    Calls Try.prog 62 #[.int .i64 n, .agg #[.slice A ns.length c], .int .i64 k] w fun e w' => ∃ B d, e = .returned (.tuple #[.slice B 0 d, .bool false]) ∧ AMade w' w.heap.size w'.heap.size B [] ∧ Below w.heap.size w w' := by
  have HT := Lib.hid (One.new w (.slice A ns.length c) 33 w.heap.size rfl)
  have HB := Lib.hid ((Below.refl w.heap.size w).alloc (Nat.le_refl _) (.cells #[.slice A ns.length c] 33))
  have HI := Lib.hid (hS.step HB.out)
  have HC := Lib.hid (fun W h => node9_impl n A c lo hi ns k W h hn)
  rw [hno] at HC
  clear hS hno
  go_enter Try.func62, Try.ntmps62
  go_wp2_with fail
  generalize w.alloc (.cells #[.slice A ns.length c] 33) = w0 at HB HT HI ⊢
  have h0 := HT.out.c0
  with_reducible refine (HC.out _ HI.out).mono ?_
  rintro e w1 ⟨rfl, hb⟩
  replace HB := Lib.hid (below_trans HB.out hb)
  replace HT := Lib.hid (HT.out.step hb)
  replace HI := Lib.hid (HI.out.step hb)
  replace h0 := HT.out.c0
  clear hb
  clear h0
  go_wp2
  go_ret2
  exact ⟨_, _, rfl, empty_madeA _ _ HB.out.size, HB.out.alloc HB.out.size _⟩
set_option maxRecDepth 100000 in
set_option maxHeartbeats 8000000 in
theorem wayTo_impl (n : Int) (A : Option Addr) (c lo hi : Nat) (ns : List (Int × Int × Int)) (p : Nat) (t : T9) (w : World) (hS : NIns w lo hi A ns) (hT : Tree9 n ns t) (hk : p < ns.length) :
    Calls Try.prog 62 #[.int .i64 n, .agg #[.slice A ns.length c], .int .i64 (p : Int)] w fun e w' => ∃ B d, e = .returned (.tuple #[.slice B (way9 t 0 p).length d, .bool true]) ∧ AMade w' w.heap.size w'.heap.size B (way9 t 0 p) ∧ Below w.heap.size w w' := by
  have HT := Lib.hid (One.new w (.slice A ns.length c) 33 w.heap.size rfl)
  have HB := Lib.hid ((Below.refl w.heap.size w).alloc (Nat.le_refl _) (.cells #[.slice A ns.length c] 33))
  have HI := Lib.hid (hS.step HB.out)
  have HC := Lib.hid (fun W h => node9_impl n A c lo hi ns (p : Int) W h (by have := hT.le127; omega))
  rw [nodeB_yes hT hk] at HC
  have HW := Lib.hid (fun W h => way9_impl n A c lo hi ns p t W h hT hk)
  clear hS hT hk
  go_enter Try.func62, Try.ntmps62
  go_wp2_with fail
  generalize w.alloc (.cells #[.slice A ns.length c] 33) = w0 at HB HT HI ⊢
  have h0 := HT.out.c0
  with_reducible refine (HC.out _ HI.out).mono ?_
  rintro e w1 ⟨rfl, hb⟩
  replace HB := Lib.hid (below_trans HB.out hb)
  replace HT := Lib.hid (HT.out.step hb)
  replace HI := Lib.hid (HI.out.step hb)
  replace h0 := HT.out.c0
  clear hb
  go_wp2_with fail
  have hs1 := HB.out.size
  with_reducible refine (HW.out w1 HI.out).mono ?_
  rintro e w2 ⟨B, d, rfl, hm, hb⟩
  replace HB := Lib.hid (below_trans HB.out hb)
  replace HT := Lib.hid (HT.out.step hb)
  replace HI := Lib.hid (HI.out.step hb)
  replace h0 := HT.out.c0
  have HM := Lib.hid hm
  clear hm
  clear hb
  clear h0
  go_wp2
  go_ret2
  exact ⟨B, d, rfl, AMade.low HM.out hs1, HB.out⟩
end Go.Proofs.Ytdkffkgoalgjmac
