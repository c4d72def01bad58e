/- Trees of questions: WayTo, DepthOf, of both sides. -/
import Derived.Test.YtnomgnjfamideabL9W
namespace Go.Proofs.Ytnomgnjfamideab
open Go.RowKit Go.ChangeShapes Go.WideShapes Go.Maps
set_option linter.unusedVariables false

set_option maxRecDepth 100000 in
set_option maxHeartbeats 8000000 in
theorem node9_impl (n : Int) (A : Option Addr) (c lo hi : Nat) (ns : List (Int × Int × Int)) (k : Int) (w : World) (hS : NIns w lo hi A ns) (hn : ns.length ≤ 1048576) :
    Calls Try.prog 39 #[.int .i64 n, .agg #[.slice A ns.length c], .int .i64 k] w fun e w' => e = .returned (.bool (nodeB n ns k)) ∧ Below w.heap.size w w' := by
  have HT := Lib.hid (One.new w (.slice A ns.length c) 28 w.heap.size rfl)
  have HB := Lib.hid ((Below.refl w.heap.size w).alloc (Nat.le_refl _) (.cells #[.slice A ns.length c] 28))
  have HI := Lib.hid (hS.step HB.out)
  have HC := Lib.hid (fun W h => isTree_impl n A c lo hi ns W h hn)
  clear hS
  cases ht : isT9 n ns with
  | false =>
    rw [ht] at HC
    rw [nodeB_no ht]
    clear ht
    go_enter Try.func39, Try.ntmps39
    go_wp2_with fail
    generalize w.alloc (.cells #[.slice A ns.length c] 28) = w0 at HB HT HI ⊢
    have h0 := HT.out.c0
    with_reducible refine (HC.out _ HI.out).mono ?_
    rintro e w1 ⟨rfl, hb⟩
    replace HB := Lib.hid (below_trans HB.out hb)
    replace HT := Lib.hid (HT.out.step hb)
    replace HI := Lib.hid (HI.out.step hb)
    replace h0 := HT.out.c0
    clear hb
    go_wp2
    go_ret
    exact ⟨rfl, HB.out⟩
  | true =>
    rw [ht] at HC
    have HE : Hid (nodeB n ns k = inB k 0 ((ns.length : Int) - 1)) := Lib.hid (by unfold nodeB; rw [ht]; rfl)
    rw [HE.out]
    clear ht HE
    by_cases h0 : 0 ≤ k
    · by_cases h1 : k < (ns.length : Int)
      · rw [inB_t (show 0 ≤ k from h0) (show k ≤ (ns.length : Int) - 1 by omega)]
        go_enter Try.func39, Try.ntmps39
        go_wp2_with fail
        generalize w.alloc (.cells #[.slice A ns.length c] 28) = w0 at HT HB HI ⊢
        have h0 := HT.out.c0
        with_reducible refine (HC.out _ HI.out).mono ?_
        rintro e w2 ⟨rfl, hb⟩
        replace HT := Lib.hid (HT.out.step hb)
        replace HB := Lib.hid (below_trans HB.out hb)
        replace HI := Lib.hid (HI.out.step hb)
        replace h0 := HT.out.c0
        clear hb
        go_wp2
        go_ret
        first | exact ⟨rfl, HB.out⟩ | (rw [decide_eq_true (show k < (ns.length : Int) by omega)]; exact ⟨rfl, HB.out⟩)
      · rw [inB_f2 (show ¬ k ≤ (ns.length : Int) - 1 by omega)]
        have h2 : (ns.length : Int) ≤ k := by omega
        go_enter Try.func39, Try.ntmps39
        go_wp2_with fail
        generalize w.alloc (.cells #[.slice A ns.length c] 28) = w0 at HT HB HI ⊢
        have h0 := HT.out.c0
        with_reducible refine (HC.out _ HI.out).mono ?_
        rintro e w3 ⟨rfl, hb⟩
        replace HT := Lib.hid (HT.out.step hb)
        replace HB := Lib.hid (below_trans HB.out hb)
        replace HI := Lib.hid (HI.out.step hb)
        replace h0 := HT.out.c0
        clear hb
        go_wp2
        go_ret
        first | exact ⟨rfl, HB.out⟩ | (rw [decide_eq_false (show ¬ k < (ns.length : Int) by omega)]; exact ⟨rfl, HB.out⟩)
    · rw [inB_f1 (show ¬ 0 ≤ k from h0)]
      have h2 : k < 0 := by omega
      go_enter Try.func39, Try.ntmps39
      go_wp2_with fail
      generalize w.alloc (.cells #[.slice A ns.length c] 28) = w0 at HT HB HI ⊢
      have h0 := HT.out.c0
      with_reducible refine (HC.out _ HI.out).mono ?_
      rintro e w4 ⟨rfl, hb⟩
      replace HT := Lib.hid (HT.out.step hb)
      replace HB := Lib.hid (below_trans HB.out hb)
      replace HI := Lib.hid (HI.out.step hb)
      replace h0 := HT.out.c0
      clear hb
      go_wp2
      go_ret
      first | exact ⟨rfl, HB.out⟩ | (rw [decide_eq_false (show ¬ k < (ns.length : Int) by omega)]; exact ⟨rfl, HB.out⟩)
set_option maxRecDepth 100000 in
set_option maxHeartbeats 8000000 in
theorem node9_spec (n : Int) (A : Option Addr) (c lo hi : Nat) (ns : List (Int × Int × Int)) (k : Int) (w : World) (hS : NIns w lo hi A ns) (hn : ns.length ≤ 1048576) :
    Calls Try.prog 37 #[.int .i64 n, .agg #[.slice A ns.length c], .int .i64 k] w fun e w' => e = .returned (.bool (nodeB n ns k)) ∧ Below w.heap.size w w' := by
  have HT := Lib.hid (One.new w (.slice A ns.length c) 28 w.heap.size rfl)
  have HB := Lib.hid ((Below.refl w.heap.size w).alloc (Nat.le_refl _) (.cells #[.slice A ns.length c] 28))
  have HI := Lib.hid (hS.step HB.out)
  have HC := Lib.hid (fun W h => l9Tree_any n A c lo hi ns W h hn)
  clear hS
  cases ht : isT9 n ns with
  | false =>
    rw [ht] at HC
    rw [nodeB_no ht]
    clear ht
    go_enter Try.func37, Try.ntmps37
    go_wp2_with fail
    generalize w.alloc (.cells #[.slice A ns.length c] 28) = w0 at HB HT HI ⊢
    have h0 := HT.out.c0
    with_reducible refine (HC.out _ HI.out).mono ?_
    rintro e w1 ⟨rfl, hb⟩
    replace HB := Lib.hid (below_trans HB.out hb)
    replace HT := Lib.hid (HT.out.step hb)
    replace HI := Lib.hid (HI.out.step hb)
    replace h0 := HT.out.c0
    clear hb
    go_wp2
    go_ret
    exact ⟨rfl, HB.out⟩
  | true =>
    rw [ht] at HC
    have HE : Hid (nodeB n ns k = inB k 0 ((ns.length : Int) - 1)) := Lib.hid (by unfold nodeB; rw [ht]; rfl)
    rw [HE.out]
    clear ht HE
    have HN := Lib.hid (fun W => l1In_any k 0 ((ns.length : Int) - 1) W)
    go_enter Try.func37, Try.ntmps37
    go_wp2_with fail
    generalize w.alloc (.cells #[.slice A ns.length c] 28) = w0 at HT HB HI ⊢
    have h0 := HT.out.c0
    with_reducible refine (HC.out _ HI.out).mono ?_
    rintro e w2 ⟨rfl, hb⟩
    replace HT := Lib.hid (HT.out.step hb)
    replace HB := Lib.hid (below_trans HB.out hb)
    replace HI := Lib.hid (HI.out.step hb)
    replace h0 := HT.out.c0
    clear hb
    go_wp2_with (go_at_call 45; (with_reducible refine (HN.out _).mono ?_); rintro e wX ⟨rfl, hw⟩; have hw := hw.symm; subst hw)
    go_ret
    exact ⟨rfl, HB.out⟩
theorem nodeB_yes {n : Int} {ns : List (Int × Int × Int)} {t : T9} {p : Nat} (hT : Tree9 n ns t) (hk : p < ns.length) : nodeB n ns (p : Int) = true := by
  unfold nodeB
  rw [isT9_mk hT, inB_t (by omega) (by omega)]
  rfl
end Go.Proofs.Ytnomgnjfamideab
