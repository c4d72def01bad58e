/- The answerer: a number that is open, the answers that are true for it, and how often it stays open. -/
import Derived.Test.YtpjoljaamakagaaL8D
import Derived.Test.YtpjoljaamakagaaTrue
import Derived.Test.YtpjoljaamakagaaNumW
import Derived.Test.YtpjoljaamakagaaL8V
import Derived.Test.YtpjoljaamakagaaOpn12
namespace Go.Proofs.Ytpjoljaamakagaa
open Go.RowKit Go.ChangeShapes Go.WideShapes Go.Maps
set_option linter.unusedVariables false

/-- Whether a state and questions are valid, and a number is open. -/
def sOK (zs : List Int) (m : Int) (qs : List Int) (k : Int) : Bool := lOK zs m qs && (inB k 0 ((zs.length : Int) - 1) && decide (0 ≤ zs.getD k.toNat (-1)))
structure Secret (zs : List Int) (m : Int) (qs : List Int) (k : Int) (j : Nat) : Prop where
  l : Listed zs m qs
  k : k = (j : Int)
  lt : j < zs.length
  op : 0 ≤ zs[j]
theorem sOK_iff {zs : List Int} {m : Int} {qs : List Int} {k : Int} (h : sOK zs m qs k = true) : ∃ j, Secret zs m qs k j := by
  simp only [sOK, Bool.and_eq_true, decide_eq_true_eq] at h
  obtain ⟨h1, h2, h3⟩ := h
  have h4 := inB_iff.1 h2
  have hj : k.toNat < zs.length := by omega
  refine ⟨k.toNat, lOK_iff.1 h1, by omega, hj, ?_⟩
  simpa [List.getD, hj] using h3
theorem Secret.ok {zs : List Int} {m : Int} {qs : List Int} {k : Int} {j : Nat} (h : Secret zs m qs k j) : sOK zs m qs k = true := by
  have hk := h.k
  have hlt := h.lt
  have hop := h.op
  subst hk
  simp only [sOK, Bool.and_eq_true, decide_eq_true_eq]
  exact ⟨lOK_iff.2 h.l, inB_t (by omega) (by omega), by simpa [List.getD, hlt] using hop⟩
theorem BOwn.top8 {w : World} {lo hi hi' : Nat} {A : Option Addr} {bs : List Bool} (h : BOwn w lo hi A bs) (hl : hi ≤ hi') : BOwn w lo hi' A bs := by
  rcases h with h | ⟨g, cur, e, h1, h2, r⟩
  · exact .inl h
  · exact .inr ⟨g, cur, e, h1, Nat.lt_of_lt_of_le h2 hl, r⟩
theorem empty_resB8' (w : World) (lo : Nat) (h : lo ≤ w.heap.size) : BRes (w.alloc (.cells #[] 4)) lo (w.alloc (.cells #[] 4)).heap.size (some ⟨w.heap.size, 0, none⟩) [] := empty_resB8 w lo h
set_option maxRecDepth 100000 in
set_option maxHeartbeats 8000000 in
theorem areListedFor_any (A : Option Addr) (c lo hi : Nat) (zs : List Int) (m : Int) (A2 : Option Addr) (c2 lo2 hi2 : Nat) (qs : List Int) (k : Int) (w : World) (hS : Ins w lo hi A zs) (hQ : Ins w lo2 hi2 A2 qs) (hn : zs.length ≤ 1048576) (hn2 : qs.length ≤ 1048576) :
    Calls Try.prog 91 #[.agg #[.slice A zs.length c, .int .i64 m], .slice A2 qs.length c2, .int .i64 k] w fun e w' => e = .returned (.bool (sOK zs m qs k)) ∧ Below w.heap.size w w' := by
  have HT := Lib.hid (Two.new w (.slice A zs.length c) (.int .i64 m) 35 (w.heap.size) rfl)
  have HB := Lib.hid ((Below.refl w.heap.size w).alloc (Nat.le_refl _) (.cells #[.slice A zs.length c, .int .i64 m] 35))
  have HI := Lib.hid (hS.step HB.out)
  have HQ := Lib.hid (hQ.step HB.out)
  have HG := Lib.hid (fun W h h2 => areListed_any A c lo hi zs m A2 c2 lo2 hi2 qs W h h2 hn hn2)
  unfold sOK
  cases hok : lOK zs m qs with
  | false =>
    rw [hok] at HG
    clear hS hQ hok
    go_enter Try.func91, Try.ntmps91
    go_wp2_with fail
    generalize w.alloc (.cells #[.slice A zs.length c, .int .i64 m] 35) = w0 at HT HB HI HQ ⊢
    have h0 := HT.out.c0
    have h1 := HT.out.c1
    with_reducible refine (HG.out _ HI.out HQ.out).mono ?_
    rintro e w1 ⟨rfl, hb⟩
    replace HT := Lib.hid (HT.out.step hb)
    replace HB := Lib.hid (below_trans HB.out hb)
    replace HI := Lib.hid (HI.out.step hb)
    replace HQ := Lib.hid (HQ.out.step hb)
    replace h0 := HT.out.c0
    replace h1 := HT.out.c1
    clear hb
    clear h0 h1
    go_wp2
    go_ret
    exact ⟨rfl, HB.out⟩
  | true =>
    rw [hok] at HG
    have hL := lOK_iff.1 hok
    have HN := Lib.hid (fun W h => isOpen_any A c lo hi zs m k W h hL.st)
    unfold opnB at HN
    clear hok hS hQ hL
    rw [Bool.true_and]
    generalize (inB k 0 ((zs.length : Int) - 1) && decide (0 ≤ zs.getD k.toNat (-1))) = bb at HN ⊢
    go_enter Try.func91, Try.ntmps91
    go_wp2_with fail
    generalize w.alloc (.cells #[.slice A zs.length c, .int .i64 m] 35) = w0 at HT HB HI HQ ⊢
    have h0 := HT.out.c0
    have h1 := HT.out.c1
    with_reducible refine (HG.out _ HI.out HQ.out).mono ?_
    rintro e w1 ⟨rfl, hb⟩
    replace HT := Lib.hid (HT.out.step hb)
    replace HB := Lib.hid (below_trans HB.out hb)
    replace HI := Lib.hid (HI.out.step hb)
    replace h0 := HT.out.c0
    replace h1 := HT.out.c1
    clear hb HQ HG
    go_wp2_with fail
    with_reducible refine (HN.out _ HI.out).mono ?_
    rintro e w2 ⟨rfl, hb⟩
    replace HB := Lib.hid (below_trans HB.out hb)
    clear hb h0 h1 HT HI HN
    go_wp2
    go_ret
    exact ⟨rfl, HB.out⟩
set_option maxRecDepth 100000 in
set_option maxHeartbeats 8000000 in
theorem l8Secret_any (A : Option Addr) (c lo hi : Nat) (zs : List Int) (m : Int) (A2 : Option Addr) (c2 lo2 hi2 : Nat) (qs : List Int) (k : Int) (w : World) (hS : Ins w lo hi A zs) (hQ : Ins w lo2 hi2 A2 qs) (hn : zs.length ≤ 1048576) (hn2 : qs.length ≤ 1048576) :
    Calls Try.prog 90 #[.agg #[.slice A zs.length c, .int .i64 m], .slice A2 qs.length c2, .int .i64 k] w fun e w' => e = .returned (.bool (sOK zs m qs k)) ∧ Below w.heap.size w w' := by
  have HT := Lib.hid (Two.new w (.slice A zs.length c) (.int .i64 m) 35 (w.heap.size) rfl)
  have HB := Lib.hid ((Below.refl w.heap.size w).alloc (Nat.le_refl _) (.cells #[.slice A zs.length c, .int .i64 m] 35))
  have HI := Lib.hid (hS.step HB.out)
  have HQ := Lib.hid (hQ.step HB.out)
  have HG := Lib.hid (fun W h h2 => l8Good_any A c lo hi zs m A2 c2 lo2 hi2 qs W h h2 hn hn2)
  have HN := Lib.hid (fun W => l1In_any k 0 ((zs.length : Int) - 1) W)
  unfold sOK
  cases hok : lOK zs m qs with
  | false =>
    rw [hok] at HG
    clear hS hQ hok HN
    go_enter Try.func90, Try.ntmps90
    go_wp2_with fail
    generalize w.alloc (.cells #[.slice A zs.length c, .int .i64 m] 35) = w0 at HT HB HI HQ ⊢
    have h0 := HT.out.c0
    have h1 := HT.out.c1
    with_reducible refine (HG.out _ HI.out HQ.out).mono ?_
    rintro e w1 ⟨rfl, hb⟩
    replace HT := Lib.hid (HT.out.step hb)
    replace HB := Lib.hid (below_trans HB.out hb)
    replace HI := Lib.hid (HI.out.step hb)
    replace HQ := Lib.hid (HQ.out.step hb)
    replace h0 := HT.out.c0
    replace h1 := HT.out.c1
    clear hb
    clear h0 h1
    go_wp2
    go_ret
    exact ⟨rfl, HB.out⟩
  | true =>
    rw [hok] at HG
    have hL := lOK_iff.1 hok
    have hl := hL.len
    have HA := Lib.hid (fun i (h : i < zs.length) => isSt_at hL.st h)
    clear hok hS hQ hL
    cases hk : inB k 0 ((zs.length : Int) - 1) with
    | false =>
      rw [hk] at HN
      clear hk HA
      go_enter Try.func90, Try.ntmps90
      go_wp2_with fail
      generalize w.alloc (.cells #[.slice A zs.length c, .int .i64 m] 35) = w0 at HT HB HI HQ ⊢
      have h0 := HT.out.c0
      have h1 := HT.out.c1
      with_reducible refine (HG.out _ HI.out HQ.out).mono ?_
      rintro e w1 ⟨rfl, hb⟩
      replace HT := Lib.hid (HT.out.step hb)
      replace HB := Lib.hid (below_trans HB.out hb)
      replace HI := Lib.hid (HI.out.step hb)
      replace HQ := Lib.hid (HQ.out.step hb)
      replace h0 := HT.out.c0
      replace h1 := HT.out.c1
      clear hb
      go_wp2_with fail
      with_reducible refine (HN.out _).mono ?_
      rintro e wX ⟨rfl, hw⟩
      have hw := hw.symm
      subst hw
      clear h0 h1
      go_wp2
      go_ret
      exact ⟨rfl, HB.out⟩
    | true =>
      rw [hk] at HN
      have hk2 := inB_iff.1 hk
      obtain ⟨j, rfl⟩ : ∃ j : Nat, k = (j : Int) := ⟨k.toNat, by omega⟩
      have hjl : j < zs.length := by omega
      rw [Int.toNat_natCast, show zs.getD j (-1) = zs[j] by simp [List.getD, hjl]]
      have hat := HA.out j hjl
      obtain ⟨b, o, e, _, hb, hc⟩ := HI.out.ints.at_ hjl
      subst e
      have HC := Lib.hid (One8.mk hc)
      clear hc hk hk2 HA
      generalize zs[j] = z at HC hat ⊢
      have hji : (j : Int) < (zs.length : Int) := by omega
      by_cases hz : 0 ≤ z
      · rw [decide_eq_true hz]
        go_enter Try.func90, Try.ntmps90
        go_wp2_with fail
        generalize w.alloc (.cells #[.slice (some ⟨b, o, none⟩) zs.length c, .int .i64 m] 35) = w0 at HT HB HI HQ HC ⊢
        have h0 := HT.out.c0
        have h1 := HT.out.c1
        with_reducible refine (HG.out _ HI.out HQ.out).mono ?_
        rintro e w1 ⟨rfl, hb⟩
        replace HT := Lib.hid (HT.out.step hb)
        replace HB := Lib.hid (below_trans HB.out hb)
        replace HI := Lib.hid (HI.out.step hb)
        replace HQ := Lib.hid (HQ.out.step hb)
        replace HC := Lib.hid (HC.out.step hb)
        replace h0 := HT.out.c0
        replace h1 := HT.out.c1
        clear hb
        have hc := HC.out.c
        go_wp2_with fail
        with_reducible refine (HN.out _).mono ?_
        rintro e wX ⟨rfl, hw⟩
        have hw := hw.symm
        subst hw
        go_wp2
        go_ret
        exact ⟨by first | rfl | (simp <;> omega), HB.out⟩
      · rw [decide_eq_false hz]
        go_enter Try.func90, Try.ntmps90
        go_wp2_with fail
        generalize w.alloc (.cells #[.slice (some ⟨b, o, none⟩) zs.length c, .int .i64 m] 35) = w0 at HT HB HI HQ HC ⊢
        have h0 := HT.out.c0
        have h1 := HT.out.c1
        with_reducible refine (HG.out _ HI.out HQ.out).mono ?_
        rintro e w1 ⟨rfl, hb⟩
        replace HT := Lib.hid (HT.out.step hb)
        replace HB := Lib.hid (below_trans HB.out hb)
        replace HI := Lib.hid (HI.out.step hb)
        replace HQ := Lib.hid (HQ.out.step hb)
        replace HC := Lib.hid (HC.out.step hb)
        replace h0 := HT.out.c0
        replace h1 := HT.out.c1
        clear hb
        have hc := HC.out.c
        go_wp2_with fail
        with_reducible refine (HN.out _).mono ?_
        rintro e wX ⟨rfl, hw⟩
        have hw := hw.symm
        subst hw
        go_wp2
        go_ret
        exact ⟨by first | rfl | (simp <;> omega), HB.out⟩
set_option maxRecDepth 100000 in
set_option maxHeartbeats 8000000 in
theorem secretAnswers_impl_no (A : Option Addr) (c lo hi : Nat) (zs : List Int) (m : Int) (A2 : Option Addr) (c2 lo2 hi2 : Nat) (qs : List Int) (k : Int) (w : World) (hS : Ins w lo hi A zs) (hQ : Ins w lo2 hi2 A2 qs) (hn : zs.length ≤ 1048576) (hn2 : qs.length ≤ 1048576) (hok : sOK zs m qs k = false) :
    Calls Try.prog 41 #[.agg #[.slice A zs.length c, .int .i64 m], .slice A2 qs.length c2, .int .i64 k] w fun e w' => ∃ B c', e = .returned (.tuple #[.slice B 0 c', .bool false]) ∧ BResT w' w.heap.size w'.heap.size B [] ∧ Below w.heap.size w w' := by
  have HT := Lib.hid (Two.new w (.slice A zs.length c) (.int .i64 m) 35 (w.heap.size) rfl)
  have HB := Lib.hid ((Below.refl w.heap.size w).alloc (Nat.le_refl _) (.cells #[.slice A zs.length c, .int .i64 m] 35))
  have HI := Lib.hid (hS.step HB.out)
  have HQ := Lib.hid (hQ.step HB.out)
  have HG := Lib.hid (fun W h h2 => areListedFor_any A c lo hi zs m A2 c2 lo2 hi2 qs k W h h2 hn hn2)
  rw [hok] at HG
  clear hS hQ hok
  go_enter Try.func41, Try.ntmps41
  go_wp2_with fail
  generalize w.alloc (.cells #[.slice A zs.length c, .int .i64 m] 35) = w0 at HT HB HI HQ ⊢
  have h0 := HT.out.c0
  have h1 := HT.out.c1
  with_reducible refine (HG.out _ HI.out HQ.out).mono ?_
  rintro e w1 ⟨rfl, hb⟩
  replace HT := Lib.hid (HT.out.step hb)
  replace HB := Lib.hid (below_trans HB.out hb)
  replace HI := Lib.hid (HI.out.step hb)
  replace HQ := Lib.hid (HQ.out.step hb)
  replace h0 := HT.out.c0
  replace h1 := HT.out.c1
  clear hb
  clear h0 h1
  go_wp2
  go_ret2
  first | exact ⟨_, _, rfl, (empty_resB8 _ _ HB.out.size).toT, HB.out.alloc HB.out.size _⟩ | exact ⟨_, ⟨_, rfl⟩, (empty_resB8 _ _ HB.out.size).toT, HB.out.alloc HB.out.size _⟩
set_option maxRecDepth 100000 in
set_option maxHeartbeats 8000000 in
theorem secretAnswers_spec_no (A : Option Addr) (c lo hi : Nat) (zs : List Int) (m : Int) (A2 : Option Addr) (c2 lo2 hi2 : Nat) (qs : List Int) (k : Int) (w : World) (hS : Ins w lo hi A zs) (hQ : Ins w lo2 hi2 A2 qs) (hn : zs.length ≤ 1048576) (hn2 : qs.length ≤ 1048576) (hok : sOK zs m qs k = false) :
    Calls Try.prog 40 #[.agg #[.slice A zs.length c, .int .i64 m], .slice A2 qs.length c2, .int .i64 k] w fun e w' => ∃ B c', e = .returned (.tuple #[.slice B 0 c', .bool false]) ∧ BResT w' w.heap.size w'.heap.size B [] ∧ Below w.heap.size w w' := by
  have HT := Lib.hid (Two.new w (.slice A zs.length c) (.int .i64 m) 35 (w.heap.size) rfl)
  have HB := Lib.hid ((Below.refl w.heap.size w).alloc (Nat.le_refl _) (.cells #[.slice A zs.length c, .int .i64 m] 35))
  have HI := Lib.hid (hS.step HB.out)
  have HQ := Lib.hid (hQ.step HB.out)
  have HG := Lib.hid (fun W h h2 => l8Secret_any A c lo hi zs m A2 c2 lo2 hi2 qs k W h h2 hn hn2)
  rw [hok] at HG
  clear hS hQ hok
  have hbe := (Below.refl _ (w.alloc (.cells #[.slice A zs.length c, .int .i64 m] 35))).alloc (Nat.le_refl _) (.cells #[] 4)
  have HRE := Lib.hid (empty_resB8 (w.alloc (.cells #[.slice A zs.length c, .int .i64 m] 35)) w.heap.size HB.out.size)
  replace HT := Lib.hid (HT.out.step hbe)
  replace HB := Lib.hid (below_trans HB.out hbe)
  replace HI := Lib.hid (HI.out.step hbe)
  replace HQ := Lib.hid (HQ.out.step hbe)
  clear hbe
  have hsz1 : (w.alloc (.cells #[.slice A zs.length c, .int .i64 m] 35)).heap.size = w.heap.size + 1 := by simp
  rw [hsz1] at HRE
  clear hsz1
  go_enter Try.func40, Try.ntmps40
  go_wp2_with fail
  generalize (w.alloc (.cells #[.slice A zs.length c, .int .i64 m] 35)).alloc (.cells #[] 4) = w0 at HT HB HI HQ HRE ⊢
  have h0 := HT.out.c0
  have h1 := HT.out.c1
  with_reducible refine (HG.out _ HI.out HQ.out).mono ?_
  rintro e w1 ⟨rfl, hb⟩
  replace HT := Lib.hid (HT.out.step hb)
  replace HB := Lib.hid (below_trans HB.out hb)
  replace HI := Lib.hid (HI.out.step hb)
  replace HQ := Lib.hid (HQ.out.step hb)
  replace HRE := Lib.hid (HRE.out.step hb)
  replace h0 := HT.out.c0
  replace h1 := HT.out.c1
  clear hb
  clear h0 h1
  go_wp2
  go_ret2
  first | exact ⟨_, _, rfl, (show BRes _ _ _ _ _ from ⟨HRE.out.own.top8 HRE.out.top, Nat.le_refl _⟩).toT, HB.out⟩ | exact ⟨_, ⟨_, rfl⟩, (show BRes _ _ _ _ _ from ⟨HRE.out.own.top8 HRE.out.top, Nat.le_refl _⟩).toT, HB.out⟩
set_option maxRecDepth 100000 in
set_option maxHeartbeats 8000000 in
theorem countSecretAnswers_impl_no (A : Option Addr) (c lo hi : Nat) (zs : List Int) (m : Int) (A2 : Option Addr) (c2 lo2 hi2 : Nat) (qs : List Int) (k : Int) (w : World) (hS : Ins w lo hi A zs) (hQ : Ins w lo2 hi2 A2 qs) (hn : zs.length ≤ 1048576) (hn2 : qs.length ≤ 1048576) (hok : sOK zs m qs k = false) :
    Calls Try.prog 46 #[.agg #[.slice A zs.length c, .int .i64 m], .slice A2 qs.length c2, .int .i64 k] w fun e w' => e = .returned (.tuple #[.int .i64 0, .bool false]) ∧ Below w.heap.size w w' := by
  have HT := Lib.hid (Two.new w (.slice A zs.length c) (.int .i64 m) 35 (w.heap.size) rfl)
  have HB := Lib.hid ((Below.refl w.heap.size w).alloc (Nat.le_refl _) (.cells #[.slice A zs.length c, .int .i64 m] 35))
  have HI := Lib.hid (hS.step HB.out)
  have HQ := Lib.hid (hQ.step HB.out)
  have HG := Lib.hid (fun W h h2 => areListedFor_any A c lo hi zs m A2 c2 lo2 hi2 qs k W h h2 hn hn2)
  rw [hok] at HG
  clear hS hQ hok
  go_enter Try.func46, Try.ntmps46
  go_wp2_with fail
  generalize w.alloc (.cells #[.slice A zs.length c, .int .i64 m] 35) = w0 at HT HB HI HQ ⊢
  have h0 := HT.out.c0
  have h1 := HT.out.c1
  with_reducible refine (HG.out _ HI.out HQ.out).mono ?_
  rintro e w1 ⟨rfl, hb⟩
  replace HT := Lib.hid (HT.out.step hb)
  replace HB := Lib.hid (below_trans HB.out hb)
  replace HI := Lib.hid (HI.out.step hb)
  replace HQ := Lib.hid (HQ.out.step hb)
  replace h0 := HT.out.c0
  replace h1 := HT.out.c1
  clear hb
  clear h0 h1
  go_wp2
  go_ret2
  exact ⟨rfl, HB.out⟩
set_option maxRecDepth 100000 in
set_option maxHeartbeats 8000000 in
theorem countSecretAnswers_spec_no (A : Option Addr) (c lo hi : Nat) (zs : List Int) (m : Int) (A2 : Option Addr) (c2 lo2 hi2 : Nat) (qs : List Int) (k : Int) (w : World) (hS : Ins w lo hi A zs) (hQ : Ins w lo2 hi2 A2 qs) (hn : zs.length ≤ 1048576) (hn2 : qs.length ≤ 1048576) (hok : sOK zs m qs k = false) :
    Calls Try.prog 45 #[.agg #[.slice A zs.length c, .int .i64 m], .slice A2 qs.length c2, .int .i64 k] w fun e w' => e = .returned (.tuple #[.int .i64 0, .bool false]) ∧ Below w.heap.size w w' := by
  have HT := Lib.hid (Two.new w (.slice A zs.length c) (.int .i64 m) 35 (w.heap.size) rfl)
  have HB := Lib.hid ((Below.refl w.heap.size w).alloc (Nat.le_refl _) (.cells #[.slice A zs.length c, .int .i64 m] 35))
  have HI := Lib.hid (hS.step HB.out)
  have HQ := Lib.hid (hQ.step HB.out)
  have HG := Lib.hid (fun W h h2 => l8Secret_any A c lo hi zs m A2 c2 lo2 hi2 qs k W h h2 hn hn2)
  rw [hok] at HG
  clear hS hQ hok
  go_enter Try.func45, Try.ntmps45
  go_wp2_with fail
  generalize w.alloc (.cells #[.slice A zs.length c, .int .i64 m] 35) = w0 at HT HB HI HQ ⊢
  have h0 := HT.out.c0
  have h1 := HT.out.c1
  with_reducible refine (HG.out _ HI.out HQ.out).mono ?_
  rintro e w1 ⟨rfl, hb⟩
  replace HT := Lib.hid (HT.out.step hb)
  replace HB := Lib.hid (below_trans HB.out hb)
  replace HI := Lib.hid (HI.out.step hb)
  replace HQ := Lib.hid (HQ.out.step hb)
  replace h0 := HT.out.c0
  replace h1 := HT.out.c1
  clear hb
  clear h0 h1
  go_wp2
  go_ret2
  exact ⟨rfl, HB.out⟩
/-- The answers that are true for a number. -/
def secB (qs : List Int) (j : Nat) : List Bool := qs.map fun q => inQ q j
theorem secB_len (qs : List Int) (j : Nat) : (secB qs j).length = qs.length := by simp [secB]
theorem secB_take (qs : List Int) (j k : Nat) (h : k < qs.length) : (secB qs j).take (k + 1) = (secB qs j).take k ++ [inQ qs[k] j] := by
  rw [List.take_succ_eq_append_getElem (by rw [secB_len]; exact h)]
  simp [secB]
theorem secB_row (w : World) (qs : List Int) (j : Nat) (hl : qs.length ≤ 8) (B : Nat) (hB : B ≤ w.heap.size) : BRes (w.alloc (.cells (bwv (twN qs j).testBit) 120)) B (w.alloc (.cells (bwv (twN qs j).testBit) 120)).heap.size none [] := ⟨.inl ⟨rfl, rfl⟩, Nat.le_refl _⟩
theorem shr_q8 (q : Int) (k : Nat) : (bits .and .i64 (q / 2 ^ k) 1 == 1) = inQ q k := rfl
theorem Int.pow_le_pow_right8 {n : Nat} (h : n ≤ 12) : (2 : Int) ^ n ≤ 4096 := by
  have : (2 : Nat) ^ n ≤ 2 ^ 12 := Nat.pow_le_pow_right (by omega) h
  have e : ((2 : Int) ^ n) = ((2 ^ n : Nat) : Int) := by norm_cast
  rw [e]
  omega
set_option maxRecDepth 100000 in
set_option maxHeartbeats 8000000 in
theorem secretAnswers_spec (A : Option Addr) (c lo hi : Nat) (zs : List Int) (m : Int) (A2 : Option Addr) (c2 lo2 hi2 : Nat) (qs : List Int) (k : Int) (w : World) (hS : Ins w lo hi A zs) (hQ : Ins w lo2 hi2 A2 qs) (j : Nat) (hs : Secret zs m qs k j) :
    Calls Try.prog 40 #[.agg #[.slice A zs.length c, .int .i64 m], .slice A2 qs.length c2, .int .i64 k] w fun e w' => ∃ B c', e = .returned (.tuple #[.slice B qs.length c', .bool true]) ∧ BResT w' w.heap.size w'.heap.size B (secB qs j) ∧ Below w.heap.size w w' := by
  have HT := Lib.hid (Two.new w (.slice A zs.length c) (.int .i64 m) 35 (w.heap.size) rfl)
  have HB := Lib.hid ((Below.refl w.heap.size w).alloc (Nat.le_refl _) (.cells #[.slice A zs.length c, .int .i64 m] 35))
  obtain ⟨i0, hi0, hz0, hz1, hz2⟩ := info_parts infoB8
  have hl := hs.l.len
  have h8 := hs.l.q8
  have HG := Lib.hid (fun W h h2 => l8Secret_any A c lo hi zs m A2 c2 lo2 hi2 qs k W h h2 (by omega) (by omega))
  rw [hs.ok] at HG
  have HOK := Lib.hid hs.l.ok
  have hjl := hs.lt
  have hkj := hs.k
  subst hkj
  have HI := Lib.hid (hS.step HB.out)
  have HQ := Lib.hid (hQ.step HB.out)
  have htop2 := hQ.top
  clear hS hQ hs
  have hbe := (Below.refl _ (w.alloc (.cells #[.slice A zs.length c, .int .i64 m] 35))).alloc (Nat.le_refl _) (.cells #[] 4)
  have HO := Lib.hid (B0_any (w.alloc (.cells #[.slice A zs.length c, .int .i64 m] 35)) w.heap.size HB.out.size)
  replace HT := Lib.hid (HT.out.step hbe)
  replace HB := Lib.hid (below_trans HB.out hbe)
  replace HI := Lib.hid (HI.out.step hbe)
  replace HQ := Lib.hid (HQ.out.step hbe)
  clear hbe
  have hsz1 : (w.alloc (.cells #[.slice A zs.length c, .int .i64 m] 35)).heap.size = w.heap.size + 1 := by simp
  rw [hsz1] at HO
  clear hsz1
  go_enter Try.func40, Try.ntmps40
  go_wp2_with fail
  generalize (w.alloc (.cells #[.slice A zs.length c, .int .i64 m] 35)).alloc (.cells #[] 4) = w0 at HT HB HI HQ HO ⊢
  have h0 := HT.out.c0
  have h1 := HT.out.c1
  with_reducible refine (HG.out _ HI.out HQ.out).mono ?_
  rintro e w1 ⟨rfl, hb⟩
  replace HT := Lib.hid (HT.out.step hb)
  replace HB := Lib.hid (below_trans HB.out hb)
  replace HI := Lib.hid (HI.out.step hb)
  replace HQ := Lib.hid (HQ.out.step hb)
  replace HO := Lib.hid (past8 HO.out (Past.of_below hb))
  replace h0 := HT.out.c0
  replace h1 := HT.out.c1
  clear hb
  clear h0 h1
  clear HT HI
  clear HG
  go_wp2_with fail
  go_loopw [8, 9] (fun ov i wr => ∃ (p : Nat), p ≤ qs.length ∧ i = .int .i64 (p : Int) ∧ Hid (wr.ownsRow w.heap.size 4 1 ov ((secB qs j).take p).length (((secB qs j).take p).map Value.bool)) ∧ Hid (Ins wr lo2 hi2 A2 qs) ∧ Hid (Below w.heap.size w wr)) (fun _ i _ => qs.length - (intOf i).toNat)
  case atStart => exact ⟨0, Nat.zero_le _, rfl, HO, HQ, HB⟩
  case round =>
    clear HO HQ HB
    obtain ⟨p, hp, rfl, HO, HQ, HB⟩ := hrel
    by_cases hlt : p < qs.length
    · obtain ⟨b, o, rfl, _, hb, hc⟩ := HQ.out.ints.at_ hlt
      have hki : (p : Int) < (qs.length : Int) := by omega
      have HT := Lib.hid (secB_take qs j p hlt)
      have hlen : ((secB qs j).take p).length ≤ 8 := by rw [List.length_take, secB_len]; omega
      have hq := (qOK_iff.1 (HOK.out _ (List.getElem_mem hlt))).2
      have hpow : (2 : Int) ^ (zs.length : Int).toNat ≤ 4096 := by rw [Int.toNat_natCast]; exact Int.pow_le_pow_right8 hl.2
      generalize (secB qs j).take p = L at HO HT hlen
      generalize qs[p] = q at hc HT hq
      have hq0 : 0 ≤ q ∧ q < 4096 := by omega
      clear hq hpow
      have hbit := shr_q8 q j
      have hj12 : j < 12 := by omega
      have hown := HO.out
      have hws := HB.out.size
      generalize hx : inQ q j = x at HT hbit
      clear hx
      go_wp2_with (at_builtin; refine wpList_append_own _ rfl _ _ 66 rfl w.heap.size 4 i0 (.bool false) 1 1 Try.underlying66 hi0 hz0 hz1 hz2 rfl (by decide) _ _ _ rfl (hown.alloc _) ⟨_, 0, none⟩ 1 1 [.bool x] rfl rfl (cell_one_new _ _ _) (by simp [Value.oneCell']) (by unfold maxLen; omega) (by omega) (by simp; omega) ?_; intro v' w5 hown' hgrow _)
      have HO2 := Lib.hid (bool_snoc8 hown' rfl)
      have hps := Past.grown hown hgrow
      have HQ2 := Lib.hid (HQ.out.past hps htop2)
      have HB2 := Lib.hid (HB.out.trans (hps.below (Nat.le_refl _) hws))
      clear hown' hgrow hown HO hps HB HQ hbit
      go_wp2
      go_roundw
      case rel => exact ⟨p + 1, by omega, by go_num, by rw [HT.out]; exact HO2, HQ2, HB2⟩
      case measure => simp [intOf]; omega
    · obtain rfl : p = qs.length := by omega
      go_wp2
      go_ret2
      have e := List.take_of_length_le (l := secB qs j) (i := qs.length) (by rw [secB_len]; exact Nat.le_refl _)
      rw [e] at HO
      obtain ⟨Ab, cb, hv, hR⟩ := own_resB HO.out rfl
      rw [hv, secB_len]
      exact ⟨Ab, cb, rfl, hR.toT, HB.out⟩
set_option maxRecDepth 100000 in
set_option maxHeartbeats 8000000 in
theorem secretAnswers_impl (A : Option Addr) (c lo hi : Nat) (zs : List Int) (m : Int) (A2 : Option Addr) (c2 lo2 hi2 : Nat) (qs : List Int) (k : Int) (w : World) (hS : Ins w lo hi A zs) (hQ : Ins w lo2 hi2 A2 qs) (j : Nat) (hs : Secret zs m qs k j) :
    Calls Try.prog 41 #[.agg #[.slice A zs.length c, .int .i64 m], .slice A2 qs.length c2, .int .i64 k] w fun e w' => ∃ B c', e = .returned (.tuple #[.slice B qs.length c', .bool true]) ∧ BResT w' w.heap.size w'.heap.size B (secB qs j) ∧ Below w.heap.size w w' := by
  have HT := Lib.hid (Two.new w (.slice A zs.length c) (.int .i64 m) 35 (w.heap.size) rfl)
  have HB := Lib.hid ((Below.refl w.heap.size w).alloc (Nat.le_refl _) (.cells #[.slice A zs.length c, .int .i64 m] 35))
  have hl := hs.l.len
  have h8 := hs.l.q8
  have HG := Lib.hid (fun W h h2 => areListedFor_any A c lo hi zs m A2 c2 lo2 hi2 qs k W h h2 (by omega) (by omega))
  rw [hs.ok] at HG
  have hjl := hs.lt
  have hkj := hs.k
  subst hkj
  have HTA := Lib.hid (fun W h => trueAnswers_any A2 c2 lo2 hi2 qs j W h (by omega) (by omega))
  have HBW := Lib.hid (fun i (x : Bool) (hx : (secB qs j)[i]? = some x) => show (bwv (twN qs j).testBit)[i]? = some (Value.bool x) from by
    have hi : i < qs.length := by
      rcases Nat.lt_or_ge i qs.length with h1 | h1
      · exact h1
      · rw [List.getElem?_eq_none (by rw [secB_len]; exact h1)] at hx; cases hx
    rw [bwv_at _ (by omega)]
    unfold twN
    rw [ofB_bit, decide_eq_true hi, Bool.true_and, show qs.getD i 0 = qs[i] by simp [List.getD, hi]]
    have e : (secB qs j)[i]? = some (inQ qs[i] j) := by simp [secB, hi]
    rw [e] at hx
    injection hx with hx
    rw [hx])
  have HI := Lib.hid (hS.step HB.out)
  have HQ := Lib.hid (hQ.step HB.out)
  clear hS hQ hs
  go_enter Try.func41, Try.ntmps41
  go_wp2_with fail
  generalize w.alloc (.cells #[.slice A zs.length c, .int .i64 m] 35) = w0 at HT HB HI HQ ⊢
  have h0 := HT.out.c0
  have h1 := HT.out.c1
  with_reducible refine (HG.out _ HI.out HQ.out).mono ?_
  rintro e w1 ⟨rfl, hb⟩
  replace HT := Lib.hid (HT.out.step hb)
  replace HB := Lib.hid (below_trans HB.out hb)
  replace HI := Lib.hid (HI.out.step hb)
  replace HQ := Lib.hid (HQ.out.step hb)
  replace h0 := HT.out.c0
  replace h1 := HT.out.c1
  clear hb
  clear HG
  go_wp2_with fail
  with_reducible refine (HTA.out w1 HQ.out).mono ?_
  rintro e w2 ⟨rfl, hb⟩
  replace HT := Lib.hid (HT.out.step hb)
  replace HB := Lib.hid (below_trans HB.out hb)
  replace HI := Lib.hid (HI.out.step hb)
  replace HQ := Lib.hid (HQ.out.step hb)
  replace h0 := HT.out.c0
  replace h1 := HT.out.c1
  clear hb
  clear h0 h1
  have HW2S := Lib.hid HB.out.size
  have HZ := Lib.hid (show W14 (w2.alloc (.cells #[.bool false, .bool false, .bool false, .bool false, .bool false, .bool false, .bool false, .bool false, .bool false, .bool false, .bool false, .bool false, .bool false, .bool false] 120)) w2.heap.size (fun _ => false) from by rw [← bwv_zero]; exact W14.new w2 (fun _ => false) _ rfl)
  have HQw := Lib.hid (HZ.out.put (twN qs j).testBit)
  have HBn := Lib.hid (below_setRow ((Below.refl w2.heap.size w2).alloc (Nat.le_refl _) (.cells #[.bool false, .bool false, .bool false, .bool false, .bool false, .bool false, .bool false, .bool false, .bool false, .bool false, .bool false, .bool false, .bool false, .bool false] 120)) (g := w2.heap.size) (Nat.le_refl _) (bwv (twN qs j).testBit))
  replace HB := Lib.hid (below_trans HB.out HBn.out)
  have hws := HB.out.size
  have hq0 : (0 : Int) ≤ (qs.length : Int) := by omega
  have hq14 : (qs.length : Int) ≤ 14 := by omega
  have hw2 : w.heap.size ≤ w2.heap.size := HW2S.out
  clear HBn
  go_wp2_with (first | (with_reducible refine wpList_store14 rfl (.tmp 8) (.tmp 17) rfl w2.heap.size (fun _ => false) (twN qs j).testBit rfl rfl HZ.out ?_))
  go_ret2
  generalize ((w2.alloc (.cells #[.bool false, .bool false, .bool false, .bool false, .bool false, .bool false, .bool false, .bool false, .bool false, .bool false, .bool false, .bool false, .bool false, .bool false] 120)).setRow w2.heap.size (bwv (twN qs j).testBit)) = w3 at HQw HB ⊢
  exact ⟨_, _, rfl, ⟨.inr ⟨w2.heap.size, _, _, rfl, hw2, HQw.out.lt, HQw.out.row, by rw [bwv_size, secB_len]; omega, HBW.out⟩, Nat.le_refl _⟩, HB.out⟩
end Go.Proofs.Ytpjoljaamakagaa
