/- Vain questions. -/
import Derived.Test.YtpjoljaamakagaaOpenN
namespace Go.Proofs.Ytpjoljaamakagaa
open Go.RowKit Go.ChangeShapes Go.WideShapes
set_option linter.unusedVariables false

theorem bits_1 (x : Int) : bits .and .i64 x 1 = 0 ∨ bits .and .i64 x 1 = 1 := by
  have hx : (BitVec.ofInt 64 x &&& BitVec.ofInt 64 1).toNat ≤ 1 := by
    rw [BitVec.toNat_and]
    exact Nat.le_trans Nat.and_le_right (by decide)
  have : bits .and .i64 x 1 = IntKind.i64.wrap ((BitVec.ofInt 64 x &&& BitVec.ofInt 64 1).toNat : Int) := rfl
  rw [this]
  rcases Nat.le_one_iff_eq_zero_or_eq_one.1 hx with h | h <;> rw [h]
  · exact .inl (by decide +kernel)
  · exact .inr (by decide +kernel)
theorem bit_yes {q : Int} {i : Nat} (h : inQ q i = true) : bits .and .i64 (q / 2 ^ i) 1 = 1 := by
  rcases bits_1 (q / 2 ^ i) with h0 | h0
  · unfold inQ at h; rw [h0] at h; cases h
  · exact h0
theorem bit_no {q : Int} {i : Nat} (h : inQ q i = false) : bits .and .i64 (q / 2 ^ i) 1 = 0 := by
  rcases bits_1 (q / 2 ^ i) with h0 | h0
  · exact h0
  · unfold inQ at h; rw [h0] at h; cases h
/-- How many of the first k numbers of l are in a question. -/
def inTo (q : Int) (l : List Int) : Nat → Nat
  | 0 => 0
  | k + 1 => inTo q l k + (if inQ q (l.getD k 0).toNat then 1 else 0)
theorem inTo_le (q : Int) (l : List Int) : ∀ k, inTo q l k ≤ k
  | 0 => Nat.le_refl _
  | k + 1 => by have := inTo_le q l k; rw [inTo]; split <;> omega
def vain (q : Int) (l : List Int) : Bool := decide (inTo q l l.length = 0 ∨ inTo q l l.length = l.length)
theorem opens_lt {zs : List Int} {x : Int} (h : x ∈ opens zs) : 0 ≤ x ∧ x < (zs.length : Int) := filt_mem h

set_option maxRecDepth 100000 in
set_option maxHeartbeats 4000000 in
theorem l2Vain_any (A : Option Addr) (c lo hi : Nat) (zs : List Int) (m q : Int) (w : World) (hS : Ins w lo hi A zs) (hn : zs.length ≤ 12) :
    Calls Try.prog 121 #[.agg #[.slice A zs.length c, .int .i64 m], .int .i64 q] w fun e w' => e = .returned (.bool (vain q (opens zs))) ∧ Below w.heap.size w w' := by
  have HX0 := Lib.hid (Arg.next (Below.refl w.heap.size w) (.slice A zs.length c) (.int .i64 m) 35 w.heap.size rfl)
  have HI0 := Lib.hid (hS.step HX0.out.below)
  have HM := Lib.hid (fun x (h : x ∈ opens zs) => opens_lt h)
  have hle := opens_len zs
  clear hS
  go_enter Try.func121, Try.ntmps121
  go_wp2_with fail
  generalize w.alloc (.cells #[.slice A zs.length c, .int .i64 m] 35) = wa at HX0 HI0 ⊢
  refine (l2Open_any A c lo hi zs m wa HI0.out hn).mono ?_
  rintro e wb ⟨v, rfl, ho, hb⟩
  have HB := Lib.hid (below_trans HX0.out.below hb)
  obtain ⟨B, c', rfl, _, hr⟩ := own_res ho rfl
  have HR := Lib.hid hr.ins
  clear hb ho HX0 HI0 hr
  generalize hlz : opens zs = l at HM HR hle ⊢
  have HL := Lib.hid hlz
  clear hlz
  go_wp2_with fail
  go_loopw [6, 7] (fun o i wr => ∃ (k : Nat), k ≤ l.length ∧ i = .int .i64 k ∧ o = .int .i64 (inTo q l k : Int) ∧ wr = wb) (fun _ i _ => l.length - (intOf i).toNat)
  case atStart => exact ⟨0, Nat.zero_le _, rfl, rfl, rfl⟩
  case round =>
    obtain ⟨k, hk, rfl, rfl, rfl⟩ := hrel
    have hin := inTo_le q l k
    by_cases hlt : k < l.length
    · obtain ⟨b, o, rfl, _, _, hc⟩ := HR.out.ints.at_ hlt
      have hx := HM.out l[k] (List.getElem_mem hlt)
      obtain ⟨i, hi⟩ : ∃ i : Nat, l[k] = (i : Int) := ⟨l[k].toNat, by omega⟩
      have hg : (l.getD k 0).toNat = i := by rw [show l.getD k 0 = l[k] by simp [List.getD, hlt], hi, Int.toNat_natCast]
      rw [hi] at hc hx
      clear hi
      cases hq : inQ q i with
      | true =>
        have hbit := bit_yes hq
        have HF : Hid (inTo q l (k + 1) = inTo q l k + 1) := by show _ = _; rw [inTo, hg, hq]; rfl
        clear hq hg
        generalize inTo q l k = p at HF hin ⊢
        go_wp2
        go_roundw
        case rel => exact ⟨k + 1, by omega, by go_num, by rw [HF.out]; go_num, by first | rfl | trivial⟩
        case measure => simp [intOf]; omega
      | false =>
        have hbit := bit_no hq
        have HF : Hid (inTo q l (k + 1) = inTo q l k) := by show _ = _; rw [inTo, hg, hq]; rfl
        clear hq hg
        generalize inTo q l k = p at HF hin ⊢
        go_wp2
        go_roundw
        case rel => exact ⟨k + 1, by omega, by go_num, by rw [HF.out]; try go_num, by first | rfl | trivial⟩
        case measure => simp [intOf]; omega
    · obtain rfl : k = l.length := by omega
      have HT : Hid (inTo q l l.length = 0 ∨ inTo q l l.length = l.length → vain q l = true) := fun h => decide_eq_true h
      have HF : Hid (¬ (inTo q l l.length = 0 ∨ inTo q l l.length = l.length) → vain q l = false) := fun h => decide_eq_false h
      generalize inTo q l l.length = p at hin HT HF ⊢
      by_cases h0 : p = 0
      · have HV := Lib.hid (HT.out (.inl h0))
        subst h0
        clear HT HF
        go_wp2
        go_ret
        rw [HL.out, HV.out]
        exact ⟨rfl, HB.out⟩
      · by_cases h1 : p = l.length
        · have HV := Lib.hid (HT.out (.inr h1))
          clear HT HF
          subst h1
          have e1 : ((l.length : Int) == 0) = false := by rw [beq_eq_false_iff_ne]; omega
          clear h0 hin
          go_wp2
          go_ret
          rw [HL.out, HV.out]
          exact ⟨rfl, HB.out⟩
        · have HV := Lib.hid (HF.out (by omega))
          clear HT HF
          have e1 : ((p : Int) == 0) = false := by rw [beq_eq_false_iff_ne]; omega
          have e2 : ((p : Int) == (l.length : Int)) = false := by rw [beq_eq_false_iff_ne]; omega
          go_wp2
          go_ret
          rw [HL.out, HV.out]
          first | exact ⟨rfl, HB.out⟩ | (rw [e2]; exact ⟨rfl, HB.out⟩)

set_option maxRecDepth 100000 in
set_option maxHeartbeats 4000000 in
theorem vainQuestion_impl (A : Option Addr) (c lo hi : Nat) (zs : List Int) (m q : Int) (w : World) (hS : Ins w lo hi A zs) (hst : isSt zs m = true) (hq : qOK zs.length q = true) :
    Calls Try.prog 147 #[.agg #[.slice A zs.length c, .int .i64 m], .int .i64 q] w fun e w' => e = .returned (.tuple #[.bool (vain q (opens zs)), .bool true]) ∧ Below w.heap.size w w' := by
  have hn := (isSt_len hst).2.1
  have HX0 := Lib.hid (Arg.next (Below.refl w.heap.size w) (.slice A zs.length c) (.int .i64 m) 35 w.heap.size rfl)
  have HI0 := Lib.hid (hS.step HX0.out.below)
  have HM := Lib.hid (fun x (h : x ∈ opens zs) => opens_lt h)
  have hle := opens_len zs
  have HQ := Lib.hid (fun W => isQuestion_any (zs.length : Int) q W)
  rw [hq] at HQ
  have HON := Lib.hid (fun W h => openNumbers_impl A c lo hi zs m W h hst)
  clear hS hq hst
  go_enter Try.func147, Try.ntmps147
  go_wp2_with fail
  generalize w.alloc (.cells #[.slice A zs.length c, .int .i64 m] 35) = wa at HX0 HI0 ⊢
  refine (HON.out wa HI0.out).mono ?_
  rintro e wb ⟨v, rfl, ho, hb⟩
  have HX := Lib.hid (HX0.out.step hb)
  have HB := Lib.hid HX.out.below
  obtain ⟨B, c', rfl, _, hr⟩ := own_res ho rfl
  have HR := Lib.hid hr.ins
  clear hb ho HX0 HI0 hr HON
  have h0 := HX.out.c0
  generalize hlz : opens zs = l at HM HR hle ⊢
  have HL := Lib.hid hlz
  clear hlz
  go_wp2_with fail
  refine (HQ.out wb).mono ?_
  rintro e wc ⟨rfl, hw⟩
  subst hw
  go_wp2_with fail
  go_loopw [8, 28] (fun o i wr => ∃ (k : Nat), k ≤ l.length ∧ i = .int .i64 k ∧ o = .int .i64 (inTo q l k : Int) ∧ wr = wc) (fun _ i _ => l.length - (intOf i).toNat)
  case atStart => exact ⟨0, Nat.zero_le _, rfl, rfl, rfl⟩
  case round =>
    obtain ⟨k, hk, rfl, rfl, rfl⟩ := hrel
    have hin := inTo_le q l k
    by_cases hlt : k < l.length
    · obtain ⟨b, o, rfl, _, _, hc⟩ := HR.out.ints.at_ hlt
      have hx := HM.out l[k] (List.getElem_mem hlt)
      obtain ⟨i, hi⟩ : ∃ i : Nat, l[k] = (i : Int) := ⟨l[k].toNat, by omega⟩
      have hg : (l.getD k 0).toNat = i := by rw [show l.getD k 0 = l[k] by simp [List.getD, hlt], hi, Int.toNat_natCast]
      rw [hi] at hc hx
      clear hi
      have HIQ := Lib.hid (fun W => inQuestion_any q i W (by omega))
      cases hq : inQ q i with
      | true =>
        have HF : Hid (inTo q l (k + 1) = inTo q l k + 1) := by show _ = _; rw [inTo, hg, hq]; rfl
        rw [hq] at HIQ
        clear hq hg
        generalize inTo q l k = p at HF hin ⊢
        go_wp2_with fail
        refine (HIQ.out _).mono ?_
        rintro e w5 ⟨rfl, hw⟩
        subst hw
        go_wp2
        go_roundw
        case rel => exact ⟨k + 1, by omega, by go_num, by rw [HF.out]; go_num, by first | rfl | trivial⟩
        case measure => simp [intOf]; omega
      | false =>
        have HF : Hid (inTo q l (k + 1) = inTo q l k) := by show _ = _; rw [inTo, hg, hq]; rfl
        rw [hq] at HIQ
        clear hq hg
        generalize inTo q l k = p at HF hin ⊢
        go_wp2_with fail
        refine (HIQ.out _).mono ?_
        rintro e w5 ⟨rfl, hw⟩
        subst hw
        go_wp2
        go_roundw
        case rel => exact ⟨k + 1, by omega, by go_num, by rw [HF.out]; try go_num, by first | rfl | trivial⟩
        case measure => simp [intOf]; omega
    · obtain rfl : k = l.length := by omega
      have HT : Hid (inTo q l l.length = 0 ∨ inTo q l l.length = l.length → vain q l = true) := fun h => decide_eq_true h
      have HF : Hid (¬ (inTo q l l.length = 0 ∨ inTo q l l.length = l.length) → vain q l = false) := fun h => decide_eq_false h
      generalize inTo q l l.length = p at hin HT HF ⊢
      by_cases h0 : p = 0
      · have HV := Lib.hid (HT.out (.inl h0))
        subst h0
        clear HT HF
        go_wp2
        go_ret2
        rw [HL.out, HV.out]
        exact ⟨rfl, HB.out⟩
      · by_cases h1 : p = l.length
        · have HV := Lib.hid (HT.out (.inr h1))
          clear HT HF
          subst h1
          have e1 : ((l.length : Int) == 0) = false := by rw [beq_eq_false_iff_ne]; omega
          clear h0 hin
          go_wp2
          go_ret2
          rw [HL.out, HV.out]
          exact ⟨rfl, HB.out⟩
        · have HV := Lib.hid (HF.out (by omega))
          clear HT HF
          have e1 : ((p : Int) == 0) = false := by rw [beq_eq_false_iff_ne]; omega
          have e2 : ((p : Int) == (l.length : Int)) = false := by rw [beq_eq_false_iff_ne]; omega
          go_wp2
          go_ret2
          rw [HL.out, HV.out]
          first | exact ⟨rfl, HB.out⟩ | (rw [e2]; exact ⟨rfl, HB.out⟩)

set_option maxHeartbeats 1000000 in
theorem vainQuestion_impl_no (A : Option Addr) (c lo hi : Nat) (zs : List Int) (m q : Int) (w : World) (hS : Ins w lo hi A zs) (hl : zs.length ≤ 1048576) (h : isSt zs m = false ∨ qOK zs.length q = false) :
    Calls Try.prog 147 #[.agg #[.slice A zs.length c, .int .i64 m], .int .i64 q] w fun e w' => e = .returned (.tuple #[.bool false, .bool false]) ∧ Below w.heap.size w w' := by
  have HX0 := Lib.hid (Arg.next (Below.refl w.heap.size w) (.slice A zs.length c) (.int .i64 m) 35 w.heap.size rfl)
  have HI0 := Lib.hid (hS.step HX0.out.below)
  cases hst : isSt zs m with
  | false =>
    have HON := Lib.hid (fun W h => openNumbers_no A c lo hi zs m W h hl hst)
    clear hS hst h
    go_enter Try.func147, Try.ntmps147
    go_wp2_with fail
    generalize w.alloc (.cells #[.slice A zs.length c, .int .i64 m] 35) = wa at HX0 HI0 ⊢
    refine (HON.out wa HI0.out).mono ?_
    rintro e wb ⟨B, rfl, _, hb⟩
    have HB := Lib.hid (below_trans HX0.out.below hb)
    clear hb
    go_wp2
    go_ret2
    exact ⟨rfl, HB.out⟩
  | true =>
    rw [hst] at h
    have hq : qOK zs.length q = false := by simpa using h
    have HON := Lib.hid (fun W h => openNumbers_impl A c lo hi zs m W h hst)
    have HQ := Lib.hid (fun W => isQuestion_any (zs.length : Int) q W)
    rw [hq] at HQ
    clear hS hst h hq
    go_enter Try.func147, Try.ntmps147
    go_wp2_with fail
    generalize w.alloc (.cells #[.slice A zs.length c, .int .i64 m] 35) = wa at HX0 HI0 ⊢
    refine (HON.out wa HI0.out).mono ?_
    rintro e wb ⟨v, rfl, ho, hb⟩
    obtain ⟨B, c', rfl, _, hr⟩ := own_res ho rfl
    have HX := Lib.hid (HX0.out.step hb)
    clear hb ho hr
    have h0 := HX.out.c0
    go_wp2_with fail
    refine (HQ.out wb).mono ?_
    rintro e wc ⟨rfl, hw⟩
    subst hw
    go_wp2
    go_ret2
    exact ⟨rfl, HX.out.below⟩
end Go.Proofs.Ytpjoljaamakagaa
