/- Short states: which ones are, their numbers, what is behind a comparison. -/
import Derived.Test.YtopgccficjkenaaL6M
import Derived.Test.YtopgccficjkenaaAfter2
namespace Go.Proofs.Ytopgccficjkenaa
open Go.RowKit Go.ChangeShapes Go.WideShapes
set_option linter.unusedVariables false

/-- Which states are short. -/
def shortB (zs : List Int) (m : Int) : Bool := isSt zs m && decide (zs.length ≤ 5) && decide (m ≤ 1)
theorem shortB_no {zs : List Int} {m : Int} (h : isSt zs m = false) : shortB zs m = false := by simp [shortB, h]
theorem shortB_l {zs : List Int} {m : Int} (h : ¬ zs.length ≤ 5) : shortB zs m = false := by simp [shortB, h]
theorem shortB_m {zs : List Int} {m : Int} (h : ¬ m ≤ 1) : shortB zs m = false := by simp [shortB, h]
theorem shortB_yes {zs : List Int} {m : Int} (h : isSt zs m = true) (h5 : zs.length ≤ 5) (h1 : m ≤ 1) : shortB zs m = true := by simp [shortB, h, h5, h1]
theorem shortB_iff {zs : List Int} {m : Int} : shortB zs m = true ↔ ∃ M : Nat, m = (M : Int) ∧ Short M zs := by
  constructor
  · intro h
    simp only [shortB, Bool.and_eq_true, decide_eq_true_eq] at h
    have hl := isSt_len h.1.1
    obtain ⟨M, rfl⟩ : ∃ M : Nat, m = (M : Int) := ⟨m.toNat, by omega⟩
    exact ⟨M, rfl, Short.of h.1.1 h.1.2 (by omega)⟩
  · rintro ⟨M, rfl, h⟩
    exact shortB_yes h.valid h.len (by have := h.m; omega)

set_option maxHeartbeats 1000000 in
theorem l6Short_any (A : Option Addr) (c lo hi : Nat) (zs : List Int) (m : Int) (w : World) (hS : Ins w lo hi A zs) (hn : zs.length ≤ 1048576) :
    Calls Try.prog 117 #[.agg #[.slice A zs.length c, .int .i64 m]] w fun e w' => e = .returned (.bool (shortB zs m)) ∧ Below w.heap.size w w' := by
  have HX := Lib.hid (Arg.next (Below.refl w.heap.size w) (.slice A zs.length c) (.int .i64 m) 26 w.heap.size rfl)
  have HI := Lib.hid (hS.step HX.out.below)
  have HC := Lib.hid (fun W h => l2State_any A c lo hi zs m W h hn)
  have hh0 := HX.out.c0
  have hh1 := HX.out.c1
  clear hS
  cases hst : isSt zs m with
  | false =>
    rw [shortB_no hst]
    rw [hst] at HC
    clear hst
    go_enter Try.func117, Try.ntmps117
    go_wp2_with fail
    generalize w.alloc (.cells #[.slice A zs.length c, .int .i64 m] 26) = w0 at HX HI hh0 hh1 ⊢
    refine (HC.out w0 HI.out).mono ?_
    rintro e w1 ⟨rfl, hb⟩
    replace HX := Lib.hid (HX.out.step hb)
    replace HI := Lib.hid (HI.out.step hb)
    clear hb
    replace hh0 := HX.out.c0
    replace hh1 := HX.out.c1
    go_wp2
    go_ret
    exact ⟨rfl, HX.out.below⟩
  | true =>
    by_cases h5 : zs.length ≤ 5
    · by_cases h1 : m ≤ 1
      · have h5' : (zs.length : Int) ≤ 5 := by omega
        rw [shortB_yes hst h5 h1]
        rw [hst] at HC
        clear hst
        go_enter Try.func117, Try.ntmps117
        go_wp2_with fail
        generalize w.alloc (.cells #[.slice A zs.length c, .int .i64 m] 26) = w0 at HX HI hh0 hh1 ⊢
        refine (HC.out w0 HI.out).mono ?_
        rintro e w1 ⟨rfl, hb⟩
        replace HX := Lib.hid (HX.out.step hb)
        replace HI := Lib.hid (HI.out.step hb)
        clear hb
        replace hh0 := HX.out.c0
        replace hh1 := HX.out.c1
        go_wp2
        go_ret
        first | exact ⟨rfl, HX.out.below⟩ | exact ⟨by simp; omega, HX.out.below⟩ | exact ⟨by simp [h1], HX.out.below⟩
      · have h5' : (zs.length : Int) ≤ 5 := by omega
        rw [shortB_m h1]
        rw [hst] at HC
        clear hst
        go_enter Try.func117, Try.ntmps117
        go_wp2_with fail
        generalize w.alloc (.cells #[.slice A zs.length c, .int .i64 m] 26) = w0 at HX HI hh0 hh1 ⊢
        refine (HC.out w0 HI.out).mono ?_
        rintro e w1 ⟨rfl, hb⟩
        replace HX := Lib.hid (HX.out.step hb)
        replace HI := Lib.hid (HI.out.step hb)
        clear hb
        replace hh0 := HX.out.c0
        replace hh1 := HX.out.c1
        go_wp2
        go_ret
        first | exact ⟨rfl, HX.out.below⟩ | exact ⟨by simp; omega, HX.out.below⟩ | exact ⟨by simp [h1], HX.out.below⟩
    · have h5' : ¬ (zs.length : Int) ≤ 5 := by omega
      rw [shortB_l h5]
      rw [hst] at HC
      clear hst
      go_enter Try.func117, Try.ntmps117
      go_wp2_with fail
      generalize w.alloc (.cells #[.slice A zs.length c, .int .i64 m] 26) = w0 at HX HI hh0 hh1 ⊢
      refine (HC.out w0 HI.out).mono ?_
      rintro e w1 ⟨rfl, hb⟩
      replace HX := Lib.hid (HX.out.step hb)
      replace HI := Lib.hid (HI.out.step hb)
      clear hb
      replace hh0 := HX.out.c0
      replace hh1 := HX.out.c1
      go_wp2
      go_ret
      first | exact ⟨rfl, HX.out.below⟩ | exact ⟨by simp; omega, HX.out.below⟩ | exact ⟨by simp [h5], HX.out.below⟩
set_option maxHeartbeats 1000000 in
theorem isShort_any (A : Option Addr) (c lo hi : Nat) (zs : List Int) (m : Int) (w : World) (hS : Ins w lo hi A zs) (hn : zs.length ≤ 1048576) :
    Calls Try.prog 116 #[.agg #[.slice A zs.length c, .int .i64 m]] w fun e w' => e = .returned (.bool (shortB zs m)) ∧ Below w.heap.size w w' := by
  have HX := Lib.hid (Arg.next (Below.refl w.heap.size w) (.slice A zs.length c) (.int .i64 m) 26 w.heap.size rfl)
  have HI := Lib.hid (hS.step HX.out.below)
  have HC := Lib.hid (fun W h => isState_impl A c lo hi zs m W h hn)
  have hh0 := HX.out.c0
  have hh1 := HX.out.c1
  clear hS
  cases hst : isSt zs m with
  | false =>
    rw [shortB_no hst]
    rw [hst] at HC
    clear hst
    go_enter Try.func116, Try.ntmps116
    go_wp2_with fail
    generalize w.alloc (.cells #[.slice A zs.length c, .int .i64 m] 26) = w0 at HX HI hh0 hh1 ⊢
    refine (HC.out w0 HI.out).mono ?_
    rintro e w1 ⟨rfl, hb⟩
    replace HX := Lib.hid (HX.out.step hb)
    replace HI := Lib.hid (HI.out.step hb)
    clear hb
    replace hh0 := HX.out.c0
    replace hh1 := HX.out.c1
    go_wp2
    go_ret
    exact ⟨rfl, HX.out.below⟩
  | true =>
    by_cases h5 : zs.length ≤ 5
    · by_cases h1 : m ≤ 1
      · have h5' : (zs.length : Int) ≤ 5 := by omega
        rw [shortB_yes hst h5 h1]
        rw [hst] at HC
        clear hst
        go_enter Try.func116, Try.ntmps116
        go_wp2_with fail
        generalize w.alloc (.cells #[.slice A zs.length c, .int .i64 m] 26) = w0 at HX HI hh0 hh1 ⊢
        refine (HC.out w0 HI.out).mono ?_
        rintro e w1 ⟨rfl, hb⟩
        replace HX := Lib.hid (HX.out.step hb)
        replace HI := Lib.hid (HI.out.step hb)
        clear hb
        replace hh0 := HX.out.c0
        replace hh1 := HX.out.c1
        go_wp2
        go_ret
        first | exact ⟨rfl, HX.out.below⟩ | exact ⟨by simp; omega, HX.out.below⟩ | exact ⟨by simp [h1], HX.out.below⟩
      · have h5' : (zs.length : Int) ≤ 5 := by omega
        rw [shortB_m h1]
        rw [hst] at HC
        clear hst
        go_enter Try.func116, Try.ntmps116
        go_wp2_with fail
        generalize w.alloc (.cells #[.slice A zs.length c, .int .i64 m] 26) = w0 at HX HI hh0 hh1 ⊢
        refine (HC.out w0 HI.out).mono ?_
        rintro e w1 ⟨rfl, hb⟩
        replace HX := Lib.hid (HX.out.step hb)
        replace HI := Lib.hid (HI.out.step hb)
        clear hb
        replace hh0 := HX.out.c0
        replace hh1 := HX.out.c1
        go_wp2
        go_ret
        first | exact ⟨rfl, HX.out.below⟩ | exact ⟨by simp; omega, HX.out.below⟩ | exact ⟨by simp [h1], HX.out.below⟩
    · have h5' : ¬ (zs.length : Int) ≤ 5 := by omega
      rw [shortB_l h5]
      rw [hst] at HC
      clear hst
      go_enter Try.func116, Try.ntmps116
      go_wp2_with fail
      generalize w.alloc (.cells #[.slice A zs.length c, .int .i64 m] 26) = w0 at HX HI hh0 hh1 ⊢
      refine (HC.out w0 HI.out).mono ?_
      rintro e w1 ⟨rfl, hb⟩
      replace HX := Lib.hid (HX.out.step hb)
      replace HI := Lib.hid (HI.out.step hb)
      clear hb
      replace hh0 := HX.out.c0
      replace hh1 := HX.out.c1
      go_wp2
      go_ret
      first | exact ⟨rfl, HX.out.below⟩ | exact ⟨by simp; omega, HX.out.below⟩ | exact ⟨by simp [h5], HX.out.below⟩

/-- A question of a comparison. -/
theorem qOK_cmp {n k : Nat} (h1 : 1 ≤ n) (hn : n ≤ 12) (hk : k ≤ n) : qOK (n : Int) ((2 : Int) ^ k - 1) = true := by
  rw [qOK_iff, Int.toNat_natCast]
  have hp := pow_le k (by omega)
  have : (2 : Int) ^ k ≤ 2 ^ n := by
    have h : ∀ n, n ≤ 12 → ∀ k, k ≤ n → (2 : Int) ^ k ≤ 2 ^ n := by decide +kernel
    exact h n hn k hk
  omega

/-- The value of a state of one's own. -/
def KeyIn (zs : List Int) (M k : Nat) : Nat := keyS M (zs.take k)
theorem keyIn_step {zs : List Int} {M k : Nat} (h : k < zs.length) : KeyIn zs M (k + 1) = KeyIn zs M k * (M + 2) + (zs[k] + 1).toNat := by
  unfold KeyIn
  rw [List.take_succ_eq_append_getElem h, keyTo_snoc]
theorem keyIn_bd {zs : List Int} {M k : Nat} (hs : Short M zs) (hk : k ≤ zs.length) : KeyIn zs M k ≤ 243 := by
  have hf : fitS M (zs.take k) := fun z hz => hs.fit z (List.mem_of_mem_take hz)
  have h1 := keyTo_lt hf
  have hl : (zs.take k).length = k := by rw [List.length_take]; omega
  rw [hl] at h1
  have hm := hs.m
  have h5 := hs.len
  have : ∀ M, M ≤ 1 → ∀ k, k ≤ 5 → (M + 2) ^ k ≤ 243 := by decide
  have := this M hm k (by omega)
  unfold KeyIn
  omega
end Go.Proofs.Ytopgccficjkenaa
