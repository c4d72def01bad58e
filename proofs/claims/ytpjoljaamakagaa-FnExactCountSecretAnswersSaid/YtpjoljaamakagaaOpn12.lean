/- Is a number of a state open. -/
import Derived.Test.YtpjoljaamakagaaNumW
import Derived.Test.YtpjoljaamakagaaAfter
namespace Go.Proofs.Ytpjoljaamakagaa
open Go.RowKit Go.ChangeShapes Go.WideShapes
set_option linter.unusedVariables false

/-- A cell that is there. -/
structure At12 (w : World) (a : Addr) (v : Value) : Prop where
  c : w.cell? a = some v
theorem At12.lt {w : World} {a : Addr} {v : Value} (h : At12 w a v) : a.block < w.heap.size := by
  rcases Nat.lt_or_ge a.block w.heap.size with hl | hg
  · exact hl
  · have := h.c
    simp [World.cell?, Array.getElem?_eq_none hg] at this
theorem At12.step {w w' : World} {a : Addr} {v : Value} (h : At12 w a v) (hb : Below w.heap.size w w') : At12 w' a v := ⟨(hb.cell h.lt).trans h.c⟩
def opnB (zs : List Int) (k : Int) : Bool := inB k 0 ((zs.length : Int) - 1) && decide (0 ≤ zs.getD k.toNat (-1))
set_option maxRecDepth 100000 in
set_option maxHeartbeats 4000000 in
theorem isOpen_any (A : Option Addr) (c lo hi : Nat) (zs : List Int) (m k : Int) (w : World) (hS : Ins w lo hi A zs) (hst : isSt zs m = true) :
    Calls Try.prog 130 #[.agg #[.slice A zs.length c, .int .i64 m], .int .i64 k] w fun e w' => e = .returned (.bool (opnB zs k)) ∧ Below w.heap.size w w' := by
  have HT := Lib.hid (Two.new w (.slice A zs.length c) (.int .i64 m) 35 (w.heap.size) rfl)
  have HB := Lib.hid ((Below.refl w.heap.size w).alloc (Nat.le_refl _) (.cells #[.slice A zs.length c, .int .i64 m] 35))
  have HI := Lib.hid (hS.step HB.out)
  have HN := Lib.hid (fun W => isNumber_any (zs.length : Int) k W)
  have hl := isSt_len hst
  have HA := Lib.hid (fun i (h : i < zs.length) => isSt_at hst h)
  rw [inB_t (x := (zs.length : Int)) (a := 1) (b := 12) (by omega) (by omega), Bool.true_and] at HN
  unfold opnB
  clear hS
  cases hk : inB k 0 ((zs.length : Int) - 1) with
  | false =>
    rw [hk] at HN
    clear hk HA
    go_enter Try.func130, Try.ntmps130
    go_wp2_with fail
    generalize w.alloc (.cells #[.slice A zs.length c, .int .i64 m] 35) = w0 at HT HB HI ⊢
    have h0 := HT.out.c0
    have h1 := HT.out.c1
    go_wp2_with fail
    with_reducible refine (HN.out _).mono ?_
    rintro e wX ⟨rfl, hw⟩
    have hw := hw.symm
    subst hw
    clear h0 h1
    go_wp2
    go_ret
    exact ⟨rfl, HB.out⟩
  | true =>
    rw [hk] at HN
    have hk2 := inB_iff.1 hk
    obtain ⟨j, rfl⟩ : ∃ j : Nat, k = (j : Int) := ⟨k.toNat, by omega⟩
    have hjl : j < zs.length := by omega
    rw [Int.toNat_natCast, show zs.getD j (-1) = zs[j] by simp [List.getD, hjl]]
    have hat := HA.out j hjl
    obtain ⟨b, o, e, _, hb, hc⟩ := HI.out.ints.at_ hjl
    subst e
    have HC := Lib.hid (At12.mk hc)
    clear hc hk hk2 HA
    generalize zs[j] = z at HC hat ⊢
    have hji : (j : Int) < (zs.length : Int) := by omega
    by_cases hz : 0 ≤ z
    · rw [decide_eq_true hz]
      have hne : ¬ z = -1 := by omega
      go_enter Try.func130, Try.ntmps130
      go_wp2_with fail
      generalize w.alloc (.cells #[.slice (some ⟨b, o, none⟩) zs.length c, .int .i64 m] 35) = w0 at HT HB HI HC ⊢
      have h0 := HT.out.c0
      have h1 := HT.out.c1
      have hc := HC.out.c
      go_wp2_with fail
      with_reducible refine (HN.out _).mono ?_
      rintro e wX ⟨rfl, hw⟩
      have hw := hw.symm
      subst hw
      go_wp2
      go_ret
      exact ⟨by first | rfl | (simp <;> omega), HB.out⟩
    · rw [decide_eq_false hz]
      have hne : z = -1 := by omega
      subst hne
      go_enter Try.func130, Try.ntmps130
      go_wp2_with fail
      generalize w.alloc (.cells #[.slice (some ⟨b, o, none⟩) zs.length c, .int .i64 m] 35) = w0 at HT HB HI HC ⊢
      have h0 := HT.out.c0
      have h1 := HT.out.c1
      have hc := HC.out.c
      go_wp2_with fail
      with_reducible refine (HN.out _).mono ?_
      rintro e wX ⟨rfl, hw⟩
      have hw := hw.symm
      subst hw
      go_wp2
      go_ret
      exact ⟨by first | rfl | (simp <;> omega), HB.out⟩
end Go.Proofs.Ytpjoljaamakagaa
