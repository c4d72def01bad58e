/- Where a race begins; which lists are sets of questions. -/
import Derived.Test.YtopgccficjkenaaL11N
import Derived.Test.YtopgccficjkenaaL6b
import Derived.Test.YtopgccficjkenaaCan
namespace Go.Proofs.Ytopgccficjkenaa
open Go.RowKit Go.ChangeShapes Go.WideShapes
set_option linter.unusedVariables false

def beginB (zs : List Int) (m : Int) : Bool := shortB zs m && !doneL zs
def goodAt (n : Int) (qs : List Int) (k : Nat) : Bool := qOK n (qs.getD k 0) && (decide (k = 0) || decide (qs.getD (k - 1) 0 < qs.getD k 0))
def ascB (n : Int) (qs : List Int) : Nat → Bool
  | 0 => true
  | k + 1 => ascB n qs k && goodAt n qs k
def choB (n : Int) (qs : List Int) : Bool := ascB n qs qs.length && inB qs.length 1 5
theorem ascB_bad {n : Int} {qs : List Int} {k : Nat} (hb : goodAt n qs k = false) : ∀ {l}, k < l → ascB n qs l = false
  | 0, h => absurd h (by omega)
  | l + 1, h => by
    rw [ascB]
    by_cases e : k = l
    · subst e; rw [hb, Bool.and_false]
    · rw [ascB_bad hb (by omega), Bool.false_and]
theorem ascB_at {n : Int} {qs : List Int} : ∀ {l k}, ascB n qs l = true → k < l → goodAt n qs k = true
  | 0, k, _, h => absurd h (by omega)
  | l + 1, k, hl, h => by
    rw [ascB, Bool.and_eq_true] at hl
    by_cases e : k = l
    · subst e; exact hl.2
    · exact ascB_at hl.1 (by omega)
theorem choB_len {n : Int} {qs : List Int} (h : choB n qs = true) : 1 ≤ qs.length ∧ qs.length ≤ 5 := by
  unfold choB at h
  rw [Bool.and_eq_true] at h
  have := inB_iff.1 h.2
  omega
theorem choB_ok {n : Int} {qs : List Int} (h : choB n qs = true) : ∀ q ∈ qs, qOK n q = true := fun q hq => by
  unfold choB at h
  rw [Bool.and_eq_true] at h
  obtain ⟨i, hi, rfl⟩ := List.getElem_of_mem hq
  have := ascB_at h.1 hi
  unfold goodAt at this
  rw [Bool.and_eq_true, getD_at0 hi] at this
  exact this.1
theorem begin_short {zs : List Int} {m : Int} (h : beginB zs m = true) : ∃ M : Nat, m = (M : Int) ∧ Short M zs ∧ doneL zs = false := by
  unfold beginB at h
  rw [Bool.and_eq_true] at h
  obtain ⟨M, h1, h2⟩ := shortB_iff.1 h.1
  exact ⟨M, h1, h2, by simpa using h.2⟩

set_option maxRecDepth 100000 in
set_option maxHeartbeats 4000000 in
theorem areChoices_any (n : Int) (A : Option Addr) (c lo hi : Nat) (qs : List Int) (w : World) (hS : Ins w lo hi A qs) (hn : qs.length ≤ 1048576) :
    Calls Try.prog 73 #[.int .i64 n, .slice A qs.length c] w fun e w' => e = .returned (.bool (choB n qs)) ∧ w' = w := by
  by_cases h0 : qs.length = 0
  · have h0' : (qs.length : Int) = 0 := by omega
    rw [show choB n qs = false from by unfold choB; rw [inB_f1 (by omega), Bool.and_false]]
    go_enter Try.func73, Try.ntmps73
    go_wp2
    go_ret
    exact ⟨rfl, rfl⟩
  · have h0' : ¬ (qs.length : Int) = 0 := by omega
    by_cases h5 : qs.length ≤ 5
    · have h5' : ¬ (5 : Int) < (qs.length : Int) := by omega
      have HE : Hid (choB n qs = ascB n qs qs.length) := Lib.hid (by unfold choB; rw [inB_t (by omega) (by omega), Bool.and_true])
      rw [HE.out]
      clear HE
      have HC := Lib.hid (fun q W => isQuestion_any n q W)
      have HS := Lib.hid hS
      clear hS
      go_enter Try.func73, Try.ntmps73
      go_wp2_with fail
      go_loopw [17] (fun i wr => ∃ k : Nat, k ≤ qs.length ∧ i = .int .i64 (k : Int) ∧ Hid (ascB n qs k = true) ∧ wr = w) (fun i _ => qs.length - (intOf i).toNat)
      case atStart => exact ⟨0, Nat.zero_le _, rfl, Lib.hid rfl, rfl⟩
      case round =>
        obtain ⟨k, hk, rfl, HA, rfl⟩ := hrel
        by_cases hlt : k < qs.length
        · have hltI : (k : Int) < (qs.length : Int) := by omega
          obtain ⟨b, o, rfl, _, hb, hc⟩ := HS.out.ints.at_ hlt
          have HG : Hid (goodAt n qs k = (qOK n qs[k] && (decide (k = 0) || decide (qs.getD (k - 1) 0 < qs[k])))) := Lib.hid (by unfold goodAt; rw [getD_at0 hlt])
          generalize qs[k] = x at hc HG
          have HCx := Lib.hid (fun W => HC.out x W)
          cases hq : qOK n x with
          | false =>
            rw [hq] at HG HCx
            have HF := Lib.hid (ascB_bad (HG.out.trans (Bool.false_and _)) hlt)
            go_wp2_with (go_at_call 78; refine (HCx.out _).mono ?_; rintro e wX ⟨rfl, hw⟩; have hw := hw.symm; subst hw)
            go_ret
            exact ⟨(congrArg (fun b => Ending.returned (Value.bool b)) HF.out).symm, rfl⟩
          | true =>
            rw [hq] at HG HCx
            by_cases hk0 : k = 0
            · have hkp : ¬ (0 : Int) < (k : Int) := by omega
              have HN : Hid (ascB n qs (k + 1) = true) := Lib.hid (by rw [ascB, HA.out, HG.out, decide_eq_true hk0]; rfl)
              clear hk0
              go_wp2_with (go_at_call 78; refine (HCx.out _).mono ?_; rintro e wX ⟨rfl, hw⟩; have hw := hw.symm; subst hw)
              go_roundw
              case rel => exact ⟨k + 1, by omega, by go_num, HN, by first | rfl | trivial⟩
              case measure => simp [intOf]; omega
            · obtain ⟨b', o', e', _, _, hp⟩ := HS.out.ints.at_ (k := k - 1) (by omega)
              injection e' with e'
              injection e' with e1 e2
              subst e1 e2
              have hkp : (0 : Int) < (k : Int) := by omega
              have hkt : ((k : Int) - 1).toNat = k - 1 := by omega
              have hkw : IntKind.i64.wrap ((k : Int) - 1) = (k : Int) - 1 := IntWalk.i64_in _ (by omega)
              have hkn : (k : Int) - 1 = ((k - 1 : Nat) : Int) := by omega
              rw [getD_at0 (show k - 1 < qs.length by omega)] at HG
              generalize qs[k - 1] = p at hp HG
              by_cases hxp : x ≤ p
              · have HF := Lib.hid (ascB_bad (HG.out.trans (by simp; omega)) hlt)
                go_wp2_with (go_at_call 78; refine (HCx.out _).mono ?_; rintro e wX ⟨rfl, hw⟩; have hw := hw.symm; subst hw)
                go_ret
                exact ⟨(congrArg (fun b => Ending.returned (Value.bool b)) HF.out).symm, rfl⟩
              · have HN : Hid (ascB n qs (k + 1) = true) := Lib.hid (by rw [ascB, HA.out, HG.out]; simp; omega)
                go_wp2_with (go_at_call 78; refine (HCx.out _).mono ?_; rintro e wX ⟨rfl, hw⟩; have hw := hw.symm; subst hw)
                go_roundw
                case rel => exact ⟨k + 1, by omega, by go_num, HN, by first | rfl | trivial⟩
                case measure => simp [intOf]; omega
        · obtain rfl : k = qs.length := by omega
          go_wp2
          go_ret
          exact ⟨(congrArg (fun b => Ending.returned (Value.bool b)) HA.out).symm, rfl⟩
    · have h5' : (5 : Int) < (qs.length : Int) := by omega
      rw [show choB n qs = false from by unfold choB; rw [inB_f2 (by omega), Bool.and_false]]
      go_enter Try.func73, Try.ntmps73
      go_wp2
      go_ret
      exact ⟨rfl, rfl⟩

set_option maxRecDepth 100000 in
set_option maxHeartbeats 4000000 in
theorem canBegin_any (A : Option Addr) (c lo hi : Nat) (zs : List Int) (m : Int) (w : World) (hS : Ins w lo hi A zs) (hl : zs.length ≤ 1048576) :
    Calls Try.prog 87 #[.agg #[.slice A zs.length c, .int .i64 m]] w fun e w' => e = .returned (.bool (beginB zs m)) ∧ Below w.heap.size w w' := by
  have HT := Lib.hid (Two.new w (.slice A zs.length c) (.int .i64 m) 26 w.heap.size rfl)
  have HB := Lib.hid ((Below.refl w.heap.size w).alloc (Nat.le_refl _) (.cells #[.slice A zs.length c, .int .i64 m] 26))
  have HI := Lib.hid (hS.step HB.out)
  cases hst : isSt zs m with
  | false =>
    rw [show beginB zs m = false from by unfold beginB; rw [shortB_no hst]; rfl]
    have HO := Lib.hid (fun W h => openNumbers_no A c lo hi zs m W h hl hst)
    clear hS
    go_enter Try.func87, Try.ntmps87
    have t0 := HT.out.c0
    have t1 := HT.out.c1
    go_wp2_with fail
    generalize w.alloc (.cells #[.slice A zs.length c, .int .i64 m] 26) = w0 at HT HB HI t0 t1 ⊢
    refine (HO.out w0 HI.out).mono ?_
    rintro e w1 ⟨B0, rfl, _, hb⟩
    replace HB := Lib.hid (below_trans HB.out hb)
    clear hb
    go_wp2
    go_ret
    exact ⟨rfl, HB.out⟩
  | true =>
    have HO := Lib.hid (fun W h => openNumbers_impl A c lo hi zs m W h hst)
    have HS := Lib.hid (fun W h => isShort_any A c lo hi zs m W h hl)
    have hol := Nat.le_trans (opens_len zs) hl
    clear hS hst
    have HD : Hid (doneL zs = decide ((opens zs).length < 2)) := Lib.hid rfl
    have HBB : Hid (beginB zs m = (shortB zs m && !doneL zs)) := Lib.hid rfl
    have HF : Hid (∀ b d : Bool, shortB zs m = b → doneL zs = d → beginB zs m = (b && !d)) := Lib.hid (fun b d h1 h2 => by rw [HBB.out, h1, h2])
    clear HBB
    go_enter Try.func87, Try.ntmps87
    have t0 := HT.out.c0
    have t1 := HT.out.c1
    go_wp2_with fail
    generalize w.alloc (.cells #[.slice A zs.length c, .int .i64 m] 26) = w0 at HT HB HI t0 t1 ⊢
    refine (HO.out w0 HI.out).mono ?_
    rintro e w1 ⟨v, rfl, ho, hb⟩
    obtain ⟨B, c', rfl, _, _⟩ := own_res ho rfl
    replace HT := Lib.hid (HT.out.step hb)
    replace HB := Lib.hid (below_trans HB.out hb)
    replace HI := Lib.hid (HI.out.step hb)
    replace t0 := HT.out.c0
    replace t1 := HT.out.c1
    clear hb ho
    cases hsh : shortB zs m with
    | false =>
      have HG := Lib.hid (HF.out false (doneL zs) hsh rfl)
      rw [Bool.false_and] at HG
      rw [hsh] at HS
      clear hsh HF HD
      go_wp2_with fail
      refine (HS.out w1 HI.out).mono ?_
      rintro e w2 ⟨rfl, hb⟩
      replace HB := Lib.hid (below_trans HB.out hb)
      clear hb
      go_wp2
      go_ret
      exact ⟨(congrArg (fun b => Ending.returned (Value.bool b)) HG.out).symm, HB.out⟩
    | true =>
      rw [hsh] at HS
      by_cases hp : (opens zs).length < 2
      · have hp' : ¬ (1 : Int) < ((opens zs).length : Int) := by omega
        have HG := Lib.hid (HF.out true true hsh (HD.out.trans (decide_eq_true hp)))
        clear hsh HF HD hp
        go_wp2_with fail
        refine (HS.out w1 HI.out).mono ?_
        rintro e w2 ⟨rfl, hb⟩
        replace HB := Lib.hid (below_trans HB.out hb)
        clear hb
        go_wp2
        go_ret
        refine ⟨Eq.trans ?_ (congrArg (fun b => Ending.returned (Value.bool b)) HG.out).symm, HB.out⟩
        first | rfl | (simp; done) | (simp; omega)
      · have hp' : (1 : Int) < ((opens zs).length : Int) := by omega
        have HG := Lib.hid (HF.out true false hsh (HD.out.trans (decide_eq_false hp)))
        clear hsh HF HD hp
        go_wp2_with fail
        refine (HS.out w1 HI.out).mono ?_
        rintro e w2 ⟨rfl, hb⟩
        replace HB := Lib.hid (below_trans HB.out hb)
        clear hb
        go_wp2
        go_ret
        refine ⟨Eq.trans ?_ (congrArg (fun b => Ending.returned (Value.bool b)) HG.out).symm, HB.out⟩
        first | rfl | (simp; done) | (simp; omega)

set_option maxRecDepth 100000 in
set_option maxHeartbeats 4000000 in
theorem l11Race_any (A : Option Addr) (c lo hi : Nat) (zs : List Int) (m : Int) (w : World) (hS : Ins w lo hi A zs) (hl : zs.length ≤ 1048576) :
    Calls Try.prog 88 #[.agg #[.slice A zs.length c, .int .i64 m]] w fun e w' => e = .returned (.bool (beginB zs m)) ∧ Below w.heap.size w w' := by
  have HT := Lib.hid (Two.new w (.slice A zs.length c) (.int .i64 m) 26 w.heap.size rfl)
  have HB := Lib.hid ((Below.refl w.heap.size w).alloc (Nat.le_refl _) (.cells #[.slice A zs.length c, .int .i64 m] 26))
  have HI := Lib.hid (hS.step HB.out)
  have HS := Lib.hid (fun W h => l6Short_any A c lo hi zs m W h hl)
  have HBB : Hid (beginB zs m = (shortB zs m && !doneL zs)) := Lib.hid rfl
  rw [HBB.out]
  clear HBB
  cases hsh : shortB zs m with
  | false =>
    rw [hsh] at HS
    clear hS hsh
    go_enter Try.func88, Try.ntmps88
    have t0 := HT.out.c0
    have t1 := HT.out.c1
    go_wp2_with fail
    generalize w.alloc (.cells #[.slice A zs.length c, .int .i64 m] 26) = w0 at HT HB HI t0 t1 ⊢
    refine (HS.out w0 HI.out).mono ?_
    rintro e w1 ⟨rfl, hb⟩
    replace HB := Lib.hid (below_trans HB.out hb)
    clear hb
    go_wp2
    go_ret
    exact ⟨rfl, HB.out⟩
  | true =>
    have HDn := Lib.hid (fun W h => l6Done_any A c lo hi zs m W h (by have := shortB_iff.1 hsh; obtain ⟨M, _, h⟩ := this; have := h.len; omega))
    rw [hsh] at HS
    clear hS hsh
    go_enter Try.func88, Try.ntmps88
    have t0 := HT.out.c0
    have t1 := HT.out.c1
    go_wp2_with fail
    generalize w.alloc (.cells #[.slice A zs.length c, .int .i64 m] 26) = w0 at HT HB HI t0 t1 ⊢
    refine (HS.out w0 HI.out).mono ?_
    rintro e w1 ⟨rfl, hb⟩
    replace HT := Lib.hid (HT.out.step hb)
    replace HB := Lib.hid (below_trans HB.out hb)
    replace HI := Lib.hid (HI.out.step hb)
    replace t0 := HT.out.c0
    replace t1 := HT.out.c1
    clear hb
    go_wp2_with fail
    refine (HDn.out w1 HI.out).mono ?_
    rintro e w2 ⟨rfl, hb⟩
    replace HB := Lib.hid (below_trans HB.out hb)
    clear hb
    go_wp2
    go_ret
    exact ⟨rfl, HB.out⟩
end Go.Proofs.Ytopgccficjkenaa
