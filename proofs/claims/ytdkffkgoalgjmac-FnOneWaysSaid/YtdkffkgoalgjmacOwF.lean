/- What the law FnOneWays asks of its calls' answers. -/
import Derived.Test.YtdkffkgoalgjmacL10K
import Derived.Test.YtdkffkgoalgjmacOwM
import Derived.Test.YtdkffkgoalgjmacAll2
import Derived.Test.YtdkffkgoalgjmacRInts
namespace Go.Proofs.Ytdkffkgoalgjmac
open Go.RowKit Go.ChangeShapes Go.WideShapes
set_option linter.unusedVariables false
set_option linter.unusedSimpArgs false

set_option maxRecDepth 100000 in
set_option maxHeartbeats 1000000 in
theorem rState_same (A A' : Option Addr) (c c' lo hi lo' hi' : Nat) (zs : List Int) (m : Int) (w : World) (hS : Ins w lo hi A zs) (hS' : Ins w lo' hi' A' zs) (hn : zs.length ≤ 1048576) :
    Calls Try.prog 25 #[.agg #[.slice A zs.length c, .int .i64 m], .agg #[.slice A' zs.length c', .int .i64 m]] w fun e w' => e = .returned (.bool true) ∧ Below w.heap.size w w' := by
  have HS := Lib.hid hS
  have HS' := Lib.hid hS'
  clear hS hS'
  go_enter Try.func25, Try.ntmps25
  go_wp2_with fail
  have hb0 : Below w.heap.size w ((w.alloc (.cells #[.slice A zs.length c, .int .i64 m] 28)).alloc (.cells #[.slice A' zs.length c', .int .i64 m] 28)) := ((Below.refl _ _).alloc (Nat.le_refl _) _).alloc (by simp) _
  refine (rInts_same A A' c c' lo hi lo' hi' zs _ (HS.out.step hb0) (HS'.out.step hb0) hn).mono ?_
  rintro e w' ⟨rfl, hb⟩
  have HB := Lib.hid (below_trans hb0 hb)
  clear hb0 hb
  go_wp2
  go_ret
  exact ⟨rfl, HB.out⟩
def QAll (f : FuncId) (n m : Int) (l : List (Int × Bool)) (r : List Int) (u : Int) (b : Bool) : Prop :=
  ∀ (w : World) (B : Option Addr) (c lo hi : Nat), AIns w lo hi B l → Calls Try.prog f #[.int .i64 n, .int .i64 m, .slice B l.length c] w fun e w' => ∃ B c', e = .returned (.tuple #[.agg #[.slice B r.length c', .int .i64 u], .bool b]) ∧ Res w' w.heap.size w'.heap.size B r ∧ Below w.heap.size w w'
def QOne (f : FuncId) (zs : List Int) (m q : Int) (y : Bool) (r : List Int) (u : Int) (b : Bool) : Prop :=
  ∀ (w : World) (B : Option Addr) (c lo hi : Nat), Ins w lo hi B zs → Calls Try.prog f #[.agg #[.slice B zs.length c, .int .i64 m], .agg #[.int .i64 q, .bool y]] w fun e w' => ∃ B c', e = .returned (.tuple #[.agg #[.slice B r.length c', .int .i64 u], .bool b]) ∧ Res w' w.heap.size w'.heap.size B r ∧ Below w.heap.size w w'
def QSame (f : FuncId) (n m : Int) (l : List (Int × Bool)) (a b : Bool) : Prop :=
  ∀ (w : World) (B : Option Addr) (c lo hi : Nat), AIns w lo hi B l → Calls Try.prog f #[.int .i64 n, .int .i64 m, .slice B l.length c] w fun e w' => e = .returned (.tuple #[.bool a, .bool b]) ∧ Below w.heap.size w w'
/-- All answers by both ways. -/
theorem ow_facts1 (k : Nat) (m : Int) (l : List (Int × Bool)) (h : l.length ≤ 1048576) : ∃ (r0 : List Int) (u0 : Int) (o0 : Bool) (r2 : List Int) (u2 : Int) (o2 : Bool),
    r0.length ≤ 1048576 ∧ r2.length ≤ 1048576 ∧ QAll 23 k m l r0 u0 o0 ∧ QAll 24 k m l r0 u0 o0 ∧ QAll 32 k m l r2 u2 o2 ∧ (o0 = true → o2 = true ∧ r0.length = k ∧ r2.length = k ∧ ∀ (j : Nat) (x : Int), r0[j]? = some x → 0 ≤ x → r2[j]? = some x) := by
  by_cases hg : okA (k : Int) l = true ∧ inB m 0 2 = true
  · have hok2 := okA_iff hg.1
    have hb := inB_iff.1 hok2.1
    have hlen := owSt_len k m l l.length
    have hlen2 := stTo_len k m l l.length
    exact ⟨owSt k m l l.length, m, true, stTo k m l l.length, m, true, by omega, by omega, fun w B c lo hi hS => (oneWayAll_impl k m B c lo hi l w hS hg.1 (by omega) (by omega) hg.2 hok2.2).mono fun e w' hx => all_ans hlen hx, fun w B c lo hi hS => (oneWayAll_spec k m B c lo hi l w hS hg.1 (by omega) (by omega) hg.2).mono fun e w' hx => all_ans hlen hx, fun w B c lo hi hS => (answerAll_impl k m B c lo hi l w hS hg.1 (by omega) (by omega) hg.2 hok2.2).mono fun e w' hx => all_ans hlen2 hx, fun _ => ⟨rfl, hlen, hlen2, fun j x h1 h2 => ow_open _ j x h1 h2⟩⟩
  · have hno : okA (k : Int) l = false ∨ inB m 0 2 = false := by
      cases h1 : okA (k : Int) l <;> cases h2 : inB m 0 2 <;> simp_all
    have hno2 : (inB (k : Int) 1 12 = false ∨ inB m 0 2 = false) ∨ ((1 ≤ (k : Int) ∧ (k : Int) ≤ 12) ∧ inB m 0 2 = true ∧ okA (k : Int) l = false) := by
      cases h2 : inB m 0 2 with
      | false => exact .inl (.inr rfl)
      | true =>
        rw [h2] at hno
        cases h1 : inB (k : Int) 1 12 with
        | false => exact .inl (.inl rfl)
        | true => exact .inr ⟨inB_iff.1 h1, rfl, by simpa using hno⟩
    exact ⟨[], 0, false, [], 0, false, by simp, by simp, fun w B c lo hi hS => (oneWayAll_impl_no k m B c lo hi l w hS h hno2).mono fun e w' hx => ⟨none, 0, hx.1, Res.none w' _ _ (Nat.le_refl _), hx.2⟩, fun w B c lo hi hS => (oneWayAll_spec_no k m B c lo hi l w hS h hno).mono fun e w' hx => ⟨none, 0, hx.1, Res.none w' _ _ (Nat.le_refl _), hx.2⟩, fun w B c lo hi hS => (answerAll_impl_no k m B c lo hi l w hS h hno2).mono fun e w' hx => ⟨none, 0, hx.1, Res.none w' _ _ (Nat.le_refl _), hx.2⟩, fun h => by cases h⟩
/-- One answer. -/
theorem ow_facts2 (zs : List Int) (m : Int) (h : zs.length ≤ 1048576) (q : Int) (y : Bool) : ∃ (r : List Int) (u : Int) (o : Bool),
    r.length ≤ 1048576 ∧ QOne 27 zs m q y r u o ∧ QOne 28 zs m q y r u o ∧ (o = true → zs.length ≤ 12 ∧ ∀ j, j < zs.length → ∃ x z, zs[j]? = some z ∧ r[j]? = some x ∧ (y = true → inQ q j = true → x = z) ∧ (y = true → inQ q j = false → x = -1) ∧ (y = false → inQ q j = false → x = z)) := by
  have hno : (isSt zs m && qOK zs.length q) = false → ∃ (r : List Int) (u : Int) (o : Bool), r.length ≤ 1048576 ∧ QOne 27 zs m q y r u o ∧ QOne 28 zs m q y r u o ∧ o = false := fun ho => by
    cases hst : isSt zs m with
    | false =>
      refine ⟨[], 0, false, by simp, fun w B c lo hi hS => ?_, fun w B c lo hi hS => ?_, rfl⟩
      · refine (oneWayState_none B c zs.length m q y w (fun W hb => answerState_impl_no B c lo hi zs m q y W (hS.step hb) h hst)).mono ?_
        rintro e w' ⟨rfl, hb⟩
        exact ⟨none, 0, rfl, Res.none w' _ _ (Nat.le_refl _), hb⟩
      · refine (oneWayState_spec_no B c lo hi zs m q y w hS h hst).mono ?_
        rintro e w' ⟨rfl, hb⟩
        exact ⟨none, 0, rfl, Res.none w' _ _ (Nat.le_refl _), hb⟩
    | true =>
      rw [hst, Bool.true_and] at ho
      refine ⟨[], 0, false, by simp, fun w B c lo hi hS => ?_, fun w B c lo hi hS => ?_, rfl⟩
      · refine (oneWayState_none B c zs.length m q y w (fun W hb => answerState_impl_bad B c lo hi zs m q y W (hS.step hb) h hst ho)).mono ?_
        rintro e w' ⟨rfl, hb⟩
        exact ⟨none, 0, rfl, Res.none w' _ _ (Nat.le_refl _), hb⟩
      · refine (oneWayState_spec_bad B c lo hi zs m q y w hS h hst ho).mono ?_
        rintro e w' ⟨rfl, hb⟩
        exact ⟨none, 0, rfl, Res.none w' _ _ (Nat.le_refl _), hb⟩
  cases ho : (isSt zs m && qOK zs.length q) with
  | false =>
    obtain ⟨r, u, o, hr, ha, hb, rfl⟩ := hno ho
    exact ⟨r, u, false, hr, ha, hb, fun h => by cases h⟩
  | true =>
    simp only [Bool.and_eq_true] at ho
    have hal := owA_len zs m q y
    refine ⟨owA zs m q y, m, true, by rw [hal]; exact h, fun w B c lo hi hS => ?_, fun w B c lo hi hS => ?_, fun _ => ⟨(isSt_len ho.1).2.1, fun j hj => ?_⟩⟩
    · refine (oneWayState_impl B c lo hi zs m q y w hS ho.1 ho.2).mono ?_
      rintro e w' ⟨g, c', rfl, hg, ho, hb⟩
      exact ⟨_, c', by rw [hal], ⟨ho.wide hg (own_lt ho), Nat.le_refl _⟩, hb⟩
    · refine (oneWayState_spec B c lo hi zs m q y w hS ho.1 ho.2).mono ?_
      rintro e w' ⟨g, c', rfl, hg, ho, hb⟩
      exact ⟨_, c', by rw [hal], ⟨ho.wide hg (own_lt ho), Nat.le_refl _⟩, hb⟩
    · refine ⟨_, _, List.getElem?_eq_getElem hj, owA_get hj, fun h1 h2 => ?_, fun h1 h2 => ?_, fun h1 h2 => ?_⟩
      · simp [h1, h2]
      · simp [h1, h2]
      · simp [h1, h2, aft1]
/-- Whether both ways are the same. -/
theorem ow_facts3 (k : Nat) (m : Int) (l : List (Int × Bool)) (h : l.length ≤ 1048576) : ∃ (a o : Bool),
    QSame 30 k m l a o ∧ QSame 31 k m l a o ∧ (o = true → (∀ j, j < l.length → (l.getD j (0, false)).2 = false) ∨ m = 0 → a = true) := by
  by_cases hg : okA (k : Int) l = true ∧ inB m 0 2 = true
  · have hok2 := okA_iff hg.1
    have hb := inB_iff.1 hok2.1
    have hm := inB_iff.1 hg.2
    exact ⟨_, true, fun w B c lo hi hS => sameOneWay_impl k m B c lo hi l w hS hg.1 (by omega) (by omega) hg.2 hok2.2, fun w B c lo hi hS => sameOneWay_spec k m B c lo hi l w hS hg.1 (by omega) (by omega) hg.2, fun _ h2 => decide_eq_true (ow_same (by omega) (by omega) hm.1 hm.2 h2 _ (Nat.le_refl _))⟩
  · have hno : okA (k : Int) l = false ∨ inB m 0 2 = false := by
      cases h1 : okA (k : Int) l <;> cases h2 : inB m 0 2 <;> simp_all
    have hno2 : (inB (k : Int) 1 12 = false ∨ inB m 0 2 = false) ∨ ((1 ≤ (k : Int) ∧ (k : Int) ≤ 12) ∧ inB m 0 2 = true ∧ okA (k : Int) l = false) := by
      cases h2 : inB m 0 2 with
      | false => exact .inl (.inr rfl)
      | true =>
        rw [h2] at hno
        cases h1 : inB (k : Int) 1 12 with
        | false => exact .inl (.inl rfl)
        | true => exact .inr ⟨inB_iff.1 h1, rfl, by simpa using hno⟩
    exact ⟨false, false, fun w B c lo hi hS => sameOneWay_impl_no k m B c lo hi l w hS h hno2, fun w B c lo hi hS => sameOneWay_spec_no k m B c lo hi l w hS h hno, fun h => by cases h⟩
end Go.Proofs.Ytdkffkgoalgjmac
