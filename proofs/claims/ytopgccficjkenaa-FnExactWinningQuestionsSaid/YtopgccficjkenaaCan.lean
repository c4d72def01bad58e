/- CanAnswer: both functions' contracts. -/
import Derived.Test.YtopgccficjkenaaAnswer
namespace Go.Proofs.Ytopgccficjkenaa
open Go.RowKit Go.ChangeShapes Go.WideShapes
set_option linter.unusedVariables false

theorem row_ins {w : World} {g : Nat} {l : List Int} (h : w.heap[g]? = some (.cells (l.map (Value.int .i64)).toArray 3 (0, 0))) : Ins w g (g + 1) (some ⟨g, 0, none⟩) l :=
  ⟨Own.ints (.inr ⟨g, _, rfl, Nat.le_refl _, Nat.lt_succ_self _, h, by simp, fun j x hx => by simp [hx]⟩), row_ltI h⟩
theorem own_insG {w : World} {g : Nat} {l : List Int} (h : Own w g (g + 1) (some ⟨g, 0, none⟩) l) : Ins w g (g + 1) (some ⟨g, 0, none⟩) l := ⟨h.ints, own_lt h⟩
theorem openAfter_impl (g c : Nat) (zs : List Int) (m q : Int) (y : Bool) (hst : isSt zs m = true) (w : World) (hI : Ins w g (g + 1) (some ⟨g, 0, none⟩) (afters zs m q y)) :
    Calls Try.prog 47 #[.agg #[.slice (some ⟨g, 0, none⟩) zs.length c, .int .i64 m]] w fun e w' => ∃ B c', e = .returned (.tuple #[.slice B (opens (afters zs m q y)).length c', .bool true]) ∧ Below w.heap.size w w' := by
  have := openNumbers_impl (some ⟨g, 0, none⟩) c g (g + 1) (afters zs m q y) m w hI (afters_isSt q y hst)
  rw [afters_len] at this
  refine this.mono ?_
  rintro e w' ⟨v, rfl, ho, hb⟩
  obtain ⟨B, c', rfl, _, _⟩ := own_res ho rfl
  exact ⟨B, c', rfl, hb⟩
theorem openAfter_spec (g c : Nat) (zs : List Int) (m q : Int) (y : Bool) (hn : zs.length ≤ 12) (w : World) (hI : Ins w g (g + 1) (some ⟨g, 0, none⟩) (afters zs m q y)) :
    Calls Try.prog 109 #[.agg #[.slice (some ⟨g, 0, none⟩) zs.length c, .int .i64 m]] w fun e w' => ∃ B c', e = .returned (.slice B (opens (afters zs m q y)).length c') ∧ Below w.heap.size w w' := by
  have := l2Open_any (some ⟨g, 0, none⟩) c g (g + 1) (afters zs m q y) m w hI (by rw [afters_len]; exact hn)
  rw [afters_len] at this
  refine this.mono ?_
  rintro e w' ⟨v, rfl, ho, hb⟩
  obtain ⟨B, c', rfl, _, _⟩ := own_res ho rfl
  exact ⟨B, c', rfl, hb⟩
/-- Whether an answer can be given. -/
def can (zs : List Int) (m q : Int) (y : Bool) : Bool := decide (0 < (opens (afters zs m q y)).length)

set_option maxRecDepth 100000 in
set_option maxHeartbeats 2000000 in
theorem canAnswer_impl (A : Option Addr) (c lo hi : Nat) (zs : List Int) (m q : Int) (y : Bool) (w : World) (hS : Ins w lo hi A zs) (hst : isSt zs m = true) (hq : qOK zs.length q = true) :
    Calls Try.prog 46 #[.agg #[.slice A zs.length c, .int .i64 m], .agg #[.int .i64 q, .bool y]] w fun e w' => e = .returned (.tuple #[.bool (can zs m q y), .bool true]) ∧ Below w.heap.size w w' := by
  have HT := Lib.hid (Two.new w (.slice A zs.length c) (.int .i64 m) 26 w.heap.size rfl)
  have HB := Lib.hid ((Below.refl w.heap.size w).alloc (Nat.le_refl _) (.cells #[.slice A zs.length c, .int .i64 m] 26))
  have HU := Lib.hid (Two.new (w.alloc (.cells #[.slice A zs.length c, .int .i64 m] 26)) (.int .i64 q) (.bool y) 54 (w.heap.size + 1) (by simp))
  replace HT := Lib.hid (HT.out.step ((Below.refl _ _).alloc (Nat.le_refl _) (.cells #[.int .i64 q, .bool y] 54)))
  replace HB := Lib.hid (HB.out.alloc HB.out.size (.cells #[.int .i64 q, .bool y] 54))
  have HI := Lib.hid (hS.step HB.out)
  have HAS := Lib.hid (fun W h => answerState_impl A c lo hi zs m q y W h hst hq)
  have HON := Lib.hid (fun g W h => openAfter_impl g zs.length zs m q y hst W h)
  have HCT : Hid (0 < (opens (afters zs m q y)).length → can zs m q y = true) := fun h => decide_eq_true h
  have HCF : Hid (¬ 0 < (opens (afters zs m q y)).length → can zs m q y = false) := fun h => decide_eq_false h
  generalize opens (afters zs m q y) = lo' at HON HCT HCF
  clear hS hst hq
  go_enter Try.func46, Try.ntmps46
  go_wp2_with fail
  generalize ((w.alloc (.cells #[.slice A zs.length c, .int .i64 m] 26)).alloc (.cells #[.int .i64 q, .bool y] 54)) = wa at HT HU HB HI ⊢
  refine (HAS.out wa HI.out).mono ?_
  rintro e wb ⟨g, rfl, hg, hr, hb⟩
  replace HB := Lib.hid (below_trans HB.out hb)
  have hgb : g < wb.heap.size := row_ltI hr
  have HR := Lib.hid (row_ins ((((Below.refl wb.heap.size wb).alloc (Nat.le_refl _) (.cells #[.slice (some ⟨g, 0, none⟩) zs.length zs.length, .int .i64 m] 26)).block g hgb).trans hr))
  have HBX := Lib.hid (HB.out.alloc HB.out.size (.cells #[.slice (some ⟨g, 0, none⟩) zs.length zs.length, .int .i64 m] 26))
  clear hb hr HT HU HI HAS HB
  go_wp2_with fail
  refine (HON.out g _ HR.out).mono ?_
  rintro e wc ⟨B, c', rfl, hb⟩
  have HB := Lib.hid (below_trans HBX.out hb)
  clear hb HR HBX HON
  by_cases hp : 0 < lo'.length
  · have HV := Lib.hid (HCT.out hp)
    have hp' : (0 : Int) < (lo'.length : Int) := by omega
    go_wp2
    go_ret2
    rw [HV.out]
    exact ⟨rfl, HB.out⟩
  · have HV := Lib.hid (HCF.out hp)
    have hp' : ¬ (0 : Int) < (lo'.length : Int) := by omega
    have hl0 : lo'.length = 0 := by omega
    go_wp2
    go_ret2
    rw [HV.out]
    exact ⟨rfl, HB.out⟩
set_option maxHeartbeats 2000000 in
theorem canAnswer_impl_no (A : Option Addr) (c lo hi : Nat) (zs : List Int) (m q : Int) (y : Bool) (w : World) (hS : Ins w lo hi A zs) (hl : zs.length ≤ 1048576) (h : isSt zs m = false ∨ (isSt zs m = true ∧ qOK zs.length q = false)) :
    Calls Try.prog 46 #[.agg #[.slice A zs.length c, .int .i64 m], .agg #[.int .i64 q, .bool y]] w fun e w' => e = .returned (.tuple #[.bool false, .bool false]) ∧ Below w.heap.size w w' := by
  have HT := Lib.hid (Two.new w (.slice A zs.length c) (.int .i64 m) 26 w.heap.size rfl)
  have HB := Lib.hid ((Below.refl w.heap.size w).alloc (Nat.le_refl _) (.cells #[.slice A zs.length c, .int .i64 m] 26))
  have HU := Lib.hid (Two.new (w.alloc (.cells #[.slice A zs.length c, .int .i64 m] 26)) (.int .i64 q) (.bool y) 54 (w.heap.size + 1) (by simp))
  replace HT := Lib.hid (HT.out.step ((Below.refl _ _).alloc (Nat.le_refl _) (.cells #[.int .i64 q, .bool y] 54)))
  replace HB := Lib.hid (HB.out.alloc HB.out.size (.cells #[.int .i64 q, .bool y] 54))
  have HI := Lib.hid (hS.step HB.out)
  have HAS : Hid (∀ W, Ins W lo hi A zs → Calls Try.prog 45 #[.agg #[.slice A zs.length c, .int .i64 m], .agg #[.int .i64 q, .bool y]] W fun e w' => e = .returned (.tuple #[.agg #[.slice none 0 0, .int .i64 0], .bool false]) ∧ Below W.heap.size W w') := fun W hW => by
    rcases h with h | ⟨h1, h2⟩
    · exact answerState_impl_no A c lo hi zs m q y W hW hl h
    · exact answerState_impl_bad A c lo hi zs m q y W hW hl h1 h2
  clear hS h
  go_enter Try.func46, Try.ntmps46
  go_wp2_with fail
  generalize ((w.alloc (.cells #[.slice A zs.length c, .int .i64 m] 26)).alloc (.cells #[.int .i64 q, .bool y] 54)) = wa at HT HU HB HI ⊢
  refine (HAS.out wa HI.out).mono ?_
  rintro e wb ⟨rfl, hb⟩
  replace HB := Lib.hid (below_trans HB.out hb)
  clear hb HT HU HI HAS
  go_wp2
  go_ret2
  exact ⟨rfl, HB.out.alloc HB.out.size _⟩
end Go.Proofs.Ytopgccficjkenaa
