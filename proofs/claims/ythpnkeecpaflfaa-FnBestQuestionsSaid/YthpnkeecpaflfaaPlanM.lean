/- Rows of three as values, compared, as keys; the map of plans. -/
import Derived.Test.YthpnkeecpaflfaaNeed2
import Derived.Test.YthpnkeecpaflfaaOwn
import Derived.ChangeKeysEq
import Derived.WideKeyPair
import Derived.Maps.OwnSet
import Derived.Carry
import Derived.WideMake
namespace Go.Proofs.Ythpnkeecpaflfaa
open Go.RowKit Go.ChangeShapes Go.WideShapes Go.Maps
set_option linter.unusedVariables false

def rowV (r : Row) : Value := .agg #[.int .i64 (r.1 : Int), .int .i64 (r.2.1 : Int), .int .i64 (r.2.2 : Int)]
def planV (p : Plan) : Value := .agg #[.int .i64 (p.need : Int), .int .i64 (p.first.1 : Int), .int .i64 (p.first.2.1 : Int), .int .i64 (p.first.2.2 : Int), .int .i64 (p.many : Int)]

theorem under_row : Try.prog.underlying 70 = some (.array 3 3) := by kernel_rfl
theorem eq_row (a b c x y z : Int) (w : World) : (Op.equalIn 10000 70 (.agg #[.int .i64 a, .int .i64 b, .int .i64 c]) (.agg #[.int .i64 x, .int .i64 y, .int .i64 z])).run Try.prog w = .ok (decide (a = x) && (decide (b = y) && decide (c = z))) w := by
  obtain ⟨i0, hi0, hz0, hz1, hz2⟩ := info_parts infoI3
  rw [show (10000 : Nat) = 9999 + 1 from rfl, run_equalIn_array w 9999 _ _ under_row hi0]
  have hc : Try.prog.cellsOf 3 = 1 := by kernel_rfl
  have he : Try.prog.plainKey 3 = true := by kernel_rfl
  have hu : Try.prog.underlying 3 = some (.int .i64) := by kernel_rfl
  have p1 := run_part_plain (P := Try.prog) w he (xs := #[.int .i64 a, .int .i64 b, .int .i64 c]) (off := 0) (v := .int .i64 a) rfl
  have p2 := run_part_plain (P := Try.prog) w he (xs := #[.int .i64 a, .int .i64 b, .int .i64 c]) (off := 1) (v := .int .i64 b) rfl
  have p3 := run_part_plain (P := Try.prog) w he (xs := #[.int .i64 a, .int .i64 b, .int .i64 c]) (off := 2) (v := .int .i64 c) rfl
  have p4 := run_part_plain (P := Try.prog) w he (xs := #[.int .i64 x, .int .i64 y, .int .i64 z]) (off := 0) (v := .int .i64 x) rfl
  have p5 := run_part_plain (P := Try.prog) w he (xs := #[.int .i64 x, .int .i64 y, .int .i64 z]) (off := 1) (v := .int .i64 y) rfl
  have p6 := run_part_plain (P := Try.prog) w he (xs := #[.int .i64 x, .int .i64 y, .int .i64 z]) (off := 2) (v := .int .i64 z) rfl
  have q1 := run_equalIn_int (P := Try.prog) w 9998 3 .i64 .i64 a x hu
  have q2 := run_equalIn_int (P := Try.prog) w 9998 3 .i64 .i64 b y hu
  have q3 := run_equalIn_int (P := Try.prog) w 9998 3 .i64 .i64 c z hu
  rw [show (9998 + 1 : Nat) = 9999 from rfl] at q1 q2 q3
  simp [Op.eqItems, List.range, List.range.loop, hc, p1, p2, p3, p4, p5, p6, q1, q2, q3]
  by_cases h1 : a = x <;> by_cases h2 : b = y <;> by_cases h3 : c = z <;> simp [h1, h2, h3]

theorem arrRow : WideMaps.ArrKey Try.prog 70 3 3 := ⟨by kernel_rfl, by kernel_rfl, by kernel_rfl, by kernel_rfl⟩
theorem keyedRow : Keyed Try.prog 70 := Keyed.of_law arrRow.law
theorem keyOf_triple {P : Program} {k e : TypeId} {q : IntKind} (A : WideMaps.ArrKey P k e 3) (he : P.underlying e = some (.int q)) (hsz : ∃ m, P.types.size = m + 1) {a b c : Int} (wa : (Lit.int q a).wf = true) (wb : (Lit.int q b).wf = true) (wc : (Lit.int q c).wf = true) :
    keyOf P k (.agg #[.int q a, .int q b, .int q c]) = some (.string (keyBytes [.int q a, .int q b, .int q c])) := by
  have hkt := A.keyType hsz
  obtain ⟨m, hm⟩ := hsz
  unfold keyOf
  simp only [A.hu]
  rw [if_pos (by simp [hkt, Value.formed, A.hu, A.size]), hm]
  unfold Program.keyLits
  simp only [A.hu, Value.cells]
  rw [if_pos (by rw [A.size]; rfl), show List.range 3 = [0, 1, 2] from rfl, List.mapM_cons, List.mapM_cons, List.mapM_cons, List.mapM_nil]
  simp [A.one, Program.keyLits, he, wa, wb, wc]
def klR (r : Row) : Lit := .string (keyBytes [.int .i64 (r.1 : Int), .int .i64 (r.2.1 : Int), .int .i64 (r.2.2 : Int)])
theorem wf8 (c : Nat) (h : c ≤ 8) : (Lit.int .i64 (c : Int)).wf = true := by
  have : ∀ c : Nat, c ≤ 8 → (Lit.int .i64 (c : Int)).wf = true := by decide +kernel
  exact this c h
theorem under_int : Try.prog.underlying 3 = some (.int .i64) := by kernel_rfl
theorem types_pos : ∃ m, Try.prog.types.size = m + 1 := ⟨Try.prog.types.size - 1, by kernel_rfl⟩
theorem keyRow {r : Row} (h : rsum r ≤ 8) : keyOf Try.prog 70 (.agg #[.int .i64 (r.1 : Int), .int .i64 (r.2.1 : Int), .int .i64 (r.2.2 : Int)]) = some (klR r) := by
  unfold rsum at h
  exact keyOf_triple arrRow under_int types_pos (wf8 _ (by omega)) (wf8 _ (by omega)) (wf8 _ (by omega))
theorem klR_inj {r s : Row} (hr : rsum r ≤ 8) (hs : rsum s ≤ 8) (h : klR r = klR s) : r = s := by
  have h1 := keyRow hr
  have h2 := keyRow hs
  rw [← h] at h2
  have e := arrRow.law.inj h1 h2
  obtain ⟨a, b, c⟩ := r
  obtain ⟨x, y, z⟩ := s
  simp at e
  simp
  omega
theorem klR_key (r : Row) : WideAt.IsKeyLit (klR r) := True.intro

def heldR (v : Value) : Option (DataW Value × List MemPlace) := some (.held v, [])
def zeroPlan : Value := .agg #[.int .i64 0, .int .i64 0, .int .i64 0, .int .i64 0, .int .i64 0]
/-- How many rows are there. -/
def cntM (D : DataW Value) : Nat := (List.range 729).countP fun k => has D (klR (rowK k))
theorem cntM_le (D : DataW Value) : cntM D ≤ 729 := by
  have := List.countP_le_length (p := fun k => has D (klR (rowK k))) (l := List.range 729)
  simpa [cntM] using this
/-- The map of plans in block M. -/
structure PlanD (w : World) (M : Nat) (D : DataW Value) : Prop where
  owns : w.ownsMap Try.prog 70 heldR M (Maps.size D) D
  size : Maps.size D ≤ cntM D
  told : ∀ r : Row, rsum r ≤ 8 → has D (klR r) = true → D.atKey (klR r) (.held zeroPlan) = .held (planV (planR r))
def PlanM (w : World) (M : Nat) : Prop := ∃ D, PlanD w M D
theorem PlanM.made (w : World) : PlanM (w.alloc (.map #[] 0)) w.heap.size :=
  ⟨.map [], World.ownsMap_made _ _ _ _, Nat.zero_le _, fun r _ h => by cases h⟩
theorem PlanM.heap {w w' : World} {M : Nat} (h : PlanM w M) (hw : w'.heap[M]? = w.heap[M]?) : PlanM w' M := by
  obtain ⟨D, ⟨es, clock, hb, r⟩, h2, h3⟩ := h
  exact ⟨D, ⟨es, clock, hw.trans hb, r⟩, h2, h3⟩
theorem PlanM.lt {w : World} {M : Nat} (h : PlanM w M) : M < w.heap.size := by
  obtain ⟨D, ho, _, _⟩ := h
  exact ho.lt
theorem PlanM.below {w w' : World} {M B : Nat} (h : PlanM w M) (hb : Below B w w') (hM : M < B) : PlanM w' M := h.heap (hb.block _ hM)
theorem PlanM.step {w w' : World} {M : Nat} (h : PlanM w M) (hb : Below w.heap.size w w') : PlanM w' M := h.heap (hb.block _ h.lt)
theorem own_tight {w : World} {M n : Nat} {D : DataW Value} {k : TypeId} (h : w.ownsMap Try.prog k heldR M n D) : w.ownsMap Try.prog k heldR M (Maps.size D) D := by
  obtain ⟨es, clock, hb, F, hs, rfl⟩ := h
  exact ⟨es, clock, hb, F, by simp [Maps.size, length_sorted], rfl⟩
theorem PlanD.put {w w' : World} {M : Nat} {D : DataW Value} (h : PlanD w M D) {r : Row} (h8 : rsum r ≤ 8) (ho : w'.ownsMap Try.prog 70 heldR M (Maps.size D + 1) (D.put (klR r) (.held (planV (planR r))))) : PlanM w' M := by
  have hi := h.owns.isMap
  have ht := h.owns.tidy keyedRow
  refine ⟨_, own_tight ho, ?_, ?_⟩
  · rw [size_put ht]
    have hs := h.size
    have hmono : ∀ k, has D (klR (rowK k)) = true → has (D.put (klR r) (.held (planV (planR r)))) (klR (rowK k)) = true := fun k hk => by
      by_cases e : klR (rowK k) = klR r
      · rw [e]; exact has_put_same hi (klR_key r) _
      · rw [has_put_other e]; exact hk
    cases hh : has D (klR r) with
    | true =>
      simp only [if_true]
      exact Nat.le_trans hs (List.countP_mono_left fun k _ hk => hmono k hk)
    | false =>
      simp only [Bool.false_eq_true, if_false]
      have hk : keyR r < 729 := by
        obtain ⟨a, b, c⟩ := r
        simp only [rsum, keyR] at *
        omega
      have hstep : ∀ n, keyR r < n → (List.range n).countP (fun k => has D (klR (rowK k))) + 1 ≤ (List.range n).countP (fun k => has (D.put (klR r) (.held (planV (planR r)))) (klR (rowK k))) := by
        intro n
        induction n with
        | zero => intro hn; omega
        | succ n ih =>
          intro hn
          rw [List.range_succ, List.countP_append, List.countP_append]
          by_cases e : keyR r = n
          · subst e
            have h1 : (List.range (keyR r)).countP (fun k => has D (klR (rowK k))) ≤ (List.range (keyR r)).countP (fun k => has (D.put (klR r) (.held (planV (planR r)))) (klR (rowK k))) := List.countP_mono_left fun k _ hk => hmono k hk
            simp only [List.countP_singleton, rowK_key h8, hh, has_put_same hi (klR_key r), if_true, Bool.false_eq_true, if_false]
            omega
          · have h1 := ih (by omega)
            have h2 : [n].countP (fun k => has D (klR (rowK k))) ≤ [n].countP (fun k => has (D.put (klR r) (.held (planV (planR r)))) (klR (rowK k))) := List.countP_mono_left fun k _ hk => hmono k hk
            omega
      have := hstep 729 hk
      unfold cntM at *
      omega
  · intro s hs8 hs
    by_cases e : klR s = klR r
    · obtain rfl := klR_inj hs8 h8 e
      exact atKey_put_same hi (klR_key s) _ _
    · rw [has_put_other e] at hs
      rw [atKey_put_other e]
      exact h.told s hs8 hs
theorem planHeld (p : Plan) : heldR (planV p) = some (.held (planV p), []) := rfl
theorem zeroPlan_run (w : World) : (zeroValue 74).run Try.prog w = .ok zeroPlan w := by kernel_rfl
theorem makePlans (w : World) : (Instr.makeMap 67 none).run Try.prog w = .ok (.map (some w.heap.size)) (w.alloc (.map #[] 0)) := by
  simp [Instr.makeMap, Result.andThen]
/-- What is looked up. -/
theorem PlanD.look {w : World} {M : Nat} {D : DataW Value} (h : PlanD w M D) {r : Row} (h8 : rsum r ≤ 8) :
    (has D (klR r) = true ∧ (Instr.lookup 67 (.map (some M)) (.agg #[.int .i64 (r.1 : Int), .int .i64 (r.2.1 : Int), .int .i64 (r.2.2 : Int)]) true).run Try.prog w = .ok (.tuple #[planV (planR r), .bool true]) w) ∨
    (has D (klR r) = false ∧ (Instr.lookup 67 (.map (some M)) (.agg #[.int .i64 (r.1 : Int), .int .i64 (r.2.1 : Int), .int .i64 (r.2.2 : Int)]) true).run Try.prog w = .ok (.tuple #[zeroPlan, .bool false]) w) := by
  obtain ⟨v, ps, hrun, hv⟩ := h.owns.look_ok keyedRow Try.underlying67 (zeroPlan_run w) (zd := .held zeroPlan) (zp := []) rfl (keyRow h8)
  simp only [heldR, Option.some.injEq, Prod.mk.injEq] at hv
  cases hh : has D (klR r) with
  | true =>
    rw [hh] at hrun
    rw [h.told r h8 hh] at hv
    obtain ⟨hv, _⟩ := hv
    injection hv with hv
    subst hv
    exact .inl ⟨rfl, hrun⟩
  | false =>
    rw [hh] at hrun
    rw [atKey_of_not_has hh] at hv
    obtain ⟨hv, _⟩ := hv
    injection hv with hv
    subst hv
    exact .inr ⟨rfl, hrun⟩
end Go.Proofs.Ythpnkeecpaflfaa
