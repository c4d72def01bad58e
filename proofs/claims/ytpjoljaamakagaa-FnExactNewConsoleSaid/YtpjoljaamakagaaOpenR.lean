/- Rooms that come in. -/
import Derived.Test.YtpjoljaamakagaaL12R
import Derived.Test.YtpjoljaamakagaaOpen
namespace Go.Proofs.Ytpjoljaamakagaa
open Go.RowKit Go.ChangeShapes Go.WideShapes Go.ChangeAt
set_option linter.unusedVariables false
set_option linter.unusedSimpArgs false

set_option maxRecDepth 100000 in
set_option maxHeartbeats 4000000 in
theorem room_cells {H : Type} {enc : TypeId × Value → H} {W : World} {fuel : Nat} {l : List Value} (hl : l.length = 15) {x : DataW H × List MemPlace} (hf : DataW.trod enc Try.prog W 0 (fun _ => true) true fuel 24 l = some x) :
    ∃ (p : Nat → Int) (n m c : Int), l.toArray = rmA p n m c ∧ (∀ i, i < 12 → (Lit.int .i64 (p i)).wf = true) ∧ (Lit.int .i64 n).wf = true ∧ (Lit.int .i64 m).wf = true ∧ (Lit.int .i64 c).wf = true := by
  match l, hl with
  | [c0, c1, c2, c3, c4, c5, c6, c7, c8, c9, c10, c11, c12, c13, c14], _ =>
  obtain ⟨xs, k, _, hx, _, hlen, hg⟩ := DataW.trod_struct Try.underlying24 hf
  have e1 : Try.prog.cellsOf 3 = 1 := by kernel_rfl
  have e12 : Try.prog.cellsOf 22 = 12 := by kernel_rfl
  have g0 := hg 0 _ rfl
  have g1 := hg 1 _ rfl
  have g2 := hg 2 _ rfl
  have g3 := hg 3 _ rfl
  match xs, hlen with
  | [y0, y1, y2, y3], _ =>
  simp [e1, e12] at g0 g1 g2 g3
  obtain ⟨ys, k2, _, hx2, _, hl2, ha⟩ := DataW.trod_array Try.underlying22 g0
  match ys, hl2 with
  | [z0, z1, z2, z3, z4, z5, z6, z7, z8, z9, z10, z11], _ =>
  have a0 := ha 0 (by omega)
  have a1 := ha 1 (by omega)
  have a2 := ha 2 (by omega)
  have a3 := ha 3 (by omega)
  have a4 := ha 4 (by omega)
  have a5 := ha 5 (by omega)
  have a6 := ha 6 (by omega)
  have a7 := ha 7 (by omega)
  have a8 := ha 8 (by omega)
  have a9 := ha 9 (by omega)
  have a10 := ha 10 (by omega)
  have a11 := ha 11 (by omega)
  simp [e1] at a0 a1 a2 a3 a4 a5 a6 a7 a8 a9 a10 a11
  obtain ⟨q0, eq0, _, w0⟩ := DataW.trod_int Try.underlying3 a0
  obtain ⟨q1, eq1, _, w1⟩ := DataW.trod_int Try.underlying3 a1
  obtain ⟨q2, eq2, _, w2⟩ := DataW.trod_int Try.underlying3 a2
  obtain ⟨q3, eq3, _, w3⟩ := DataW.trod_int Try.underlying3 a3
  obtain ⟨q4, eq4, _, w4⟩ := DataW.trod_int Try.underlying3 a4
  obtain ⟨q5, eq5, _, w5⟩ := DataW.trod_int Try.underlying3 a5
  obtain ⟨q6, eq6, _, w6⟩ := DataW.trod_int Try.underlying3 a6
  obtain ⟨q7, eq7, _, w7⟩ := DataW.trod_int Try.underlying3 a7
  obtain ⟨q8, eq8, _, w8⟩ := DataW.trod_int Try.underlying3 a8
  obtain ⟨q9, eq9, _, w9⟩ := DataW.trod_int Try.underlying3 a9
  obtain ⟨q10, eq10, _, w10⟩ := DataW.trod_int Try.underlying3 a10
  obtain ⟨q11, eq11, _, w11⟩ := DataW.trod_int Try.underlying3 a11
  obtain ⟨r0, er0, _, v0⟩ := DataW.trod_int Try.underlying3 g1
  obtain ⟨r1, er1, _, v1⟩ := DataW.trod_int Try.underlying3 g2
  obtain ⟨r2, er2, _, v2⟩ := DataW.trod_int Try.underlying3 g3
  simp at eq0 eq1 eq2 eq3 eq4 eq5 eq6 eq7 eq8 eq9 eq10 eq11 er0 er1 er2
  subst eq0 eq1 eq2 eq3 eq4 eq5 eq6 eq7 eq8 eq9 eq10 eq11 er0 er1 er2
  refine ⟨fun i => [q0, q1, q2, q3, q4, q5, q6, q7, q8, q9, q10, q11].getD i 0, r0, r1, r2, rfl, fun i hi => ?_, v0, v1, v2⟩
  match i, hi with
  | 0, _ => exact w0
  | 1, _ => exact w1
  | 2, _ => exact w2
  | 3, _ => exact w3
  | 4, _ => exact w4
  | 5, _ => exact w5
  | 6, _ => exact w6
  | 7, _ => exact w7
  | 8, _ => exact w8
  | 9, _ => exact w9
  | 10, _ => exact w10
  | 11, _ => exact w11
set_option maxRecDepth 100000 in
theorem room_of_trod {H : Type} {enc : TypeId × Value → H} {W : World} {base : Nat} {v : Value} {d : DataW H} {ps : List MemPlace}
    (hv : Value.okWide Try.prog W .any base 24 v) (h : DataW.Trod enc Try.prog W 0 (fun _ => true) true 24 v d ps) :
    ∃ (p : Nat → Int) (n m c : Int), v = .agg (rmA p n m c) ∧ (∀ i, i < 12 → (Lit.int .i64 (p i)).wf = true) ∧ (Lit.int .i64 n).wf = true ∧ (Lit.int .i64 m).wf = true ∧ (Lit.int .i64 c).wf = true := by
  obtain ⟨cs, rfl, hsz⟩ := okWide_struct Try.underlying24 hv
  rw [show Try.prog.cellsOf 24 = 15 by kernel_rfl] at hsz
  obtain ⟨fuel, hf⟩ := h
  have hl : cs.toList.length = 15 := by simpa using hsz
  obtain ⟨p, n, m, c, e, r⟩ := room_cells hl hf
  refine ⟨p, n, m, c, ?_, r⟩
  rw [← e]
end Go.Proofs.Ytpjoljaamakagaa
