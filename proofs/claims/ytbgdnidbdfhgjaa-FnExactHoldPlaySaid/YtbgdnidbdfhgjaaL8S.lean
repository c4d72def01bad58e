/- The answerer of the program: the states behind both answers to each question, in order. -/
import Derived.Test.YtbgdnidbdfhgjaaL8A
import Derived.Test.YtbgdnidbdfhgjaaRow8
namespace Go.Proofs.Ytbgdnidbdfhgjaa
open Go.RowKit Go.ChangeShapes Go.WideShapes Go.Maps
set_option linter.unusedVariables false

theorem infoS8 : (Try.prog.info? 27).map (fun i => (i.zero, i.size, i.bytes)) = some (some (.agg #[.slice none 0 0, .int .i64 0]), 2, 32) := by kernel_rfl
def cellsS (n : Nat) (m : Int) : List (Nat × List Int) → List Value
  | [] => []
  | x :: r => .slice (some ⟨x.1, 0, none⟩) n n :: .int .i64 m :: cellsS n m r
theorem cellsS_len (n : Nat) (m : Int) : ∀ L, (cellsS n m L).length = L.length * 2
  | [] => rfl
  | x :: r => by show (cellsS n m r).length + 1 + 1 = _; rw [cellsS_len n m r, List.length_cons]; omega
theorem cellsS_at (n : Nat) (m : Int) : ∀ (L : List (Nat × List Int)) (j : Nat) (x : Nat × List Int), L[j]? = some x → (cellsS n m L)[j * 2]? = some (.slice (some ⟨x.1, 0, none⟩) n n) ∧ (cellsS n m L)[j * 2 + 1]? = some (.int .i64 m)
  | [], j, x, h => by simp at h
  | y :: r, 0, x, h => by simp at h; subst h; exact ⟨rfl, rfl⟩
  | y :: r, j + 1, x, h => by
    have := cellsS_at n m r j x (by simpa using h)
    rw [show (j + 1) * 2 = j * 2 + 1 + 1 by omega]
    simpa [cellsS] using this
theorem cellsS_app (n : Nat) (m : Int) : ∀ (L K : List (Nat × List Int)), cellsS n m (L ++ K) = cellsS n m L ++ cellsS n m K
  | [], K => rfl
  | x :: r, K => by show _ :: _ :: cellsS n m (r ++ K) = _; rw [cellsS_app n m r K]; rfl
/-- A row of states of n numbers each, made from B on: each one's numbers lie in a block of their own. -/
structure SMade (w : World) (B n : Nat) (m : Int) (v : Value) (L : List (Nat × List Int)) : Prop where
  own : w.ownsRow B 27 2 v L.length (cellsS n m L)
  each : ∀ (j : Nat) (x : Nat × List Int), L[j]? = some x → B ≤ x.1 ∧ x.2.length = n ∧ w.heap[x.1]? = some (.cells (x.2.map (Value.int .i64)).toArray 3 (0, 0))
theorem SMade.step {w w' : World} {B n : Nat} {m : Int} {v : Value} {L : List (Nat × List Int)} (h : SMade w B n m v L) (hb : Below w.heap.size w w') : SMade w' B n m v L :=
  ⟨past8 h.own (Past.of_below hb), fun j x hx => ⟨(h.each j x hx).1, (h.each j x hx).2.1, (hb.block _ (row_ltI (h.each j x hx).2.2)).trans (h.each j x hx).2.2⟩⟩
theorem SMade.base {w : World} {B B' n : Nat} {m : Int} {v : Value} {L : List (Nat × List Int)} (h : SMade w B n m v L) (hB : B' ≤ B) : SMade w B' n m v L := ⟨base8 h.own hB, fun j x hx => ⟨Nat.le_trans hB (h.each j x hx).1, (h.each j x hx).2⟩⟩
theorem SMade.slice {w : World} {B n : Nat} {m : Int} {v : Value} {L : List (Nat × List Int)} (h : SMade w B n m v L) : ∃ A c, v = .slice A L.length c := by
  rcases h.own.2 with ⟨rfl, h0⟩ | ⟨g, cap, cur, rfl, _⟩
  · exact ⟨none, 0, by rw [h0]⟩
  · exact ⟨_, cap, rfl⟩
theorem SMade.at_ {w : World} {B n k : Nat} {m : Int} {A : Option Addr} {N c : Nat} {L : List (Nat × List Int)} (h : SMade w B n m (.slice A N c) L) (hk : k < L.length) :
    ∃ b, A = some ⟨b, 0, none⟩ ∧ b < w.heap.size ∧ w.cell? ⟨b, k * 2, none⟩ = some (.slice (some ⟨L[k].1, 0, none⟩) n n) ∧ w.cell? ⟨b, k * 2 + 1, none⟩ = some (.int .i64 m) ∧ L[k].2.length = n ∧ B ≤ L[k].1 ∧ Ins w L[k].1 (L[k].1 + 1) (some ⟨L[k].1, 0, none⟩) L[k].2 ∧ B ≤ b := by
  have hx : L[k]? = some L[k] := List.getElem?_eq_getElem hk
  obtain ⟨e0, e1, e2⟩ := h.each k _ hx
  obtain ⟨c1, c2⟩ := cellsS_at n m L k _ hx
  rcases h.own.2 with ⟨_, h0⟩ | ⟨g, cap, cur, hv, hb, hg, hl, hm, hs, ht⟩
  · omega
  · injection hv with hv1 hv2 hv3
    subst hv1
    refine ⟨g, rfl, row_ltI hg, ?_, ?_, e1, e0, ⟨?_, row_ltI e2⟩, hb⟩
    · rw [row_cellI hg, ← c1, ← ht, List.getElem?_take_of_lt (by omega)]
      simp
    · rw [row_cellI hg, ← c2, ← ht, List.getElem?_take_of_lt (by omega)]
      simp
    · intro h0
      exact ⟨_, 0, rfl, Nat.le_refl _, Nat.lt_succ_self _, fun j x hx => by rw [Nat.zero_add, row_cellI e2]; simp [hx]⟩
theorem cell_four_new (w : World) (x y z u : Value) (t : TypeId) : ∀ j v, [x, y, z, u][j]? = some v → (w.alloc (.cells #[x, y, z, u] t)).cell? ((⟨w.heap.size, 0, none⟩ : Addr).add j) = some v := by
  intro j v hj
  match j, hj with
  | 0, hj => simp at hj; subst hj; simp [Addr.add]
  | 1, hj => simp at hj; subst hj; simp [Addr.add]
  | 2, hj => simp at hj; subst hj; simp [Addr.add]
  | 3, hj => simp at hj; subst hj; simp [Addr.add]
  | j + 4, hj => simp at hj
theorem cell_four_at (w : World) (x y z u : Value) (t : TypeId) (g : Nat) (hg : g = w.heap.size) : ∀ j v, [x, y, z, u][j]? = some v → (w.alloc (.cells #[x, y, z, u] t)).cell? ((⟨g, 0, none⟩ : Addr).add j) = some v := by
  subst hg
  exact cell_four_new w x y z u t
theorem SMade.grown2 {w w' : World} {B n N : Nat} {m : Int} {v v' : Value} {L : List (Nat × List Int)} {o1 o2 : Obj} {a b : Nat} {y z : List Int} (h : SMade w B n m v L) (hn : L.length = N)
    (ha : B ≤ a ∧ y.length = n ∧ w.heap[a]? = some (.cells (y.map (Value.int .i64)).toArray 3 (0, 0))) (hb : B ≤ b ∧ z.length = n ∧ w.heap[b]? = some (.cells (z.map (Value.int .i64)).toArray 3 (0, 0)))
    (ho : w'.ownsRow B 27 2 v' (N + 2) (cellsS n m L ++ [.slice (some ⟨a, 0, none⟩) n n, .int .i64 m, .slice (some ⟨b, 0, none⟩) n n, .int .i64 m])) (hg : ((w.alloc o1).alloc o2).grownBy w' v.ownBlock) :
    SMade w' B n m v' (L ++ [(a, y), (b, z)]) := by
  subst hn
  have key : ∀ (g : Nat) (cs : Array Value), w.heap[g]? = some (.cells cs 3 (0, 0)) → w'.heap[g]? = some (.cells cs 3 (0, 0)) := fun g cs t => by
    have t1 : (w.alloc o1).heap[g]? = some (.cells cs 3 (0, 0)) := (((Below.refl _ w).alloc (Nat.le_refl _) o1).block g (row_ltI t)).trans t
    exact (grown_block8 (h.own.alloc o1) t1 (by decide) hg).trans t1
  refine ⟨?_, fun j x hx => ?_⟩
  · rw [cellsS_app, List.length_append]
    exact ho
  · by_cases hj : j < L.length
    · rw [List.getElem?_append_left hj] at hx
      exact ⟨(h.each j x hx).1, (h.each j x hx).2.1, key _ _ (h.each j x hx).2.2⟩
    · rw [List.getElem?_append_right (by omega)] at hx
      match hd : j - L.length, hx with
      | 0, hx => simp at hx; subst hx; exact ⟨ha.1, ha.2.1, key _ _ ha.2.2⟩
      | 1, hx => simp at hx; subst hx; exact ⟨hb.1, hb.2.1, key _ _ hb.2.2⟩
      | i + 2, hx => simp at hx
/-- A row of states that is read: each one's numbers lie below D, or from E on, and below C. -/
structure SIns (w : World) (C D E n : Nat) (m : Int) (A0 : Option Addr) (L0 : List (Option Addr × Nat × List Int)) : Prop where
  at_ : ∀ (k : Nat) (h : k < L0.length), ∃ b, A0 = some ⟨b, 0, none⟩ ∧ (E ≤ b ∧ b < C) ∧ w.cell? ⟨b, k * 2, none⟩ = some (.slice L0[k].1 n L0[k].2.1) ∧ w.cell? ⟨b, k * 2 + 1, none⟩ = some (.int .i64 m) ∧ L0[k].2.2.length = n ∧ ∃ lo hi, (hi ≤ C ∧ (hi ≤ D ∨ E ≤ lo)) ∧ Ins w lo hi L0[k].1 L0[k].2.2
  top : C ≤ w.heap.size
theorem Ins.same {w w' : World} {lo hi : Nat} {A : Option Addr} {zs : List Int} (h : Ins w lo hi A zs) (hp : ∀ i, lo ≤ i → i < hi → w'.heap[i]? = w.heap[i]?) (hs : w.heap.size ≤ w'.heap.size) : Ins w' lo hi A zs :=
  ⟨fun h0 => by
    obtain ⟨b, o, e, h1, h2, hc⟩ := h.ints h0
    exact ⟨b, o, e, h1, h2, fun j x hx => (World.cell?_of_block (hp b h1 h2)).trans (hc j x hx)⟩, Nat.le_trans h.top hs⟩
theorem SIns.apart {w w' : World} {C D E n : Nat} {m : Int} {A0 : Option Addr} {L0 : List (Option Addr × Nat × List Int)} (h : SIns w C D E n m A0 L0) (hp : ∀ i, i < C → (i < D ∨ E ≤ i) → w'.heap[i]? = w.heap[i]?) (hs : w.heap.size ≤ w'.heap.size) : SIns w' C D E n m A0 L0 :=
  ⟨fun k hk => by
    obtain ⟨b, e, hb, c0, c1, hl, lo, hi, hh, hI⟩ := h.at_ k hk
    exact ⟨b, e, hb, (World.cell?_of_block (hp b hb.2 (.inr hb.1))).trans c0, (World.cell?_of_block (hp b hb.2 (.inr hb.1))).trans c1, hl, lo, hi, hh, hI.same (fun i h1 h2 => hp i (by omega) (by omega)) hs⟩, Nat.le_trans h.top hs⟩
theorem SIns.past {w w' : World} {B C D E n : Nat} {m : Int} {A0 : Option Addr} {L0 : List (Option Addr × Nat × List Int)} (h : SIns w C D E n m A0 L0) (hp : Past B w w') (hB : C ≤ B) : SIns w' C D E n m A0 L0 :=
  h.apart (fun i hi _ => hp.block i (Nat.lt_of_lt_of_le hi h.top) (Nat.lt_of_lt_of_le hi hB)) hp.size
theorem SIns.step {w w' : World} {C D E n : Nat} {m : Int} {A0 : Option Addr} {L0 : List (Option Addr × Nat × List Int)} (h : SIns w C D E n m A0 L0) (hb : Below w.heap.size w w') : SIns w' C D E n m A0 L0 := h.past (Past.of_below hb) h.top
def asArg (n : Nat) (L : List (Nat × List Int)) : List (Option Addr × Nat × List Int) := L.map fun x => (some ⟨x.1, 0, none⟩, n, x.2)
theorem asArg_len (n : Nat) (L : List (Nat × List Int)) : (asArg n L).length = L.length := by simp [asArg]
theorem asArg_map (n : Nat) (L : List (Nat × List Int)) : (asArg n L).map (fun x => x.2.2) = L.map Prod.snd := by simp [asArg]
theorem SMade.ins {w : World} {B D E n N c : Nat} {m : Int} {A : Option Addr} {L : List (Nat × List Int)} (h : SMade w B n m (.slice A N c) L) (hE : E ≤ B) : SIns w w.heap.size D E n m A (asArg n L) :=
  ⟨fun k hk => by
    have hk' : k < L.length := by rw [asArg_len] at hk; exact hk
    obtain ⟨b, e, hb, c0, c1, hl, h0, hI, h9⟩ := h.at_ hk'
    have e2 : (asArg n L)[k] = (some ⟨L[k].1, 0, none⟩, n, L[k].2) := by simp [asArg]
    rw [e2]
    exact ⟨b, e, ⟨by omega, hb⟩, c0, c1, hl, _, _, ⟨hI.top, .inr (by omega)⟩, hI⟩, Nat.le_refl _⟩
theorem S0_any (w : World) (B n : Nat) (m : Int) (h : B ≤ w.heap.size) : SMade (w.alloc (.cells #[] 27)) B n m (.slice (some ⟨w.heap.size, 0, none⟩) 0 0) [] :=
  ⟨World.ownsRow_lit w (e := 27) (size := 2) (base := B) #[] 0 h (by unfold maxLen; omega) rfl, fun j x hx => by simp at hx⟩
theorem behindL_take (m q : Int) (L : List (List Int)) (k : Nat) (h : k < L.length) : behindL m q (L.take (k + 1)) = behindL m q (L.take k) ++ [afters L[k] m q false, afters L[k] m q true] := by
  rw [List.take_succ_eq_append_getElem h, behindL_app]
  rfl

set_option maxRecDepth 100000 in
set_option maxHeartbeats 8000000 in
theorem behindEach_any (C D E n : Nat) (m q : Int) (A0 : Option Addr) (N c0 : Nat) (L0 : List (Option Addr × Nat × List Int)) (w : World) (hS : SIns w C D E n m A0 L0) (hN : L0.length = N) (hN2 : N ≤ 256) (hq : qOK n q = true) (hst : ∀ (j : Nat) (x : Option Addr × Nat × List Int), L0[j]? = some x → isSt x.2.2 m = true) :
    Calls Try.prog 112 #[.slice A0 N c0, .int .i64 q] w fun e w' => ∃ v L, e = .returned v ∧ SMade w' w.heap.size n m v L ∧ L.map Prod.snd = behindL m q (L0.map fun x => x.2.2) ∧ Below w.heap.size w w' := by
  obtain ⟨i0, hi0, hz0, hz1, hz2⟩ := info_parts infoS8
  have HS := Lib.hid hS
  have HST := Lib.hid hst
  have HQ := Lib.hid hq
  have HN := Lib.hid hN
  have hNI : (0 : Int) ≤ (N : Int) := by omega
  have hCt := hS.top
  clear hS hst hq hN
  have HM0 := Lib.hid (S0_any w w.heap.size n m (Nat.le_refl _))
  have HB0 := Lib.hid ((Below.refl w.heap.size w).alloc (Nat.le_refl _) (.cells #[] 27))
  replace HS := Lib.hid (HS.out.step HB0.out)
  go_enter Try.func112, Try.ntmps112
  go_wp2_with fail
  generalize w.alloc (.cells #[] 27) = w0 at HM0 HB0 HS ⊢
  go_loopw [5, 15] (fun bv i wr => ∃ (k : Nat) (L : List (Nat × List Int)), k ≤ N ∧ i = .int .i64 (k : Int) ∧ L.length = 2 * k ∧ Hid (L.map Prod.snd = behindL m q ((L0.map fun x => x.2.2).take k)) ∧ Hid (SMade wr w.heap.size n m bv L) ∧ Hid (SIns wr C D E n m A0 L0) ∧ Hid (Below w.heap.size w wr)) (fun _ i _ => N - (intOf i).toNat)
  case atStart => exact ⟨0, [], Nat.zero_le _, rfl, rfl, Lib.hid rfl, HM0, HS, HB0⟩
  case round =>
    clear HM0 HS HB0
    obtain ⟨k, L, hk, rfl, hL, HE, HM, HS, HB⟩ := hrel
    by_cases hlt : k < N
    · have hkl : k < L0.length := by have := HN.out; omega
      obtain ⟨b, rfl, hb, hc0, hc1, hzl, lo, hi, hhi, hin⟩ := HS.out.at_ k hkl
      have hzs := HST.out k _ (List.getElem?_eq_getElem hkl)
      have HNX := Lib.hid (behindL_take m q (L0.map fun x => x.2.2) k (by rw [List.length_map]; exact hkl))
      rw [List.getElem_map, ← HE.out] at HNX
      generalize L0[k] = x at hc0 hc1 hzl hin hzs HNX
      obtain ⟨Ax, cx, z⟩ := x
      simp only at hc0 hc1 hzl hin hzs HNX
      have HI := Lib.hid hin
      have HA := Lib.hid (fun y W h => answerState_impl Ax cx lo hi z m q y W h hzs (by rw [hzl]; exact HQ.out))
      rw [hzl] at HA
      have HL1 := Lib.hid (show (afters z m q false).length = n by rw [afters_len]; exact hzl)
      have HL2 := Lib.hid (show (afters z m q true).length = n by rw [afters_len]; exact hzl)
      clear hin hzs
      have hki : (k : Int) < (N : Int) := by omega
      have hb1 := (Below.refl wr.heap.size wr).alloc (Nat.le_refl _) (.cells #[.slice Ax n cx, .int .i64 m] 27)
      have HT := Lib.hid (Two.new wr (.slice Ax n cx) (.int .i64 m) 27 wr.heap.size rfl)
      replace HI := Lib.hid (HI.out.step hb1)
      replace HM := Lib.hid (HM.out.step hb1)
      replace HS := Lib.hid (HS.out.step hb1)
      replace HB := Lib.hid (below_trans HB.out hb1)
      clear hb1
      go_wp2_with fail
      generalize wr.alloc (.cells #[.slice Ax n cx, .int .i64 m] 27) = w1 at HT HI HM HS HB ⊢
      with_reducible refine (HA.out false w1 HI.out).mono ?_
      rintro e w2 ⟨g1, rfl, hg1, hr1, hb⟩
      replace hg1 : w.heap.size ≤ g1 := Nat.le_trans HB.out.size hg1
      replace HT := Lib.hid (HT.out.step hb)
      replace HI := Lib.hid (HI.out.step hb)
      replace HM := Lib.hid (HM.out.step hb)
      replace HS := Lib.hid (HS.out.step hb)
      replace HB := Lib.hid (below_trans HB.out hb)
      have HR1 := Lib.hid hr1
      clear hb hr1 hc0 hc1
      have hb1 := (Below.refl w2.heap.size w2).alloc (Nat.le_refl _) (.cells #[.slice (some ⟨g1, 0, none⟩) n n, .int .i64 m] 27)
      have HT2 := Lib.hid (Two.new w2 (.slice (some ⟨g1, 0, none⟩) n n) (.int .i64 m) 27 w2.heap.size rfl)
      have h0 := HT.out.c0
      have h1 := HT.out.c1
      have hlt2 := HT.out.lt
      replace HI := Lib.hid (HI.out.step hb1)
      replace HM := Lib.hid (HM.out.step hb1)
      replace HS := Lib.hid (HS.out.step hb1)
      replace HB := Lib.hid (below_trans HB.out hb1)
      replace HR1 := Lib.hid ((hb1.block g1 (row_ltI HR1.out)).trans HR1.out)
      clear hb1
      go_wp2_with fail
      generalize w2.alloc (.cells #[.slice (some ⟨g1, 0, none⟩) n n, .int .i64 m] 27) = w3 at HT2 HI HM HS HB HR1 ⊢
      with_reducible refine (HA.out true w3 HI.out).mono ?_
      rintro e w4 ⟨g2, rfl, hg2, hr2, hb⟩
      replace hg2 : w.heap.size ≤ g2 := Nat.le_trans HB.out.size hg2
      have HR2 := Lib.hid hr2
      replace HT2 := Lib.hid (HT2.out.step hb)
      replace HM := Lib.hid (HM.out.step hb)
      replace HS := Lib.hid (HS.out.step hb)
      replace HB := Lib.hid (below_trans HB.out hb)
      replace HR1 := Lib.hid ((hb.block g1 (row_ltI HR1.out)).trans HR1.out)
      clear hb hr2 h0 h1 HI HT hlt2
      have h0 := HT2.out.c0
      have h1 := HT2.out.c1
      have hlt2 := HT2.out.lt
      have hown := HM.out.own
      have hws := HB.out.size
      clear HA
      go_wp2_with (at_builtin; go_loud (refine wpList_append_own _ rfl _ _ 85 rfl w.heap.size 27 i0 (.agg #[.slice none 0 0, .int .i64 0]) 2 32 Try.underlying85 hi0 hz0 hz1 hz2 rfl (by decide) _ _ _ rfl ((hown.alloc _).alloc _) ⟨_, 0, none⟩ 2 2 [.slice (some ⟨g1, 0, none⟩) n n, .int .i64 m, .slice (some ⟨g2, 0, none⟩) n n, .int .i64 m] rfl rfl (cell_four_at _ _ _ _ _ _ _ (by simp)) (by simp [Value.oneCell']) (by unfold maxLen; omega) (by omega) (by simp; omega) ?_; intro v' w5 hown' hgrow _))
      have HM2 := Lib.hid (HM.out.grown2 rfl ⟨hg1, HL1.out, HR1.out⟩ ⟨hg2, HL2.out, HR2.out⟩ hown' hgrow)
      have hps := (Past.of_below ((Below.refl _ w4).alloc (Nat.le_refl _) _)).trans (pastGrown8 (hown.alloc _) hgrow)
      replace HB := Lib.hid (HB.out.trans (hps.below (Nat.le_refl _) hws))
      have HS2 := Lib.hid (HS.out.past hps hCt)
      have HNE : Hid ((L ++ [(g1, afters z m q false), (g2, afters z m q true)]).map Prod.snd = behindL m q ((L0.map fun x => x.2.2).take (k + 1))) := Lib.hid (by rw [List.map_append, HNX.out]; rfl)
      have hL2 : (L ++ [(g1, afters z m q false), (g2, afters z m q true)]).length = 2 * (k + 1) := by rw [List.length_append, hL]; simp; omega
      clear hown' hgrow hown HM hps HS HNX HE h0 h1 HR1 HR2 HT2
      generalize L ++ [(g1, afters z m q false), (g2, afters z m q true)] = L2 at HM2 HNE hL2
      clear hL
      go_wp2
      go_roundw
      case rel => exact ⟨k + 1, L2, by omega, by go_num, by omega, HNE, HM2, HS2, HB⟩
      case measure => simp [intOf]; omega
    · obtain rfl : k = N := by omega
      go_wp2
      go_ret
      have e : (L0.map fun x => x.2.2).take L0.length = L0.map fun x => x.2.2 := by
        rw [List.take_of_length_le (by rw [List.length_map]; exact Nat.le_refl _)]
      rw [HN.out] at e
      exact ⟨_, L, rfl, HM.out, by rw [HE.out, e], HB.out⟩
set_option maxRecDepth 100000 in
set_option maxHeartbeats 8000000 in
theorem endsOf_any (A : Option Addr) (c lo hi : Nat) (zs : List Int) (m : Int) (A2 : Option Addr) (c2 lo2 hi2 : Nat) (qs : List Int) (w : World) (hS : Ins w lo hi A zs) (hQ : Ins w lo2 hi2 A2 qs) (hL : Listed zs m qs) (D E : Nat) (hD : hi ≤ D) (hE : E ≤ w.heap.size) :
    Calls Try.prog 86 #[.agg #[.slice A zs.length c, .int .i64 m], .slice A2 qs.length c2] w fun e w' => ∃ A0 c0 L0, e = .returned (.slice A0 (2 ^ qs.length) c0) ∧ SIns w' w'.heap.size D E zs.length m A0 L0 ∧ L0.map (fun x => x.2.2) = endsL m [zs] qs ∧ Below w.heap.size w w' := by
  have HL := Lib.hid hL
  have h8 := hL.q8
  have htop := hS.top
  have htop2 := hQ.top
  have hb1 := (Below.refl w.heap.size w).alloc (Nat.le_refl _) (.cells #[.slice A zs.length c, .int .i64 m] 27)
  have hb2 := hb1.alloc hb1.size (.cells #[.slice A zs.length c, .int .i64 m] 27)
  have HB := Lib.hid hb2
  have HQ := Lib.hid (hQ.step hb2)
  have HI := Lib.hid (hS.step hb2)
  have HR := Lib.hid (alloc_row (w.alloc (.cells #[.slice A zs.length c, .int .i64 m] 27)) #[.slice A zs.length c, .int .i64 m] 27)
  have hsz : (w.alloc (.cells #[.slice A zs.length c, .int .i64 m] 27)).heap.size = w.heap.size + 1 := by simp
  rw [hsz] at HR
  clear hS hQ hL hb1 hb2 hsz
  go_enter Try.func86, Try.ntmps86
  go_wp2_with fail
  generalize (w.alloc (.cells #[.slice A zs.length c, .int .i64 m] 27)).alloc (.cells #[.slice A zs.length c, .int .i64 m] 27) = w0 at HB HQ HI HR ⊢
  have HS0 : Hid (SIns w0 w0.heap.size D E zs.length m (some ⟨w.heap.size + 1, 0, none⟩) [(A, c, zs)]) := Lib.hid ⟨fun k hk => by
    have : k = 0 := by simp at hk; omega
    subst this
    exact ⟨_, rfl, ⟨by omega, row_ltI HR.out⟩, by rw [row_cellI HR.out]; rfl, by rw [row_cellI HR.out]; rfl, rfl, lo, hi, ⟨HI.out.top, .inl hD⟩, HI.out⟩, Nat.le_refl _⟩
  clear HR HI
  go_loopw [5, 12] (fun ev i wr => ∃ (k : Nat) (A0 : Option Addr) (c0 : Nat) (L0 : List (Option Addr × Nat × List Int)), k ≤ qs.length ∧ i = .int .i64 (k : Int) ∧ ev = .slice A0 (2 ^ k) c0 ∧ Hid (SIns wr wr.heap.size D E zs.length m A0 L0) ∧ Hid (L0.map (fun x => x.2.2) = endsL m [zs] (qs.take k)) ∧ Hid (Ins wr lo2 hi2 A2 qs) ∧ Hid (Below w.heap.size w wr)) (fun _ i _ => qs.length - (intOf i).toNat)
  case atStart => exact ⟨0, _, 1, _, Nat.zero_le _, rfl, rfl, HS0, Lib.hid rfl, HQ, HB⟩
  case round =>
    clear HS0 HQ HB
    obtain ⟨k, A0, c0, L0, hk, rfl, rfl, HS, HE, HQ, HB⟩ := hrel
    by_cases hlt : k < qs.length
    · obtain ⟨b, o, rfl, _, hb, hc⟩ := HQ.out.ints.at_ hlt
      have hki : (k : Int) < (qs.length : Int) := by omega
      have HNX := Lib.hid (endsL_take m qs [zs] k hlt)
      have hq := HL.out.ok _ (List.getElem_mem hlt)
      generalize qs[k] = x at hc hq HNX
      have hlen : L0.length = 2 ^ k := by
        have e := congrArg List.length HE.out
        rw [List.length_map, endsL_len, List.length_take, List.length_singleton, Nat.mul_one] at e
        rw [e, Nat.min_eq_left (by omega)]
      have h256 : 2 ^ k ≤ 256 := Nat.le_trans (Nat.pow_le_pow_right (by omega) (show k ≤ 8 by omega)) (by decide)
      have HA := Lib.hid (fun W h => behindEach_any wr.heap.size D E zs.length m x A0 (2 ^ k) c0 L0 W h hlen h256 hq (fun j y hy => by
        have hm : y.2.2 ∈ L0.map (fun x => x.2.2) := List.mem_map.2 ⟨y, List.mem_of_getElem? hy, rfl⟩
        rw [HE.out] at hm
        exact (endsL_all m zs.length _ _ (fun z hz => by
          have : z = zs := by simpa using hz
          subst this
          exact ⟨rfl, HL.out.st⟩) _ hm).2))
      go_wp2_with fail
      with_reducible refine (HA.out wr HS.out).mono ?_
      rintro e w2 ⟨v, L, rfl, hm, he, hb2⟩
      obtain ⟨Av, cv, rfl⟩ := hm.slice
      have HS2 := Lib.hid (hm.ins (D := D) (E := E) (Nat.le_trans hE HB.out.size))
      have HQ2 := Lib.hid (HQ.out.step hb2)
      have HB2 := Lib.hid (below_trans HB.out hb2)
      have HE2 : Hid ((asArg zs.length L).map (fun x => x.2.2) = endsL m [zs] (qs.take (k + 1))) := Lib.hid (by rw [asArg_map, he, HNX.out, HE.out])
      have hl2 : L.length = 2 ^ (k + 1) := by
        have e := congrArg List.length he
        rw [List.length_map, behindL_len, List.length_map, hlen] at e
        rw [e, Nat.pow_succ, Nat.mul_comm]
      rw [hl2]
      clear hm he hb2 HS HQ HB HE HNX HA hlen hl2
      go_wp2
      go_roundw
      case rel => exact ⟨k + 1, _, _, _, by omega, by go_num, rfl, HS2, HE2, HQ2, HB2⟩
      case measure => simp [intOf]; omega
    · obtain rfl : k = qs.length := by omega
      go_wp2
      go_ret
      rw [List.take_length] at HE
      exact ⟨_, _, L0, rfl, HS.out, HE.out, HB.out⟩
end Go.Proofs.Ytbgdnidbdfhgjaa
