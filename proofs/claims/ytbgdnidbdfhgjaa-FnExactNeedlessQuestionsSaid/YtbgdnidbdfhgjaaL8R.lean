/- The answerer: needless questions, of the program and of the specification. -/
import Derived.Test.YtbgdnidbdfhgjaaL8Q
namespace Go.Proofs.Ytbgdnidbdfhgjaa
open Go.RowKit Go.ChangeShapes Go.WideShapes Go.Maps
set_option linter.unusedVariables false

theorem infoI8 : (Try.prog.info? 3).map (fun i => (i.zero, i.size, i.bytes)) = some (some (.int .i64 0), 1, 8) := by kernel_rfl
theorem wp_append_hr8 {o : Oper} {a : Act} {w : World} {K : Act → World → Prop} {Q : Exit → Act → World → Prop} (s x : Operand) (t : TypeId)
    (ho : o.op = .call { callee := .builtin .append, args := #[s, x], argTypes := #[t, t] }) (vs vx : Value) (hs : a.eval s = vs) (hx : a.eval x = vx) (v' : Value) (w' : World)
    (hr : (Builtin.append_ #[t, t] o.type #[vs, vx]).run Try.prog w = .ok v' w') (h : K (a.put o.dst v') w') : o.wp Try.prog a w K Q := by
  unfold Oper.wp execOp
  simp only [ho, resolve, invoke, builtin, Sem.run_bind, Sem.run_pure, Result.andThen_ok, List.map_toArray, List.map_cons, List.map_nil, hs, hx, hr]
  exact h
theorem row_two_grown8 {w w' : World} {B n b : Nat} {v x y : Value} {xs : List Value} {o : Obj} (h : w.ownsRow B 3 1 v n xs) (t : Two w b x y 27) (hg : (w.alloc o).grownBy w' v.ownBlock) : Two w' b x y 27 := grown_two8 h t (by decide) hg
theorem below_past8 {w w' : World} (h : Below w.heap.size w w') : Past w.heap.size w w' := Past.of_below h
theorem Two.past8 {w w1 w2 : World} {b : Nat} {x y : Value} {t : TypeId} (h : Two w b x y t) (h2 : Past w.heap.size w1 w2) (h1 : Past w.heap.size w w1) : Two w2 b x y t := ⟨((h1.trans h2).block b h.lt h.lt).trans h.row⟩
theorem Ins.past8b {w w1 w2 : World} {lo hi : Nat} {A : Option Addr} {zs : List Int} (h : Ins w lo hi A zs) (h1 : Below w.heap.size w w1) (h2 : Past w.heap.size w1 w2) : Ins w2 lo hi A zs := h.past ((Past.of_below h1).trans h2) h.top
theorem past_below8 {w w1 w2 w3 : World} (h1 : Below w.heap.size w w1) (h2 : Past w.heap.size w1 w2) (h3 : Below w2.heap.size w2 w3) : Below w.heap.size w w3 := by
  have h := ((Past.of_below h1).trans h2).below (Nat.le_refl _) (Nat.le_refl _)
  exact below_trans h h3
/-- The places of all needless questions below k. -/
def needl (m : Int) (zs qs : List Int) (k : Nat) : List Int := filt (fun j => tellB m zs (without8 qs j)) k
theorem Res.top8 {w : World} {lo hi hi' : Nat} {A : Option Addr} {zs : List Int} (h : Res w lo hi A zs) (hl : hi ≤ hi') (ht : hi' ≤ w.heap.size) : Res w lo hi' A zs := ⟨h.own.wide (Nat.le_refl _) hl, ht⟩
set_option maxRecDepth 100000 in
set_option maxHeartbeats 8000000 in
theorem needless_impl_no1 (A : Option Addr) (c lo hi : Nat) (zs : List Int) (m : Int) (A2 : Option Addr) (c2 lo2 hi2 : Nat) (qs : List Int) (w : World) (hS : Ins w lo hi A zs) (hQ : Ins w lo2 hi2 A2 qs) (hn : zs.length ≤ 1048576) (hn2 : qs.length ≤ 1048576) (hok : lOK zs m qs = false) :
    Calls Try.prog 46 #[.agg #[.slice A zs.length c, .int .i64 m], .slice A2 qs.length c2] w fun e w' => ∃ B c', e = .returned (.tuple #[.slice B 0 c', .bool false]) ∧ Res w' w.heap.size w'.heap.size B [] ∧ Below w.heap.size w w' := by
  have HT := Lib.hid (Two.new w (.slice A zs.length c) (.int .i64 m) 27 (w.heap.size) rfl)
  have HB := Lib.hid ((Below.refl w.heap.size w).alloc (Nat.le_refl _) (.cells #[.slice A zs.length c, .int .i64 m] 27))
  have HI := Lib.hid (hS.step HB.out)
  have HQ := Lib.hid (hQ.step HB.out)
  have HG := Lib.hid (fun W h h2 => areListed_any A c lo hi zs m A2 c2 lo2 hi2 qs W h h2 hn hn2)
  rw [hok] at HG
  clear hS hQ hok
  go_enter Try.func46, Try.ntmps46
  go_wp2_with fail
  generalize w.alloc (.cells #[.slice A zs.length c, .int .i64 m] 27) = w0 at HT HB HI HQ ⊢
  have h0 := HT.out.c0
  have h1 := HT.out.c1
  with_reducible refine (HG.out _ HI.out HQ.out).mono ?_
  rintro e w1 ⟨rfl, hb⟩
  replace HT := Lib.hid (HT.out.step hb)
  replace HB := Lib.hid (below_trans HB.out hb)
  replace HI := Lib.hid (HI.out.step hb)
  replace HQ := Lib.hid (HQ.out.step hb)
  replace h0 := HT.out.c0
  replace h1 := HT.out.c1
  clear hb
  clear h0 h1
  go_wp2
  go_ret2
  first | exact ⟨_, _, rfl, empty_res _ _ HB.out.size, HB.out.alloc HB.out.size _⟩ | exact ⟨_, ⟨_, rfl⟩, empty_res _ _ HB.out.size, HB.out.alloc HB.out.size _⟩
set_option maxRecDepth 100000 in
set_option maxHeartbeats 8000000 in
theorem needless_impl_no2 (A : Option Addr) (c lo hi : Nat) (zs : List Int) (m : Int) (A2 : Option Addr) (c2 lo2 hi2 : Nat) (qs : List Int) (w : World) (hS : Ins w lo hi A zs) (hQ : Ins w lo2 hi2 A2 qs) (hL : Listed zs m qs) (ht : tellB m zs qs = false) :
    Calls Try.prog 46 #[.agg #[.slice A zs.length c, .int .i64 m], .slice A2 qs.length c2] w fun e w' => ∃ B c', e = .returned (.tuple #[.slice B 0 c', .bool false]) ∧ Res w' w.heap.size w'.heap.size B [] ∧ Below w.heap.size w w' := by
  have HT := Lib.hid (Two.new w (.slice A zs.length c) (.int .i64 m) 27 (w.heap.size) rfl)
  have HB := Lib.hid ((Below.refl w.heap.size w).alloc (Nat.le_refl _) (.cells #[.slice A zs.length c, .int .i64 m] 27))
  have HI := Lib.hid (hS.step HB.out)
  have HQ := Lib.hid (hQ.step HB.out)
  have HG := Lib.hid (fun W h h2 => areListed_any A c lo hi zs m A2 c2 lo2 hi2 qs W h h2 (by have := hL.len; omega) (by have := hL.q8; omega))
  rw [hL.ok1] at HG
  have HTl := Lib.hid (fun W h h2 => tells_any A c lo hi zs m A2 c2 lo2 hi2 qs W h h2 hL)
  rw [ht] at HTl
  clear hS hQ hL ht
  go_enter Try.func46, Try.ntmps46
  go_wp2_with fail
  generalize w.alloc (.cells #[.slice A zs.length c, .int .i64 m] 27) = w0 at HT HB HI HQ ⊢
  have h0 := HT.out.c0
  have h1 := HT.out.c1
  with_reducible refine (HG.out _ HI.out HQ.out).mono ?_
  rintro e w1 ⟨rfl, hb⟩
  replace HT := Lib.hid (HT.out.step hb)
  replace HB := Lib.hid (below_trans HB.out hb)
  replace HI := Lib.hid (HI.out.step hb)
  replace HQ := Lib.hid (HQ.out.step hb)
  replace h0 := HT.out.c0
  replace h1 := HT.out.c1
  clear hb
  go_wp2_with fail
  with_reducible refine (HTl.out w1 HI.out HQ.out).mono ?_
  rintro e w2 ⟨rfl, hb⟩
  replace HT := Lib.hid (HT.out.step hb)
  replace HB := Lib.hid (below_trans HB.out hb)
  replace HI := Lib.hid (HI.out.step hb)
  replace HQ := Lib.hid (HQ.out.step hb)
  replace h0 := HT.out.c0
  replace h1 := HT.out.c1
  clear hb
  clear h0 h1
  go_wp2
  go_ret2
  first | exact ⟨_, _, rfl, empty_res _ _ HB.out.size, HB.out.alloc HB.out.size _⟩ | exact ⟨_, ⟨_, rfl⟩, empty_res _ _ HB.out.size, HB.out.alloc HB.out.size _⟩
set_option maxRecDepth 100000 in
set_option maxHeartbeats 8000000 in
theorem needless_spec_no1 (A : Option Addr) (c lo hi : Nat) (zs : List Int) (m : Int) (A2 : Option Addr) (c2 lo2 hi2 : Nat) (qs : List Int) (w : World) (hS : Ins w lo hi A zs) (hQ : Ins w lo2 hi2 A2 qs) (hn : zs.length ≤ 1048576) (hn2 : qs.length ≤ 1048576) (hok : lOK zs m qs = false) :
    Calls Try.prog 45 #[.agg #[.slice A zs.length c, .int .i64 m], .slice A2 qs.length c2] w fun e w' => ∃ B c', e = .returned (.tuple #[.slice B 0 c', .bool false]) ∧ Res w' w.heap.size w'.heap.size B [] ∧ Below w.heap.size w w' := by
  have HT := Lib.hid (Two.new w (.slice A zs.length c) (.int .i64 m) 27 (w.heap.size) rfl)
  have HB := Lib.hid ((Below.refl w.heap.size w).alloc (Nat.le_refl _) (.cells #[.slice A zs.length c, .int .i64 m] 27))
  have HI := Lib.hid (hS.step HB.out)
  have HQ := Lib.hid (hQ.step HB.out)
  have HG := Lib.hid (fun W h h2 => l8Good_any A c lo hi zs m A2 c2 lo2 hi2 qs W h h2 hn hn2)
  rw [hok] at HG
  clear hS hQ hok
  have hbe := (Below.refl _ (w.alloc (.cells #[.slice A zs.length c, .int .i64 m] 27))).alloc (Nat.le_refl _) (.cells #[] 3)
  have HRE := Lib.hid (O0_any8 (w.alloc (.cells #[.slice A zs.length c, .int .i64 m] 27)) w.heap.size HB.out.size)
  replace HT := Lib.hid (HT.out.step hbe)
  replace HB := Lib.hid (below_trans HB.out hbe)
  replace HI := Lib.hid (HI.out.step hbe)
  replace HQ := Lib.hid (HQ.out.step hbe)
  have hsz1 : (w.alloc (.cells #[.slice A zs.length c, .int .i64 m] 27)).heap.size = w.heap.size + 1 := by simp
  rw [hsz1] at HRE
  clear hbe hsz1
  go_enter Try.func45, Try.ntmps45
  go_wp2_with fail
  generalize (w.alloc (.cells #[.slice A zs.length c, .int .i64 m] 27)).alloc (.cells #[] 3) = w0 at HT HB HI HQ HRE ⊢
  have h0 := HT.out.c0
  have h1 := HT.out.c1
  with_reducible refine (HG.out _ HI.out HQ.out).mono ?_
  rintro e w1 ⟨rfl, hb⟩
  replace HT := Lib.hid (HT.out.step hb)
  replace HB := Lib.hid (below_trans HB.out hb)
  replace HI := Lib.hid (HI.out.step hb)
  replace HQ := Lib.hid (HQ.out.step hb)
  replace HRE := Lib.hid (past8 HRE.out (Past.of_below hb))
  replace h0 := HT.out.c0
  replace h1 := HT.out.c1
  clear hb
  clear h0 h1
  go_wp2
  go_ret2
  obtain ⟨Ae, ce, he, _, hR⟩ := own_res (zs := []) HRE.out rfl
  first | exact ⟨_, _, rfl, ⟨by injection he with e1 e2 e3; subst e1; exact hR.own, Nat.le_refl _⟩, HB.out⟩ | exact ⟨_, ⟨_, rfl⟩, ⟨by injection he with e1 e2 e3; subst e1; exact hR.own, Nat.le_refl _⟩, HB.out⟩
set_option maxRecDepth 100000 in
set_option maxHeartbeats 8000000 in
theorem needless_spec_no2 (A : Option Addr) (c lo hi : Nat) (zs : List Int) (m : Int) (A2 : Option Addr) (c2 lo2 hi2 : Nat) (qs : List Int) (w : World) (hS : Ins w lo hi A zs) (hQ : Ins w lo2 hi2 A2 qs) (hL : Listed zs m qs) (ht : tellB m zs qs = false) :
    Calls Try.prog 45 #[.agg #[.slice A zs.length c, .int .i64 m], .slice A2 qs.length c2] w fun e w' => ∃ B c', e = .returned (.tuple #[.slice B 0 c', .bool false]) ∧ Res w' w.heap.size w'.heap.size B [] ∧ Below w.heap.size w w' := by
  have HT := Lib.hid (Two.new w (.slice A zs.length c) (.int .i64 m) 27 (w.heap.size) rfl)
  have HB := Lib.hid ((Below.refl w.heap.size w).alloc (Nat.le_refl _) (.cells #[.slice A zs.length c, .int .i64 m] 27))
  have HI := Lib.hid (hS.step HB.out)
  have HQ := Lib.hid (hQ.step HB.out)
  have HG := Lib.hid (fun W h h2 => l8Good_any A c lo hi zs m A2 c2 lo2 hi2 qs W h h2 (by have := hL.len; omega) (by have := hL.q8; omega))
  rw [hL.ok1] at HG
  have HTl := Lib.hid (fun W h h2 => l8Tell_any A c lo hi zs m A2 c2 lo2 hi2 qs W h h2 hL)
  rw [ht] at HTl
  clear hS hQ hL ht
  have hbe := (Below.refl _ (w.alloc (.cells #[.slice A zs.length c, .int .i64 m] 27))).alloc (Nat.le_refl _) (.cells #[] 3)
  have HRE := Lib.hid (O0_any8 (w.alloc (.cells #[.slice A zs.length c, .int .i64 m] 27)) w.heap.size HB.out.size)
  replace HT := Lib.hid (HT.out.step hbe)
  replace HB := Lib.hid (below_trans HB.out hbe)
  replace HI := Lib.hid (HI.out.step hbe)
  replace HQ := Lib.hid (HQ.out.step hbe)
  have hsz1 : (w.alloc (.cells #[.slice A zs.length c, .int .i64 m] 27)).heap.size = w.heap.size + 1 := by simp
  rw [hsz1] at HRE
  clear hbe hsz1
  go_enter Try.func45, Try.ntmps45
  go_wp2_with fail
  generalize (w.alloc (.cells #[.slice A zs.length c, .int .i64 m] 27)).alloc (.cells #[] 3) = w0 at HT HB HI HQ HRE ⊢
  have h0 := HT.out.c0
  have h1 := HT.out.c1
  with_reducible refine (HG.out _ HI.out HQ.out).mono ?_
  rintro e w1 ⟨rfl, hb⟩
  replace HT := Lib.hid (HT.out.step hb)
  replace HB := Lib.hid (below_trans HB.out hb)
  replace HI := Lib.hid (HI.out.step hb)
  replace HQ := Lib.hid (HQ.out.step hb)
  replace HRE := Lib.hid (past8 HRE.out (Past.of_below hb))
  replace h0 := HT.out.c0
  replace h1 := HT.out.c1
  clear hb
  go_wp2_with fail
  with_reducible refine (HTl.out w1 HI.out HQ.out).mono ?_
  rintro e w2 ⟨rfl, hb⟩
  replace HT := Lib.hid (HT.out.step hb)
  replace HB := Lib.hid (below_trans HB.out hb)
  replace HI := Lib.hid (HI.out.step hb)
  replace HQ := Lib.hid (HQ.out.step hb)
  replace HRE := Lib.hid (past8 HRE.out (Past.of_below hb))
  replace h0 := HT.out.c0
  replace h1 := HT.out.c1
  clear hb
  clear h0 h1
  go_wp2
  go_ret2
  obtain ⟨Ae, ce, he, _, hR⟩ := own_res (zs := []) HRE.out rfl
  first | exact ⟨_, _, rfl, ⟨by injection he with e1 e2 e3; subst e1; exact hR.own, Nat.le_refl _⟩, HB.out⟩ | exact ⟨_, ⟨_, rfl⟩, ⟨by injection he with e1 e2 e3; subst e1; exact hR.own, Nat.le_refl _⟩, HB.out⟩
set_option maxRecDepth 100000 in
set_option maxHeartbeats 16000000 in
theorem needless_impl (A : Option Addr) (c lo hi : Nat) (zs : List Int) (m : Int) (A2 : Option Addr) (c2 lo2 hi2 : Nat) (qs : List Int) (w : World) (hS : Ins w lo hi A zs) (hQ : Ins w lo2 hi2 A2 qs) (hL : Listed zs m qs) (ht : tellB m zs qs = true) (hc2 : qs.length ≤ c2) :
    Calls Try.prog 46 #[.agg #[.slice A zs.length c, .int .i64 m], .slice A2 qs.length c2] w fun e w' => ∃ B c', e = .returned (.tuple #[.slice B (needl m zs qs qs.length).length c', .bool true]) ∧ Res w' w.heap.size w'.heap.size B (needl m zs qs qs.length) ∧ Below w.heap.size w w' := by
  have HT := Lib.hid (Two.new w (.slice A zs.length c) (.int .i64 m) 27 (w.heap.size) rfl)
  have HB := Lib.hid ((Below.refl w.heap.size w).alloc (Nat.le_refl _) (.cells #[.slice A zs.length c, .int .i64 m] 27))
  have HI := Lib.hid (hS.step HB.out)
  have HQ := Lib.hid (hQ.step HB.out)
  obtain ⟨i0, hi0, hz0, hz1, hz2⟩ := info_parts infoI8
  have HL := Lib.hid hL
  have h8 := hL.q8
  have hl := hL.len
  have htop := hS.top
  have htop2 := hQ.top
  have HG := Lib.hid (fun W h h2 => areListed_any A c lo hi zs m A2 c2 lo2 hi2 qs W h h2 (by omega) (by omega))
  rw [hL.ok1] at HG
  have HTl := Lib.hid (fun W h h2 => tells_any A c lo hi zs m A2 c2 lo2 hi2 qs W h h2 hL)
  rw [ht] at HTl
  clear hS hQ hL ht
  go_enter Try.func46, Try.ntmps46
  go_wp2_with fail
  generalize w.alloc (.cells #[.slice A zs.length c, .int .i64 m] 27) = w0 at HT HB HI HQ ⊢
  have h0 := HT.out.c0
  have h1 := HT.out.c1
  with_reducible refine (HG.out _ HI.out HQ.out).mono ?_
  rintro e w1 ⟨rfl, hb⟩
  replace HT := Lib.hid (HT.out.step hb)
  replace HB := Lib.hid (below_trans HB.out hb)
  replace HI := Lib.hid (HI.out.step hb)
  replace HQ := Lib.hid (HQ.out.step hb)
  replace h0 := HT.out.c0
  replace h1 := HT.out.c1
  clear hb
  go_wp2_with fail
  with_reducible refine (HTl.out w1 HI.out HQ.out).mono ?_
  rintro e w2 ⟨rfl, hb⟩
  replace HT := Lib.hid (HT.out.step hb)
  replace HB := Lib.hid (below_trans HB.out hb)
  replace HI := Lib.hid (HI.out.step hb)
  replace HQ := Lib.hid (HQ.out.step hb)
  replace h0 := HT.out.c0
  replace h1 := HT.out.c1
  clear hb
  clear h0 h1
  clear HG HTl
  have hbe := (Below.refl _ w2).alloc (Nat.le_refl _) (.cells #[] 3)
  have HRE := Lib.hid (O0_any8 w2 w.heap.size HB.out.size)
  replace HT := Lib.hid (HT.out.step hbe)
  replace HB := Lib.hid (below_trans HB.out hbe)
  replace HI := Lib.hid (HI.out.step hbe)
  replace HQ := Lib.hid (HQ.out.step hbe)
  clear hbe
  go_wp2_with fail
  generalize w2.alloc (.cells #[] 3) = w3 at HT HI HQ HB HRE ⊢
  go_loopw [6, 23] (fun ov i wr => ∃ (k : Nat), k ≤ qs.length ∧ i = .int .i64 (k : Int) ∧ Hid (wr.ownsRow w.heap.size 3 1 ov (needl m zs qs k).length ((needl m zs qs k).map (Value.int .i64))) ∧ Hid (Two wr w.heap.size (.slice A zs.length c) (.int .i64 m) 27) ∧ Hid (Ins wr lo hi A zs) ∧ Hid (Ins wr lo2 hi2 A2 qs) ∧ Hid (Below w.heap.size w wr)) (fun _ i _ => qs.length - (intOf i).toNat)
  case atStart => exact ⟨0, Nat.zero_le _, rfl, HRE, HT, HI, HQ, HB⟩
  case round =>
    clear HRE HT HI HQ HB
    obtain ⟨k, hk, rfl, HO, HT, HI, HQ, HB⟩ := hrel
    by_cases hlt : k < qs.length
    · obtain ⟨b, o, rfl, _, hb, _⟩ := HQ.out.ints.at_ hlt
      have hki : (k : Int) < (qs.length : Int) := by omega
      have hk0 : (0 : Int) ≤ (k : Int) := by omega
      have hlen := filt_len (fun j => tellB m zs (without8 qs j)) k
      have hlen8 : (needl m zs qs k).length ≤ 8 := by unfold needl; omega
      have hwl := without_len hlt
      have HTw := Lib.hid (fun A' c' lo' hi' W h h2 => tells_any A c lo hi zs m A' c' lo' hi' (without8 qs k) W h h2 (HL.out.without hlt))
      rw [hwl] at HTw
      have hsf := slice_from8 (some ⟨b, o, none⟩) qs.length c2 (k + 1) (by omega)
      rw [show (((k + 1 : Nat)) : Int) = (k : Int) + 1 by omega] at hsf
      have hwr : IntKind.i64.wrap ((k : Int) + 1) = (k : Int) + 1 := IntWalk.i64_in _ (by omega)
      have hsf2 := hsf
      rw [← hwr] at hsf2
      have hwr2 := Lib.hid hwr
      have hst8 := slice_cap8 (some ⟨b, o, none⟩) qs.length c2 k (by omega)
      clear hwl hlen
      cases ht : tellB m zs (without8 qs k) with
      | true =>
        rw [ht] at HTw
        have HNX : Hid (needl m zs qs (k + 1) = needl m zs qs k ++ [(k : Int)]) := Lib.hid (filt_yes (p := fun j => tellB m zs (without8 qs j)) ht)
        clear ht
        generalize needl m zs qs k = L at HO HNX hlen8
        obtain ⟨A', c', W', hr, ⟨lo', hi', hI'⟩, hbW⟩ := append_cut8 b o c2 qs k lo2 hi2 wr.drew (HQ.out.step (Below.refl _ wr).drew) hlt h8 hc2
        have hbd := below_trans (Below.refl _ wr).drew hbW
        have HT2 := Lib.hid (HT.out.step hbd)
        have HI2 := Lib.hid (HI.out.step hbd)
        have HQ2 := Lib.hid (HQ.out.step hbd)
        have HB2 := Lib.hid (below_trans HB.out hbd)
        have HO2 := Lib.hid (past8 HO.out (Past.of_below hbd))
        have HW := Lib.hid hI'
        clear hbd hbW hI'
        go_wp2_with fail
        go_region_held3 (fun w' => w'.cell? ⟨w.heap.size, 0, none⟩ = some (.slice A zs.length c) ∧ w'.cell? ⟨w.heap.size, 1, none⟩ = some (.int .i64 m))
          (first
           | exact ⟨(HT.out.step (Below.refl _ wr).drew).c0, (HT.out.step (Below.refl _ wr).drew).c1⟩
           | exact ⟨HT2.out.c0, HT2.out.c1⟩)
          (first
           | (rw [if_pos (by simp [Region.wanted])]; refine wp_append_hr8 (.tmp 29) (.tmp 33) 22 rfl _ _ rfl rfl _ _ hr ?_))
        all_goals
          clear hr hsf hsf2 hwr hst8 HT HI HQ HB HO
          have h0 := HT2.out.c0
          have h1 := HT2.out.c1
          go_wp2_with fail
          with_reducible refine (HTw.out A' c' lo' hi' W' HI2.out HW.out).mono ?_
          rintro e w21 ⟨rfl, hb⟩
          replace HT2 := Lib.hid (HT2.out.step hb)
          replace HI2 := Lib.hid (HI2.out.step hb)
          replace HQ2 := Lib.hid (HQ2.out.step hb)
          replace HB2 := Lib.hid (below_trans HB2.out hb)
          replace HO2 := Lib.hid (past8 HO2.out (Past.of_below hb))
          replace h0 := HT2.out.c0
          replace h1 := HT2.out.c1
          clear hb
          clear h0 h1
          clear HTw HW
          have hown := HO2.out
          have hws := HB2.out.size
          have hlt2 := HT2.out.lt
          go_wp2_with (at_builtin; refine wpList_append_own _ rfl _ _ 22 rfl w.heap.size 3 i0 (.int .i64 0) 1 8 Try.underlying22 hi0 hz0 hz1 hz2 rfl (by decide) _ _ _ rfl (hown.alloc _) ⟨_, 0, none⟩ 1 1 [.int .i64 (k : Int)] rfl rfl (cell_one_new _ _ _) (by simp [Value.oneCell']) (by unfold maxLen; omega) (by omega) (by simp; omega) ?_; intro v' w8 hown' hgrow _)
          have HO8 := Lib.hid (own_snocI hown' rfl)
          have hps := Past.grown hown hgrow
          have HT8 := Lib.hid (row_two_grown8 hown HT2.out hgrow)
          have HI8 := Lib.hid (HI2.out.past hps htop)
          have HQ8 := Lib.hid (HQ2.out.past hps htop2)
          have HB8 := Lib.hid (HB2.out.trans (hps.below (Nat.le_refl _) hws))
          clear hown' hgrow hown hps
          go_wp2
          go_roundw
          case rel => exact ⟨k + 1, by omega, by go_num, by rw [HNX.out]; exact HO8, HT8, HI8, HQ8, HB8⟩
          case measure => simp [intOf]; omega
      | false =>
        rw [ht] at HTw
        have HNX : Hid (needl m zs qs (k + 1) = needl m zs qs k) := Lib.hid (filt_no (p := fun j => tellB m zs (without8 qs j)) ht)
        clear ht
        generalize needl m zs qs k = L at HO HNX hlen8
        obtain ⟨A', c', W', hr, ⟨lo', hi', hI'⟩, hbW⟩ := append_cut8 b o c2 qs k lo2 hi2 wr.drew (HQ.out.step (Below.refl _ wr).drew) hlt h8 hc2
        have hbd := below_trans (Below.refl _ wr).drew hbW
        have HT2 := Lib.hid (HT.out.step hbd)
        have HI2 := Lib.hid (HI.out.step hbd)
        have HQ2 := Lib.hid (HQ.out.step hbd)
        have HB2 := Lib.hid (below_trans HB.out hbd)
        have HO2 := Lib.hid (past8 HO.out (Past.of_below hbd))
        have HW := Lib.hid hI'
        clear hbd hbW hI'
        go_wp2_with fail
        go_region_held3 (fun w' => w'.cell? ⟨w.heap.size, 0, none⟩ = some (.slice A zs.length c) ∧ w'.cell? ⟨w.heap.size, 1, none⟩ = some (.int .i64 m))
          (first
           | exact ⟨(HT.out.step (Below.refl _ wr).drew).c0, (HT.out.step (Below.refl _ wr).drew).c1⟩
           | exact ⟨HT2.out.c0, HT2.out.c1⟩)
          (first
           | (rw [if_pos (by simp [Region.wanted])]; refine wp_append_hr8 (.tmp 29) (.tmp 33) 22 rfl _ _ rfl rfl _ _ hr ?_))
        all_goals
          clear hr hsf hsf2 hwr hst8 HT HI HQ HB HO
          have h0 := HT2.out.c0
          have h1 := HT2.out.c1
          go_wp2_with fail
          with_reducible refine (HTw.out A' c' lo' hi' W' HI2.out HW.out).mono ?_
          rintro e w21 ⟨rfl, hb⟩
          replace HT2 := Lib.hid (HT2.out.step hb)
          replace HI2 := Lib.hid (HI2.out.step hb)
          replace HQ2 := Lib.hid (HQ2.out.step hb)
          replace HB2 := Lib.hid (below_trans HB2.out hb)
          replace HO2 := Lib.hid (past8 HO2.out (Past.of_below hb))
          replace h0 := HT2.out.c0
          replace h1 := HT2.out.c1
          clear hb
          clear h0 h1
          clear HTw HW
          go_wp2
          go_roundw
          case rel => exact ⟨k + 1, by omega, by go_num, by rw [HNX.out]; exact HO2, HT2, HI2, HQ2, HB2⟩
          case measure => simp [intOf]; omega
    · obtain rfl : k = qs.length := by omega
      go_wp2
      go_ret2
      obtain ⟨Ae, ce, he, _, hR⟩ := own_res HO.out rfl
      rw [he]
      exact ⟨Ae, ce, rfl, hR, HB.out⟩
set_option maxRecDepth 100000 in
set_option maxHeartbeats 16000000 in
theorem needless_spec (A : Option Addr) (c lo hi : Nat) (zs : List Int) (m : Int) (A2 : Option Addr) (c2 lo2 hi2 : Nat) (qs : List Int) (w : World) (hS : Ins w lo hi A zs) (hQ : Ins w lo2 hi2 A2 qs) (hL : Listed zs m qs) (ht : tellB m zs qs = true) (hc2 : qs.length ≤ c2) :
    Calls Try.prog 45 #[.agg #[.slice A zs.length c, .int .i64 m], .slice A2 qs.length c2] w fun e w' => ∃ B c', e = .returned (.tuple #[.slice B (needl m zs qs qs.length).length c', .bool true]) ∧ Res w' w.heap.size w'.heap.size B (needl m zs qs qs.length) ∧ Below w.heap.size w w' := by
  have HT := Lib.hid (Two.new w (.slice A zs.length c) (.int .i64 m) 27 (w.heap.size) rfl)
  have HB := Lib.hid ((Below.refl w.heap.size w).alloc (Nat.le_refl _) (.cells #[.slice A zs.length c, .int .i64 m] 27))
  have HI := Lib.hid (hS.step HB.out)
  have HQ := Lib.hid (hQ.step HB.out)
  obtain ⟨i0, hi0, hz0, hz1, hz2⟩ := info_parts infoI8
  have HL := Lib.hid hL
  have h8 := hL.q8
  have hl := hL.len
  have htop := hS.top
  have htop2 := hQ.top
  have HG := Lib.hid (fun W h h2 => l8Good_any A c lo hi zs m A2 c2 lo2 hi2 qs W h h2 (by omega) (by omega))
  rw [hL.ok1] at HG
  have HTl := Lib.hid (fun W h h2 => l8Tell_any A c lo hi zs m A2 c2 lo2 hi2 qs W h h2 hL)
  rw [ht] at HTl
  clear hS hQ hL ht
  have hbe := (Below.refl _ (w.alloc (.cells #[.slice A zs.length c, .int .i64 m] 27))).alloc (Nat.le_refl _) (.cells #[] 3)
  have HRE := Lib.hid (O0_any8 (w.alloc (.cells #[.slice A zs.length c, .int .i64 m] 27)) w.heap.size HB.out.size)
  replace HT := Lib.hid (HT.out.step hbe)
  replace HB := Lib.hid (below_trans HB.out hbe)
  replace HI := Lib.hid (HI.out.step hbe)
  replace HQ := Lib.hid (HQ.out.step hbe)
  have hsz1 : (w.alloc (.cells #[.slice A zs.length c, .int .i64 m] 27)).heap.size = w.heap.size + 1 := by simp
  rw [hsz1] at HRE
  clear hbe hsz1
  go_enter Try.func45, Try.ntmps45
  go_wp2_with fail
  generalize (w.alloc (.cells #[.slice A zs.length c, .int .i64 m] 27)).alloc (.cells #[] 3) = w0 at HT HB HI HQ HRE ⊢
  have h0 := HT.out.c0
  have h1 := HT.out.c1
  with_reducible refine (HG.out _ HI.out HQ.out).mono ?_
  rintro e w1 ⟨rfl, hb⟩
  replace HT := Lib.hid (HT.out.step hb)
  replace HB := Lib.hid (below_trans HB.out hb)
  replace HI := Lib.hid (HI.out.step hb)
  replace HQ := Lib.hid (HQ.out.step hb)
  replace HRE := Lib.hid (past8 HRE.out (Past.of_below hb))
  replace h0 := HT.out.c0
  replace h1 := HT.out.c1
  clear hb
  go_wp2_with fail
  with_reducible refine (HTl.out w1 HI.out HQ.out).mono ?_
  rintro e w2 ⟨rfl, hb⟩
  replace HT := Lib.hid (HT.out.step hb)
  replace HB := Lib.hid (below_trans HB.out hb)
  replace HI := Lib.hid (HI.out.step hb)
  replace HQ := Lib.hid (HQ.out.step hb)
  replace HRE := Lib.hid (past8 HRE.out (Past.of_below hb))
  replace h0 := HT.out.c0
  replace h1 := HT.out.c1
  clear hb
  clear h0 h1
  clear HG HTl
  go_wp2_with fail
  go_loopw [6, 7] (fun ov i wr => ∃ (k : Nat), k ≤ qs.length ∧ i = .int .i64 (k : Int) ∧ Hid (wr.ownsRow w.heap.size 3 1 ov (needl m zs qs k).length ((needl m zs qs k).map (Value.int .i64))) ∧ Hid (Two wr w.heap.size (.slice A zs.length c) (.int .i64 m) 27) ∧ Hid (Ins wr lo hi A zs) ∧ Hid (Ins wr lo2 hi2 A2 qs) ∧ Hid (Below w.heap.size w wr)) (fun _ i _ => qs.length - (intOf i).toNat)
  case atStart => exact ⟨0, Nat.zero_le _, rfl, HRE, HT, HI, HQ, HB⟩
  case round =>
    clear HRE HT HI HQ HB
    obtain ⟨k, hk, rfl, HO, HT, HI, HQ, HB⟩ := hrel
    by_cases hlt : k < qs.length
    · obtain ⟨b, o, rfl, _, hb, _⟩ := HQ.out.ints.at_ hlt
      have hki : (k : Int) < (qs.length : Int) := by omega
      have hk0 : (0 : Int) ≤ (k : Int) := by omega
      have hlen := filt_len (fun j => tellB m zs (without8 qs j)) k
      have hlen8 : (needl m zs qs k).length ≤ 8 := by unfold needl; omega
      have hwl := without_len hlt
      have HTw := Lib.hid (fun A' c' lo' hi' W h h2 => l8Tell_any A c lo hi zs m A' c' lo' hi' (without8 qs k) W h h2 (HL.out.without hlt))
      rw [hwl] at HTw
      have hsf := slice_from8 (some ⟨b, o, none⟩) qs.length c2 (k + 1) (by omega)
      rw [show (((k + 1 : Nat)) : Int) = (k : Int) + 1 by omega] at hsf
      have hwr : IntKind.i64.wrap ((k : Int) + 1) = (k : Int) + 1 := IntWalk.i64_in _ (by omega)
      have hsf2 := hsf
      rw [← hwr] at hsf2
      have hwr2 := Lib.hid hwr
      have hst8 := slice_to8 (some ⟨b, o, none⟩) qs.length c2 k (by omega)
      clear hwl hlen
      cases ht : tellB m zs (without8 qs k) with
      | true =>
        rw [ht] at HTw
        have HNX : Hid (needl m zs qs (k + 1) = needl m zs qs k ++ [(k : Int)]) := Lib.hid (filt_yes (p := fun j => tellB m zs (without8 qs j)) ht)
        clear ht
        generalize needl m zs qs k = L at HO HNX hlen8
        have HOn := Lib.hid (fun W h => l1Own_take8 b o c2 lo2 hi2 qs k W h hlt h8)
        go_wp2_with fail
        go_region_held3 (fun w' => w'.cell? ⟨w.heap.size, 0, none⟩ = some (.slice A zs.length c) ∧ w'.cell? ⟨w.heap.size, 1, none⟩ = some (.int .i64 m))
          (first
           | exact ⟨(HT.out.step (Below.refl _ wr).drew).c0, (HT.out.step (Below.refl _ wr).drew).c1⟩
           | exact ⟨HT_1.out.c0, HT_1.out.c1⟩
           | exact ⟨HR0.out.c0, HR0.out.c1⟩
           | exact ⟨HT_9.out.c0, HT_9.out.c1⟩)
          (first
          | (go_at_call 55; (with_reducible refine (HOn.out wr.drew (HQ.out.step (Below.refl _ wr).drew)).mono ?_); rintro e v1 ⟨vo, rfl, ho, hb⟩; have HZ1 := Lib.hid (below_trans (Below.refl _ wr).drew hb); have HT_1 := Lib.hid (HT.out.step HZ1.out); have HI_1 := Lib.hid (HI.out.step HZ1.out); have HQ_1 := Lib.hid (HQ.out.step HZ1.out); have HB_1 := Lib.hid (below_trans HB.out HZ1.out); have HO_1 := Lib.hid (past8 HO.out (Past.of_below HZ1.out)); have hws : wr.drew.heap.size ≤ v1.heap.size := hb.size; obtain ⟨A', c', v2, hr, ⟨lo', hi', hI'⟩, hpp⟩ := append_own8 wr.drew.heap.size vo (some ⟨b, o, none⟩) c2 qs k lo2 hi2 v1 ho HQ_1.out hlt h8 hc2 hws; have HPP := Lib.hid (show Past wr.heap.size v1 v2 from hpp); have HW := Lib.hid hI'; have HR0 := Lib.hid (Two.past8 HT.out hpp (below_past8 HZ1.out)); clear hb ho hpp hI' hws)
          | (go_at_call 65; (with_reducible refine (HTw.out A' c' lo' hi' v2 (HI.out.past8b HZ1.out HPP.out) HW.out).mono ?_); rintro e v3 ⟨rfl, hb⟩; have HZ3 := Lib.hid (past_below8 HZ1.out HPP.out hb); have HT_9 := Lib.hid (HT.out.step HZ3.out); clear hb)
          | (rw [if_pos (by simp [Region.wanted])]; refine wp_append_hr8 (.tmp 30) (.tmp 34) 22 rfl _ _ rfl rfl _ _ hr ?_))
        all_goals
          clear hr hsf hsf2 hwr hst8
          have HI_9 := Lib.hid (HI.out.step HZ3.out)
          have HQ_9 := Lib.hid (HQ.out.step HZ3.out)
          have HB_9 := Lib.hid (below_trans HB.out HZ3.out)
          have HO_9 := Lib.hid (past8 HO.out (Past.of_below HZ3.out))
          have hown := HO_9.out
          have hws := HB_9.out.size
          have hlt2 := HT_9.out.lt
          go_wp2_with (at_builtin; refine wpList_append_own _ rfl _ _ 22 rfl w.heap.size 3 i0 (.int .i64 0) 1 8 Try.underlying22 hi0 hz0 hz1 hz2 rfl (by decide) _ _ _ rfl (hown.alloc _) ⟨_, 0, none⟩ 1 1 [.int .i64 (k : Int)] rfl rfl (cell_one_new _ _ _) (by simp [Value.oneCell']) (by unfold maxLen; omega) (by omega) (by simp; omega) ?_; intro v' w8 hown' hgrow _)
          have HO8 := Lib.hid (own_snocI hown' rfl)
          have hps := Past.grown hown hgrow
          have HT8 := Lib.hid (row_two_grown8 hown HT_9.out hgrow)
          have HI8 := Lib.hid (HI_9.out.past hps htop)
          have HQ8 := Lib.hid (HQ_9.out.past hps htop2)
          have HB8 := Lib.hid (HB_9.out.trans (hps.below (Nat.le_refl _) hws))
          clear hown' hgrow hown hps
          go_wp2
          go_roundw
          case rel => exact ⟨k + 1, by omega, by go_num, by rw [HNX.out]; exact HO8, HT8, HI8, HQ8, HB8⟩
          case measure => simp [intOf]; omega
      | false =>
        rw [ht] at HTw
        have HNX : Hid (needl m zs qs (k + 1) = needl m zs qs k) := Lib.hid (filt_no (p := fun j => tellB m zs (without8 qs j)) ht)
        clear ht
        generalize needl m zs qs k = L at HO HNX hlen8
        have HOn := Lib.hid (fun W h => l1Own_take8 b o c2 lo2 hi2 qs k W h hlt h8)
        go_wp2_with fail
        go_region_held3 (fun w' => w'.cell? ⟨w.heap.size, 0, none⟩ = some (.slice A zs.length c) ∧ w'.cell? ⟨w.heap.size, 1, none⟩ = some (.int .i64 m))
          (first
           | exact ⟨(HT.out.step (Below.refl _ wr).drew).c0, (HT.out.step (Below.refl _ wr).drew).c1⟩
           | exact ⟨HT_1.out.c0, HT_1.out.c1⟩
           | exact ⟨HR0.out.c0, HR0.out.c1⟩
           | exact ⟨HT_9.out.c0, HT_9.out.c1⟩)
          (first
          | (go_at_call 55; (with_reducible refine (HOn.out wr.drew (HQ.out.step (Below.refl _ wr).drew)).mono ?_); rintro e v1 ⟨vo, rfl, ho, hb⟩; have HZ1 := Lib.hid (below_trans (Below.refl _ wr).drew hb); have HT_1 := Lib.hid (HT.out.step HZ1.out); have HI_1 := Lib.hid (HI.out.step HZ1.out); have HQ_1 := Lib.hid (HQ.out.step HZ1.out); have HB_1 := Lib.hid (below_trans HB.out HZ1.out); have HO_1 := Lib.hid (past8 HO.out (Past.of_below HZ1.out)); have hws : wr.drew.heap.size ≤ v1.heap.size := hb.size; obtain ⟨A', c', v2, hr, ⟨lo', hi', hI'⟩, hpp⟩ := append_own8 wr.drew.heap.size vo (some ⟨b, o, none⟩) c2 qs k lo2 hi2 v1 ho HQ_1.out hlt h8 hc2 hws; have HPP := Lib.hid (show Past wr.heap.size v1 v2 from hpp); have HW := Lib.hid hI'; have HR0 := Lib.hid (Two.past8 HT.out hpp (below_past8 HZ1.out)); clear hb ho hpp hI' hws)
          | (go_at_call 65; (with_reducible refine (HTw.out A' c' lo' hi' v2 (HI.out.past8b HZ1.out HPP.out) HW.out).mono ?_); rintro e v3 ⟨rfl, hb⟩; have HZ3 := Lib.hid (past_below8 HZ1.out HPP.out hb); have HT_9 := Lib.hid (HT.out.step HZ3.out); clear hb)
          | (rw [if_pos (by simp [Region.wanted])]; refine wp_append_hr8 (.tmp 30) (.tmp 34) 22 rfl _ _ rfl rfl _ _ hr ?_))
        all_goals
          clear hr hsf hsf2 hwr hst8
          have HI_9 := Lib.hid (HI.out.step HZ3.out)
          have HQ_9 := Lib.hid (HQ.out.step HZ3.out)
          have HB_9 := Lib.hid (below_trans HB.out HZ3.out)
          have HO_9 := Lib.hid (past8 HO.out (Past.of_below HZ3.out))
          go_wp2
          go_roundw
          case rel => exact ⟨k + 1, by omega, by go_num, by rw [HNX.out]; exact HO_9, HT_9, HI_9, HQ_9, HB_9⟩
          case measure => simp [intOf]; omega
    · obtain rfl : k = qs.length := by omega
      go_wp2
      go_ret2
      obtain ⟨Ae, ce, he, _, hR⟩ := own_res HO.out rfl
      rw [he]
      exact ⟨Ae, ce, rfl, hR, HB.out⟩
theorem needlessQuestions_both (zs : List Int) (m : Int) (h : zs.length ≤ 1048576) (qs : List Int) (h2 : qs.length ≤ 1048576) : ∃ (r0 : List Int) (r1 : Bool), r0.length ≤ 1048576 ∧
    (∀ (w : World) (B : Option Addr) (c lo hi : Nat) (B2 : Option Addr) (c2 lo2 hi2 : Nat), Ins w lo hi B zs → Ins w lo2 hi2 B2 qs → qs.length ≤ c2 → Calls Try.prog 46 #[.agg #[.slice B zs.length c, .int .i64 m], .slice B2 qs.length c2] w fun e w' => ∃ B c', e = .returned (.tuple #[.slice B r0.length c', .bool r1]) ∧ Res w' w.heap.size w'.heap.size B r0 ∧ Below w.heap.size w w') ∧
    (∀ (w : World) (B : Option Addr) (c lo hi : Nat) (B2 : Option Addr) (c2 lo2 hi2 : Nat), Ins w lo hi B zs → Ins w lo2 hi2 B2 qs → qs.length ≤ c2 → Calls Try.prog 45 #[.agg #[.slice B zs.length c, .int .i64 m], .slice B2 qs.length c2] w fun e w' => ∃ B c', e = .returned (.tuple #[.slice B r0.length c', .bool r1]) ∧ Res w' w.heap.size w'.heap.size B r0 ∧ Below w.heap.size w w') := by
  cases hok : lOK zs m qs with
  | false => exact ⟨[], false, by simp, fun w B c lo hi B2 c2 lo2 hi2 hS hS2 hc => needless_impl_no1 B c lo hi zs m B2 c2 lo2 hi2 qs w hS hS2 h h2 hok, fun w B c lo hi B2 c2 lo2 hi2 hS hS2 hc => needless_spec_no1 B c lo hi zs m B2 c2 lo2 hi2 qs w hS hS2 h h2 hok⟩
  | true =>
    have hL := lOK_iff.1 hok
    cases ht : tellB m zs qs with
    | false => exact ⟨[], false, by simp, fun w B c lo hi B2 c2 lo2 hi2 hS hS2 hc => needless_impl_no2 B c lo hi zs m B2 c2 lo2 hi2 qs w hS hS2 hL ht, fun w B c lo hi B2 c2 lo2 hi2 hS hS2 hc => needless_spec_no2 B c lo hi zs m B2 c2 lo2 hi2 qs w hS hS2 hL ht⟩
    | true => exact ⟨needl m zs qs qs.length, true, by have := filt_len (fun j => tellB m zs (without8 qs j)) qs.length; unfold needl; omega, fun w B c lo hi B2 c2 lo2 hi2 hS hS2 hc => needless_impl B c lo hi zs m B2 c2 lo2 hi2 qs w hS hS2 hL ht hc, fun w B c lo hi B2 c2 lo2 hi2 hS hS2 hc => needless_spec B c lo hi zs m B2 c2 lo2 hi2 qs w hS hS2 hL ht hc⟩
end Go.Proofs.Ytbgdnidbdfhgjaa
