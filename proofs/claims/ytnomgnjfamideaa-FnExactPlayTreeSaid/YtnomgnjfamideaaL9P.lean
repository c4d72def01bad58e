/- Trees of questions: PlayTree, of both sides. -/
import Derived.Test.YtnomgnjfamideaaL9U
import Derived.Test.YtnomgnjfamideaaL8B
namespace Go.Proofs.Ytnomgnjfamideaa
open Go.RowKit Go.ChangeShapes Go.WideShapes Go.Maps
set_option linter.unusedVariables false

/-- A play under way. -/
structure Play9 (ns : List (Int × Int × Int)) (l : List Bool) (r1 r2 : Nat) (b : T9) (p j : Nat) : Prop where
  at9 : At9 ns p b
  e1 : (play9 b p (l.drop j)).1 = r1
  e2 : (play9 b p (l.drop j)).2 + j = r2
theorem Play9.lt {ns : List (Int × Int × Int)} {l : List Bool} {r1 r2 : Nat} {b : T9} {p j : Nat} (h : Play9 ns l r1 r2 b p j) : p < ns.length := by
  have h1 := h.at9.le
  have h2 := b.size_pos
  omega
theorem Play9.leaf {ns : List (Int × Int × Int)} {l : List Bool} {r1 r2 : Nat} {p j : Nat} (h : Play9 ns l r1 r2 .leaf p j) : p = r1 ∧ j = r2 := by
  have h1 := h.e1
  have h2 := h.e2
  simp only [play9] at h1 h2
  omega
theorem Play9.done {ns : List (Int × Int × Int)} {l : List Bool} {r1 r2 : Nat} {b : T9} {p : Nat} (h : Play9 ns l r1 r2 b p l.length) : p = r1 ∧ l.length = r2 := by
  have h1 := h.e1
  have h2 := h.e2
  rw [List.drop_length, play9_nil] at h1 h2
  simp only at h1 h2
  omega
theorem Play9.yes {ns : List (Int × Int × Int)} {l : List Bool} {r1 r2 : Nat} {q : Int} {y m : T9} {p j : Nat} (h : Play9 ns l r1 r2 (.br q y m) p j) (hj : j < l.length) (hl : l[j] = true) : Play9 ns l r1 r2 y (p + 1) (j + 1) := by
  have h1 := h.e1
  have h2 := h.e2
  rw [List.drop_eq_getElem_cons hj, hl] at h1 h2
  simp only [play9, if_true] at h1 h2
  exact ⟨h.at9.yes, h1, by omega⟩
theorem Play9.no {ns : List (Int × Int × Int)} {l : List Bool} {r1 r2 : Nat} {q : Int} {y m : T9} {p j : Nat} (h : Play9 ns l r1 r2 (.br q y m) p j) (hj : j < l.length) (hl : l[j] = false) : Play9 ns l r1 r2 m (p + 1 + y.size) (j + 1) := by
  have h1 := h.e1
  have h2 := h.e2
  rw [List.drop_eq_getElem_cons hj, hl] at h1 h2
  simp only [play9, if_neg (show ¬ false = true by decide)] at h1 h2
  exact ⟨h.at9.no, h1, by omega⟩
/-- A cell that is there. -/
structure CellP (w : World) (a : Addr) (v : Value) : Prop where
  c : w.cell? a = some v
theorem CellP.lt {w : World} {a : Addr} {v : Value} (h : CellP w a v) : a.block < w.heap.size := by
  rcases Nat.lt_or_ge a.block w.heap.size with hl | hg
  · exact hl
  · have := h.c
    simp [World.cell?, Array.getElem?_eq_none hg] at this
theorem CellP.step {w w' : World} {a : Addr} {v : Value} (h : CellP w a v) (hb : Below w.heap.size w w') : CellP w' a v := ⟨(hb.cell h.lt).trans h.c⟩
set_option maxRecDepth 100000 in
set_option maxHeartbeats 8000000 in
theorem playTree_impl_no (n : Int) (A : Option Addr) (c lo hi : Nat) (ns : List (Int × Int × Int)) (A2 : Option Addr) (c2 lo2 hi2 : Nat) (l : List Bool) (w : World) (hS : NIns w lo hi A ns) (hn : ns.length ≤ 1048576) (hL : BIns w lo2 hi2 A2 l) (hn2 : l.length ≤ 1048576) (hno : isT9 n ns = false) :
    Calls Try.prog 40 #[.int .i64 n, .agg #[.slice A ns.length c], .slice A2 l.length c2] w fun e w' => e = .returned (.tuple #[.int .i64 0, .int .i64 0, .bool false]) ∧ Below w.heap.size w w' := by
  have HT := Lib.hid (One.new w (.slice A ns.length c) 29 w.heap.size rfl)
  have HB := Lib.hid ((Below.refl w.heap.size w).alloc (Nat.le_refl _) (.cells #[.slice A ns.length c] 29))
  have HI := Lib.hid (hS.step HB.out)
  have HC := Lib.hid (fun W h => isTree_impl n A c lo hi ns W h hn)
  rw [hno] at HC
  clear hS hno hL
  go_enter Try.func40, Try.ntmps40
  go_wp2_with fail
  generalize w.alloc (.cells #[.slice A ns.length c] 29) = w0 at HB HT HI ⊢
  have h0 := HT.out.c0
  with_reducible refine (HC.out _ HI.out).mono ?_
  rintro e w1 ⟨rfl, hb⟩
  replace HB := Lib.hid (below_trans HB.out hb)
  replace HT := Lib.hid (HT.out.step hb)
  replace HI := Lib.hid (HI.out.step hb)
  replace h0 := HT.out.c0
  clear hb
  clear h0
  go_wp2
  go_ret3
  exact ⟨rfl, HB.out⟩
set_option maxRecDepth 100000 in
set_option maxHeartbeats 8000000 in
theorem playTree_impl (n : Int) (A : Option Addr) (c lo hi : Nat) (ns : List (Int × Int × Int)) (A2 : Option Addr) (c2 lo2 hi2 : Nat) (l : List Bool) (w : World) (hS : NIns w lo hi A ns) (hn : ns.length ≤ 1048576) (hL : BIns w lo2 hi2 A2 l) (hn2 : l.length ≤ 1048576) (t : T9) (hT : Tree9 n ns t) :
    Calls Try.prog 40 #[.int .i64 n, .agg #[.slice A ns.length c], .slice A2 l.length c2] w fun e w' => e = .returned (.tuple #[.int .i64 (((play9 t 0 l).1 : Nat) : Int), .int .i64 (((play9 t 0 l).2 : Nat) : Int), .bool true]) ∧ Below w.heap.size w w' := by
  have HT := Lib.hid (One.new w (.slice A ns.length c) 29 w.heap.size rfl)
  have HB := Lib.hid ((Below.refl w.heap.size w).alloc (Nat.le_refl _) (.cells #[.slice A ns.length c] 29))
  have HI := Lib.hid (hS.step HB.out)
  have HL := Lib.hid (hL.step HB.out)
  have HC := Lib.hid (fun W h => isTree_impl n A c lo hi ns W h hn)
  rw [isT9_mk hT] at HC
  have hl127 := (hT.le127).2
  have HP : Hid (Play9 ns l (play9 t 0 l).1 (play9 t 0 l).2 t 0 0) := Lib.hid ⟨hT.at0, rfl, rfl⟩
  generalize (play9 t 0 l).1 = r1 at HP ⊢
  generalize (play9 t 0 l).2 = r2 at HP ⊢
  clear hS hL hT
  go_enter Try.func40, Try.ntmps40
  go_wp2_with fail
  generalize w.alloc (.cells #[.slice A ns.length c] 29) = w0 at HB HT HI HL ⊢
  have h0 := HT.out.c0
  with_reducible refine (HC.out _ HI.out).mono ?_
  rintro e w1 ⟨rfl, hb⟩
  replace HB := Lib.hid (below_trans HB.out hb)
  replace HT := Lib.hid (HT.out.step hb)
  replace HI := Lib.hid (HI.out.step hb)
  replace HL := Lib.hid (HL.out.step hb)
  replace h0 := HT.out.c0
  clear hb
  clear h0
  clear HC
  go_wp2_with fail
  go_loopw [9, 18] (fun i jv wr => ∃ (b : T9) (p j : Nat), j ≤ l.length ∧ i = .int .i64 (p : Int) ∧ jv = .int .i64 (j : Int) ∧ Hid (Play9 ns l r1 r2 b p j) ∧ Hid (One wr w.heap.size (.slice A ns.length c) 29) ∧ Hid (NIns wr lo hi A ns) ∧ Hid (BIns wr lo2 hi2 A2 l) ∧ Hid (Below w.heap.size w wr)) (fun _ jv _ => l.length - (intOf jv).toNat)
  case atStart => exact ⟨t, 0, 0, Nat.zero_le _, rfl, rfl, HP, HT, HI, HL, HB⟩
  case round =>
    clear HP HT HI HL HB
    obtain ⟨b, p, j, hj, rfl, rfl, HP, HT, HI, HL, HB⟩ := hrel
    rename World => wr
    by_cases hlt : j < l.length
    · have hji : (j : Int) < (l.length : Int) := by omega
      have hpn := HP.out.lt
      have hpi : (p : Int) < (ns.length : Int) := by omega
      obtain ⟨bb, oo, rfl, hN⟩ := HI.out.at3 hpn
      obtain ⟨b2, o2, rfl, _, _, hbc⟩ := HL.out.at_ hlt
      cases b with
      | leaf =>
        have HR := Lib.hid HP.out.leaf
        rw [HP.out.at9.getl hpn] at hN
        have hc0 := hN.c0
        have hc1 := hN.c1
        have hc2 := hN.c2
        have hbl := hN.lt
        simp only [lf9] at hc0 hc1 hc2
        clear hN HP
        have h0 := HT.out.c0
        have HLf := Lib.hid (fun W => isLeaf_any (-1) (-1) (-1) true W (ndB_t rfl))
        go_wp2_with fail
        with_reducible refine (HLf.out _).mono ?_
        rintro e w3 ⟨rfl, hb⟩
        have HB3 := Lib.hid (below_trans HB.out hb)
        clear hb h0 hc0 hc1 hc2 hbc
        go_wp2
        go_ret3
        obtain ⟨rfl, rfl⟩ := HR.out
        exact ⟨rfl, HB3.out⟩
      | br q y m =>
        rw [HP.out.at9.get hpn] at hN
        have hsz : p + 1 + y.size ≤ 127 := by have h1 := HP.out.at9.no.le; omega
        have hc0 := hN.c0
        have hc1 := hN.c1
        have hc2 := hN.c2
        have hbl := hN.lt
        simp only at hc0 hc1 hc2
        clear hN
        have HLf := Lib.hid (fun W => isLeaf_any q ((p + 1 : Nat) : Int) ((p + 1 + y.size : Nat) : Int) false W (lf_br q p _))
        have HY := Lib.hid (fun h => HP.out.yes hlt h)
        have HNo := Lib.hid (fun h => HP.out.no hlt h)
        clear HP
        generalize l[j] = a at hbc HY HNo
        cases a with
        | true =>
          have HP2 := Lib.hid (HY.out rfl)
          clear HY HNo
          generalize hP2 : p + 1 + y.size = P2 at hc2 hsz HLf
          clear hP2
          generalize hP1 : ((p + 1 : Nat) : Int) = P1 at hc1 HLf
          have hP10 : 0 ≤ P1 := by omega
          have hPQ := Lib.hid hP1
          clear hP1
          have h0 := HT.out.c0
          go_wp2_with fail
          with_reducible refine (HLf.out _).mono ?_
          rintro e w3 ⟨rfl, hb⟩
          have hcc := Nd3.mk (x := (q, P1, (P2 : Int))) hc0 hc1 hc2 hbl
          replace hcc := hcc.step hb
          clear hc0 hc1 hc2 hbl hbc
          have hc0 := hcc.c0
          have hc1 := hcc.c1
          have hc2 := hcc.c2
          have hbl := hcc.lt
          simp only at hc0 hc1 hc2
          clear hcc h0
          replace HT := Lib.hid (HT.out.step hb)
          replace HI := Lib.hid (HI.out.step hb)
          replace HL := Lib.hid (HL.out.step hb)
          replace HB := Lib.hid (below_trans HB.out hb)
          have h0 := HT.out.c0
          clear hb
          go_wp2_with fail
          with_reducible refine (behind9_yes _ _ _ _).mono ?_
          rintro e w4 ⟨rfl, hb⟩
          clear h0 hc0 hc1 hc2 hbl
          replace HT := Lib.hid (HT.out.step hb)
          replace HI := Lib.hid (HI.out.step hb)
          replace HL := Lib.hid (HL.out.step hb)
          replace HB := Lib.hid (below_trans HB.out hb)
          clear hb
          go_wp2
          go_roundw
          case rel => exact ⟨y, p + 1, j + 1, by omega, by rw [hPQ.out], by go_num, HP2, HT, HI, HL, HB⟩
          case measure => simp [intOf]; omega
        | false =>
          have HP2 := Lib.hid (HNo.out rfl)
          clear HY HNo
          generalize hP2 : p + 1 + y.size = P2 at hc2 hsz HP2 HLf
          clear hP2
          generalize hP1 : ((p + 1 : Nat) : Int) = P1 at hc1 HLf
          have hP10 : 0 ≤ P1 := by omega
          have hPQ := Lib.hid hP1
          clear hP1
          have h0 := HT.out.c0
          go_wp2_with fail
          with_reducible refine (HLf.out _).mono ?_
          rintro e w3 ⟨rfl, hb⟩
          have hcc := Nd3.mk (x := (q, P1, (P2 : Int))) hc0 hc1 hc2 hbl
          replace hcc := hcc.step hb
          clear hc0 hc1 hc2 hbl hbc
          have hc0 := hcc.c0
          have hc1 := hcc.c1
          have hc2 := hcc.c2
          have hbl := hcc.lt
          simp only at hc0 hc1 hc2
          clear hcc h0
          replace HT := Lib.hid (HT.out.step hb)
          replace HI := Lib.hid (HI.out.step hb)
          replace HL := Lib.hid (HL.out.step hb)
          replace HB := Lib.hid (below_trans HB.out hb)
          have h0 := HT.out.c0
          clear hb
          go_wp2_with fail
          with_reducible refine (behind9_no _ _ _ _).mono ?_
          rintro e w4 ⟨rfl, hb⟩
          clear h0 hc0 hc1 hc2 hbl
          replace HT := Lib.hid (HT.out.step hb)
          replace HI := Lib.hid (HI.out.step hb)
          replace HL := Lib.hid (HL.out.step hb)
          replace HB := Lib.hid (below_trans HB.out hb)
          clear hb
          go_wp2
          go_roundw
          case rel => exact ⟨m, P2, j + 1, by omega, rfl, by go_num, HP2, HT, HI, HL, HB⟩
          case measure => simp [intOf]; omega
    · obtain rfl : j = l.length := by omega
      have HR := Lib.hid HP.out.done
      clear HP
      go_wp2
      go_ret3
      obtain ⟨hr1, hr2⟩ := HR.out
      rw [← hr1, ← hr2]
      exact ⟨rfl, HB.out⟩
set_option maxRecDepth 100000 in
set_option maxHeartbeats 8000000 in
theorem playTree_spec_no (n : Int) (A : Option Addr) (c lo hi : Nat) (ns : List (Int × Int × Int)) (A2 : Option Addr) (c2 lo2 hi2 : Nat) (l : List Bool) (w : World) (hS : NIns w lo hi A ns) (hn : ns.length ≤ 1048576) (hL : BIns w lo2 hi2 A2 l) (hn2 : l.length ≤ 1048576) (hno : isT9 n ns = false) :
    Calls Try.prog 38 #[.int .i64 n, .agg #[.slice A ns.length c], .slice A2 l.length c2] w fun e w' => e = .returned (.tuple #[.int .i64 0, .int .i64 0, .bool false]) ∧ Below w.heap.size w w' := by
  have HT := Lib.hid (One.new w (.slice A ns.length c) 29 w.heap.size rfl)
  have HB := Lib.hid ((Below.refl w.heap.size w).alloc (Nat.le_refl _) (.cells #[.slice A ns.length c] 29))
  have HI := Lib.hid (hS.step HB.out)
  have HC := Lib.hid (fun W h => l9Tree_any n A c lo hi ns W h hn)
  rw [hno] at HC
  clear hS hno hL
  go_enter Try.func38, Try.ntmps38
  go_wp2_with fail
  generalize w.alloc (.cells #[.slice A ns.length c] 29) = w0 at HB HT HI ⊢
  have h0 := HT.out.c0
  with_reducible refine (HC.out _ HI.out).mono ?_
  rintro e w1 ⟨rfl, hb⟩
  replace HB := Lib.hid (below_trans HB.out hb)
  replace HT := Lib.hid (HT.out.step hb)
  replace HI := Lib.hid (HI.out.step hb)
  replace h0 := HT.out.c0
  clear hb
  clear h0
  go_wp2
  go_ret3
  exact ⟨rfl, HB.out⟩
set_option maxRecDepth 100000 in
set_option maxHeartbeats 8000000 in
theorem playTree_spec (n : Int) (A : Option Addr) (c lo hi : Nat) (ns : List (Int × Int × Int)) (A2 : Option Addr) (c2 lo2 hi2 : Nat) (l : List Bool) (w : World) (hS : NIns w lo hi A ns) (hn : ns.length ≤ 1048576) (hL : BIns w lo2 hi2 A2 l) (hn2 : l.length ≤ 1048576) (t : T9) (hT : Tree9 n ns t) :
    Calls Try.prog 38 #[.int .i64 n, .agg #[.slice A ns.length c], .slice A2 l.length c2] w fun e w' => e = .returned (.tuple #[.int .i64 (((play9 t 0 l).1 : Nat) : Int), .int .i64 (((play9 t 0 l).2 : Nat) : Int), .bool true]) ∧ Below w.heap.size w w' := by
  have HT := Lib.hid (One.new w (.slice A ns.length c) 29 w.heap.size rfl)
  have HB := Lib.hid ((Below.refl w.heap.size w).alloc (Nat.le_refl _) (.cells #[.slice A ns.length c] 29))
  have HI := Lib.hid (hS.step HB.out)
  have HL := Lib.hid (hL.step HB.out)
  have HC := Lib.hid (fun W h => l9Tree_any n A c lo hi ns W h hn)
  rw [isT9_mk hT] at HC
  have hl127 := (hT.le127).2
  have HP : Hid (Play9 ns l (play9 t 0 l).1 (play9 t 0 l).2 t 0 0) := Lib.hid ⟨hT.at0, rfl, rfl⟩
  generalize (play9 t 0 l).1 = r1 at HP ⊢
  generalize (play9 t 0 l).2 = r2 at HP ⊢
  clear hS hL hT
  go_enter Try.func38, Try.ntmps38
  go_wp2_with fail
  generalize w.alloc (.cells #[.slice A ns.length c] 29) = w0 at HB HT HI HL ⊢
  have h0 := HT.out.c0
  with_reducible refine (HC.out _ HI.out).mono ?_
  rintro e w1 ⟨rfl, hb⟩
  replace HB := Lib.hid (below_trans HB.out hb)
  replace HT := Lib.hid (HT.out.step hb)
  replace HI := Lib.hid (HI.out.step hb)
  replace HL := Lib.hid (HL.out.step hb)
  replace h0 := HT.out.c0
  clear hb
  clear h0
  clear HC
  go_wp2_with fail
  go_loopw [9, 10] (fun i jv wr => ∃ (b : T9) (p j : Nat), j ≤ l.length ∧ i = .int .i64 (p : Int) ∧ jv = .int .i64 (j : Int) ∧ Hid (Play9 ns l r1 r2 b p j) ∧ Hid (One wr w.heap.size (.slice A ns.length c) 29) ∧ Hid (NIns wr lo hi A ns) ∧ Hid (BIns wr lo2 hi2 A2 l) ∧ Hid (Below w.heap.size w wr)) (fun _ jv _ => l.length - (intOf jv).toNat)
  case atStart => exact ⟨t, 0, 0, Nat.zero_le _, rfl, rfl, HP, HT, HI, HL, HB⟩
  case round =>
    clear HP HT HI HL HB
    obtain ⟨b, p, j, hj, rfl, rfl, HP, HT, HI, HL, HB⟩ := hrel
    rename World => wr
    by_cases hlt : j < l.length
    · have hji : (j : Int) < (l.length : Int) := by omega
      have hpn := HP.out.lt
      have hpi : (p : Int) < (ns.length : Int) := by omega
      obtain ⟨bb, oo, rfl, hN⟩ := HI.out.at3 hpn
      obtain ⟨b2, o2, rfl, _, _, hbc⟩ := HL.out.at_ hlt
      cases b with
      | leaf =>
        have HR := Lib.hid HP.out.leaf
        rw [HP.out.at9.getl hpn] at hN
        have hc0 := hN.c0
        have hc1 := hN.c1
        have hc2 := hN.c2
        have hbl := hN.lt
        simp only [lf9] at hc0 hc1 hc2
        clear hN HP
        have h0 := HT.out.c0
        go_wp2
        go_ret3
        obtain ⟨rfl, rfl⟩ := HR.out
        exact ⟨rfl, HB.out⟩
      | br q y m =>
        rw [HP.out.at9.get hpn] at hN
        have hsz : p + 1 + y.size ≤ 127 := by have h1 := HP.out.at9.no.le; omega
        have hc0 := hN.c0
        have hc1 := hN.c1
        have hc2 := hN.c2
        have hbl := hN.lt
        simp only at hc0 hc1 hc2
        clear hN
        have HY := Lib.hid (fun h => HP.out.yes hlt h)
        have HNo := Lib.hid (fun h => HP.out.no hlt h)
        clear HP
        generalize l[j] = a at hbc HY HNo
        cases a with
        | true =>
          have HP2 := Lib.hid (HY.out rfl)
          clear HY HNo
          generalize hP2 : p + 1 + y.size = P2 at hc2 hsz
          clear hP2
          generalize hP1 : ((p + 1 : Nat) : Int) = P1 at hc1
          have hP10 : 0 ≤ P1 := by omega
          have hPQ := Lib.hid hP1
          clear hP1
          have h0 := HT.out.c0
          go_wp2
          go_roundw
          case rel => exact ⟨y, p + 1, j + 1, by omega, by rw [hPQ.out], by go_num, HP2, HT, HI, HL, HB⟩
          case measure => simp [intOf]; omega
        | false =>
          have HP2 := Lib.hid (HNo.out rfl)
          clear HY HNo
          generalize hP2 : p + 1 + y.size = P2 at hc2 hsz HP2
          clear hP2
          generalize hP1 : ((p + 1 : Nat) : Int) = P1 at hc1
          have hP10 : 0 ≤ P1 := by omega
          have hPQ := Lib.hid hP1
          clear hP1
          have h0 := HT.out.c0
          go_wp2
          go_roundw
          case rel => exact ⟨m, P2, j + 1, by omega, rfl, by go_num, HP2, HT, HI, HL, HB⟩
          case measure => simp [intOf]; omega
    · obtain rfl : j = l.length := by omega
      have HR := Lib.hid HP.out.done
      clear HP
      go_wp2
      go_ret3
      obtain ⟨hr1, hr2⟩ := HR.out
      rw [← hr1, ← hr2]
      exact ⟨rfl, HB.out⟩
theorem playTree_both (n : Int) (ns : List (Int × Int × Int)) (h : ns.length ≤ 1048576) (l : List Bool) (h2 : l.length ≤ 1048576) : ∃ (r0 r1 : Int) (r2 : Bool),
    (∀ (w : World) (B : Option Addr) (c lo hi : Nat) (B2 : Option Addr) (c2 lo2 hi2 : Nat), NIns w lo hi B ns → BIns w lo2 hi2 B2 l → Calls Try.prog 40 #[.int .i64 n, .agg #[.slice B ns.length c], .slice B2 l.length c2] w fun e w' => e = .returned (.tuple #[.int .i64 r0, .int .i64 r1, .bool r2]) ∧ Below w.heap.size w w') ∧
    (∀ (w : World) (B : Option Addr) (c lo hi : Nat) (B2 : Option Addr) (c2 lo2 hi2 : Nat), NIns w lo hi B ns → BIns w lo2 hi2 B2 l → Calls Try.prog 38 #[.int .i64 n, .agg #[.slice B ns.length c], .slice B2 l.length c2] w fun e w' => e = .returned (.tuple #[.int .i64 r0, .int .i64 r1, .bool r2]) ∧ Below w.heap.size w w') := by
  cases hno : isT9 n ns with
  | false => exact ⟨0, 0, false, fun w B c lo hi B2 c2 lo2 hi2 hS hL => playTree_impl_no n B c lo hi ns B2 c2 lo2 hi2 l w hS h hL h2 hno, fun w B c lo hi B2 c2 lo2 hi2 hS hL => playTree_spec_no n B c lo hi ns B2 c2 lo2 hi2 l w hS h hL h2 hno⟩
  | true =>
    obtain ⟨t, hT⟩ := isT9_of hno
    exact ⟨(((play9 t 0 l).1 : Nat) : Int), (((play9 t 0 l).2 : Nat) : Int), true, fun w B c lo hi B2 c2 lo2 hi2 hS hL => playTree_impl n B c lo hi ns B2 c2 lo2 hi2 l w hS h hL h2 t hT, fun w B c lo hi B2 c2 lo2 hi2 hS hL => playTree_spec n B c lo hi ns B2 c2 lo2 hi2 l w hS h hL h2 t hT⟩
end Go.Proofs.Ytnomgnjfamideaa
