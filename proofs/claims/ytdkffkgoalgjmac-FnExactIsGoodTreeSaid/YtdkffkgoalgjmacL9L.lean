/- Trees of questions: LeavesOf, of both sides. -/
import Derived.Test.YtdkffkgoalgjmacL9W
import Derived.Test.YtdkffkgoalgjmacOpenN
namespace Go.Proofs.Ytdkffkgoalgjmac
open Go.RowKit Go.ChangeShapes Go.WideShapes Go.Maps
set_option linter.unusedVariables false

/-- The places of the leaves below k. -/
def leaves9 (ns : List (Int × Int × Int)) (k : Nat) : List Int := filt (fun j => ndB (ns.getD j (0, 0, 0)) lf9) k
theorem leaves9_len (ns : List (Int × Int × Int)) (k : Nat) : (leaves9 ns k).length ≤ k := filt_len _ k
theorem getD90 {ns : List (Int × Int × Int)} {k : Nat} (h : k < ns.length) : ns.getD k (0, 0, 0) = ns[k] := by simp [List.getD, h]
theorem leaves9_yes {ns : List (Int × Int × Int)} {k : Nat} (h : k < ns.length) (hr : ndB ns[k] lf9 = true) : leaves9 ns (k + 1) = leaves9 ns k ++ [(k : Int)] := filt_yes (p := fun j => ndB (ns.getD j (0, 0, 0)) lf9) (by rw [getD90 h]; exact hr)
theorem leaves9_no {ns : List (Int × Int × Int)} {k : Nat} (h : k < ns.length) (hr : ndB ns[k] lf9 = false) : leaves9 ns (k + 1) = leaves9 ns k := filt_no (p := fun j => ndB (ns.getD j (0, 0, 0)) lf9) (by rw [getD90 h]; exact hr)
theorem infoI9 : (Try.prog.info? 3).map (fun i => (i.zero, i.size, i.bytes)) = some (some (.int .i64 0), 1, 8) := by kernel_rfl
theorem ndB_of {x y : Int × Int × Int} (h : ndB x y = true) : x = y := by simpa [ndB] using h
theorem ndB_not {x y : Int × Int × Int} (h : ndB x y = false) : x ≠ y := by simpa [ndB] using h
theorem kind9 {n : Int} {ns : List (Int × Int × Int)} {t : T9} (hT : Tree9 n ns t) {k : Nat} (hk : k < ns.length) : (ndB ns[k] lf9 = true → ns[k].2.1 < 0) ∧ (ndB ns[k] lf9 = false → 0 ≤ ns[k].2.1) := by
  refine ⟨fun h => ?_, fun h => ?_⟩
  · rw [ndB_of h]; decide
  · rcases hT.kind hk with h1 | h1
    · exact absurd h1 (ndB_not h)
    · exact h1.1
set_option maxRecDepth 100000 in
set_option maxHeartbeats 8000000 in
theorem leaves9_spec (n : Int) (A : Option Addr) (c lo hi : Nat) (ns : List (Int × Int × Int)) (t : T9) (w : World) (hS : NIns w lo hi A ns) (hT : Tree9 n ns t) :
    Calls Try.prog 122 #[.agg #[.slice A ns.length c]] w fun e w' => ∃ B d, e = .returned (.slice B (leaves9 ns ns.length).length d) ∧ Res w' w.heap.size w'.heap.size B (leaves9 ns ns.length) ∧ Below w.heap.size w w' := by
  have HT := Lib.hid (One.new w (.slice A ns.length c) 33 w.heap.size rfl)
  have HB := Lib.hid ((Below.refl w.heap.size w).alloc (Nat.le_refl _) (.cells #[.slice A ns.length c] 33))
  have HI := Lib.hid (hS.step HB.out)
  obtain ⟨i0, hi0, hz0, hz1, hz2⟩ := info_parts infoI9
  have HL := Lib.hid (hT.le127)
  have HK := Lib.hid (fun k (h : k < ns.length) => kind9 hT h)
  have htop := hS.top
  have HO := Lib.hid (O0_any (w.alloc (.cells #[.slice A ns.length c] 33)) (w.heap.size + 1) (by simp))
  rw [show (w.alloc (.cells #[.slice A ns.length c] 33)).heap.size = w.heap.size + 1 by simp] at HO
  have hbe := (Below.refl _ (w.alloc (.cells #[.slice A ns.length c] 33))).alloc (Nat.le_refl _) (.cells #[] 3)
  replace HB := Lib.hid (below_trans HB.out hbe)
  replace HT := Lib.hid (HT.out.step hbe)
  replace HI := Lib.hid (HI.out.step hbe)
  clear hbe hS hT
  go_enter Try.func122, Try.ntmps122
  go_wp2_with fail
  generalize (w.alloc (.cells #[.slice A ns.length c] 33)).alloc (.cells #[] 3) = w0 at HT HI HB HO ⊢
  go_loopw [3, 4] (fun ov i wr => ∃ (k : Nat), k ≤ ns.length ∧ i = .int .i64 (k : Int) ∧ Hid (wr.ownsRow (w.heap.size + 1) 3 1 ov (leaves9 ns k).length ((leaves9 ns k).map (Value.int .i64))) ∧ Hid (One wr w.heap.size (.slice A ns.length c) 33) ∧ Hid (NIns wr lo hi A ns) ∧ Hid (Below w.heap.size w wr)) (fun _ i _ => ns.length - (intOf i).toNat)
  case atStart => exact ⟨0, Nat.zero_le _, rfl, HO, HT, HI, HB⟩
  case round =>
    clear HO HT HI HB
    obtain ⟨k, hk, rfl, HO, HT, HI, HB⟩ := hrel
    rename World => wr
    by_cases hlt : k < ns.length
    · obtain ⟨b, o, rfl, hN⟩ := HI.out.at3 hlt
      have hki : (k : Int) < (ns.length : Int) := by omega
      have hk0 : (0 : Int) ≤ (k : Int) := by omega
      have hlen := leaves9_len ns k
      have HY := Lib.hid (fun h => leaves9_yes hlt h)
      have HNo := Lib.hid (fun h => leaves9_no hlt h)
      have hkd := HK.out k hlt
      have hl127 := HL.out.2
      have hlen8 : (leaves9 ns k).length ≤ 127 := by omega
      generalize ns[k] = x at hN HY HNo hkd
      obtain ⟨a, b', d⟩ := x
      have hc0 := hN.c0
      have hc1 := hN.c1
      have hc2 := hN.c2
      have hbl := hN.lt
      simp only at hc0 hc1 hc2 hkd
      clear hN hlen
      have h0 := HT.out.c0
      cases hr : ndB (a, b', d) lf9 with
      | true =>
        have HNX := Lib.hid (HY.out hr)
        have hkd2 := hkd.1 hr
        clear hkd HY HNo
        generalize leaves9 ns k = L at HO HNX hlen8
        clear hr
        have hown := HO.out
        have hws := HB.out.size
        have htw := HT.out.lt
        go_wp2_with (at_builtin; refine wpList_append_own _ rfl _ _ 26 rfl (w.heap.size + 1) 3 i0 (.int .i64 0) 1 8 Try.underlying26 hi0 hz0 hz1 hz2 rfl (by decide) _ _ _ rfl (hown.alloc _) ⟨_, 0, none⟩ 1 1 [.int .i64 (k : Int)] rfl rfl (cell_one_new _ _ _) (by simp [Value.oneCell']) (by unfold maxLen; omega) (by omega) (by simp; omega) ?_; intro v' w8 hown' hgrow _)
        have HO8 := Lib.hid (own_snocI hown' rfl)
        have hps := Past.grown hown hgrow
        have HT8 := Lib.hid (HT.out.past hps (Nat.lt_succ_self _))
        have HI8 := Lib.hid (HI.out.past hps (by omega))
        have HB8 := Lib.hid (HB.out.trans (hps.below (by omega) hws))
        clear hown' hgrow hown hps h0
        go_wp2
        go_roundw
        case rel => exact ⟨k + 1, by omega, by go_num, by rw [HNX.out]; exact HO8, HT8, HI8, HB8⟩
        case measure => simp [intOf]; omega
      | false =>
        have HNX := Lib.hid (HNo.out hr)
        have hkd2 := hkd.2 hr
        clear hkd HY HNo
        generalize leaves9 ns k = L at HO HNX hlen8
        clear hr
        go_wp2
        go_roundw
        case rel => exact ⟨k + 1, by omega, by go_num, by rw [HNX.out]; exact HO, HT, HI, HB⟩
        case measure => simp [intOf]; omega
    · obtain rfl : k = ns.length := by omega
      have h0 := HT.out.c0
      go_wp2
      go_ret
      obtain ⟨Ae, ce, he, _, hR⟩ := own_res HO.out rfl
      rw [he]
      exact ⟨Ae, ce, rfl, ⟨hR.own.wide (Nat.le_succ _) (Nat.le_refl _), hR.top⟩, HB.out⟩
set_option maxRecDepth 100000 in
set_option maxHeartbeats 8000000 in
theorem leavesOf_impl_no (n : Int) (A : Option Addr) (c lo hi : Nat) (ns : List (Int × Int × Int)) (w : World) (hS : NIns w lo hi A ns) (hn : ns.length ≤ 1048576) (hno : isT9 n ns = false) :
    Calls Try.prog 70 #[.int .i64 n, .agg #[.slice A ns.length c]] w fun e w' => ∃ B d, e = .returned (.tuple #[.slice B 0 d, .bool false]) ∧ Res w' w.heap.size w'.heap.size B [] ∧ Below w.heap.size w w' := by
  have HT := Lib.hid (One.new w (.slice A ns.length c) 33 w.heap.size rfl)
  have HB := Lib.hid ((Below.refl w.heap.size w).alloc (Nat.le_refl _) (.cells #[.slice A ns.length c] 33))
  have HI := Lib.hid (hS.step HB.out)
  have HC := Lib.hid (fun W h => isTree_impl n A c lo hi ns W h hn)
  rw [hno] at HC
  clear hS hno
  go_enter Try.func70, Try.ntmps70
  go_wp2_with fail
  generalize w.alloc (.cells #[.slice A ns.length c] 33) = w0 at HB HT HI ⊢
  have h0 := HT.out.c0
  with_reducible refine (HC.out _ HI.out).mono ?_
  rintro e w1 ⟨rfl, hb⟩
  replace HB := Lib.hid (below_trans HB.out hb)
  replace HT := Lib.hid (HT.out.step hb)
  replace HI := Lib.hid (HI.out.step hb)
  replace h0 := HT.out.c0
  clear hb
  clear h0
  go_wp2
  go_ret2
  exact ⟨_, _, rfl, empty_res _ _ HB.out.size, HB.out.alloc HB.out.size _⟩
set_option maxRecDepth 100000 in
set_option maxHeartbeats 8000000 in
theorem leavesOf_impl (n : Int) (A : Option Addr) (c lo hi : Nat) (ns : List (Int × Int × Int)) (t : T9) (w : World) (hS : NIns w lo hi A ns) (hT : Tree9 n ns t) :
    Calls Try.prog 70 #[.int .i64 n, .agg #[.slice A ns.length c]] w fun e w' => ∃ B d, e = .returned (.tuple #[.slice B (leaves9 ns ns.length).length d, .bool true]) ∧ Res w' w.heap.size w'.heap.size B (leaves9 ns ns.length) ∧ Below w.heap.size w w' := by
  have HT := Lib.hid (One.new w (.slice A ns.length c) 33 w.heap.size rfl)
  have HB := Lib.hid ((Below.refl w.heap.size w).alloc (Nat.le_refl _) (.cells #[.slice A ns.length c] 33))
  have HI := Lib.hid (hS.step HB.out)
  have HC := Lib.hid (fun W h => isTree_impl n A c lo hi ns W h (by have := hT.le127; omega))
  rw [isT9_mk hT] at HC
  obtain ⟨i0, hi0, hz0, hz1, hz2⟩ := info_parts infoI9
  have HL := Lib.hid (hT.le127)
  have HK := Lib.hid (fun k (h : k < ns.length) => kind9 hT h)
  have htop := hS.top
  clear hS hT
  go_enter Try.func70, Try.ntmps70
  go_wp2_with fail
  generalize w.alloc (.cells #[.slice A ns.length c] 33) = w0 at HB HT HI ⊢
  have h0 := HT.out.c0
  with_reducible refine (HC.out _ HI.out).mono ?_
  rintro e w1 ⟨rfl, hb⟩
  replace HB := Lib.hid (below_trans HB.out hb)
  replace HT := Lib.hid (HT.out.step hb)
  replace HI := Lib.hid (HI.out.step hb)
  replace h0 := HT.out.c0
  clear hb
  have htw1 := HT.out.lt
  have hws1 := HB.out.size
  have HO := Lib.hid (O0_any w1 (w.heap.size + 1) (by omega))
  have hbe := (Below.refl _ w1).alloc (Nat.le_refl _) (.cells #[] 3)
  replace HB := Lib.hid (below_trans HB.out hbe)
  replace HT := Lib.hid (HT.out.step hbe)
  replace HI := Lib.hid (HI.out.step hbe)
  clear h0
  have h0 := HT.out.c0
  go_wp2_with fail
  clear h0
  generalize w1.alloc (.cells #[] 3) = w2 at HT HI HB HO hbe ⊢
  clear hbe HC
  go_loopw [6, 18] (fun ov i wr => ∃ (k : Nat), k ≤ ns.length ∧ i = .int .i64 (k : Int) ∧ Hid (wr.ownsRow (w.heap.size + 1) 3 1 ov (leaves9 ns k).length ((leaves9 ns k).map (Value.int .i64))) ∧ Hid (One wr w.heap.size (.slice A ns.length c) 33) ∧ Hid (NIns wr lo hi A ns) ∧ Hid (Below w.heap.size w wr)) (fun _ i _ => ns.length - (intOf i).toNat)
  case atStart => exact ⟨0, Nat.zero_le _, rfl, HO, HT, HI, HB⟩
  case round =>
    clear HO HT HI HB
    obtain ⟨k, hk, rfl, HO, HT, HI, HB⟩ := hrel
    rename World => wr
    by_cases hlt : k < ns.length
    · obtain ⟨b, o, rfl, hN⟩ := HI.out.at3 hlt
      have hki : (k : Int) < (ns.length : Int) := by omega
      have hk0 : (0 : Int) ≤ (k : Int) := by omega
      have hlen := leaves9_len ns k
      have HY := Lib.hid (fun h => leaves9_yes hlt h)
      have HNo := Lib.hid (fun h => leaves9_no hlt h)
      have hkd := HK.out k hlt
      have hl127 := HL.out.2
      have hlen8 : (leaves9 ns k).length ≤ 127 := by omega
      generalize ns[k] = x at hN HY HNo hkd
      obtain ⟨a, b', d⟩ := x
      have hc0 := hN.c0
      have hc1 := hN.c1
      have hc2 := hN.c2
      have hbl := hN.lt
      simp only at hc0 hc1 hc2 hkd
      clear hN hlen
      cases hr : ndB (a, b', d) lf9 with
      | true =>
        have HNX := Lib.hid (HY.out hr)
        have hkd2 := hkd.1 hr
        clear hkd HY HNo
        generalize leaves9 ns k = L at HO HNX hlen8
        have HLf := Lib.hid (fun W => isLeaf_any a b' d true W hr)
        clear hr
        have hb1 := (Below.refl _ wr).alloc (Nat.le_refl _) (.cells #[.int .i64 a, .int .i64 b', .int .i64 d] 125)
        replace HT := Lib.hid (HT.out.step hb1)
        replace HI := Lib.hid (HI.out.step hb1)
        replace HB := Lib.hid (below_trans HB.out hb1)
        replace HO := Lib.hid (past8 HO.out (Past.of_below hb1))
        go_wp2_with fail
        generalize wr.alloc (.cells #[.int .i64 a, .int .i64 b', .int .i64 d] 125) = w2 at HT HI HB HO ⊢
        clear hb1 hc0 hc1 hc2 hkd2
        with_reducible refine (HLf.out _).mono ?_
        rintro e w3 ⟨rfl, hb⟩
        replace HT := Lib.hid (HT.out.step hb)
        replace HI := Lib.hid (HI.out.step hb)
        replace HB := Lib.hid (below_trans HB.out hb)
        replace HO := Lib.hid (past8 HO.out (Past.of_below hb))
        clear hb
        have hown := HO.out
        have hws := HB.out.size
        have htw := HT.out.lt
        go_wp2_with (at_builtin; refine wpList_append_own _ rfl _ _ 26 rfl (w.heap.size + 1) 3 i0 (.int .i64 0) 1 8 Try.underlying26 hi0 hz0 hz1 hz2 rfl (by decide) _ _ _ rfl (hown.alloc _) ⟨_, 0, none⟩ 1 1 [.int .i64 (k : Int)] rfl rfl (cell_one_new _ _ _) (by simp [Value.oneCell']) (by unfold maxLen; omega) (by omega) (by simp; omega) ?_; intro v' w8 hown' hgrow _)
        have HO8 := Lib.hid (own_snocI hown' rfl)
        have hps := Past.grown hown hgrow
        have HT8 := Lib.hid (HT.out.past hps (Nat.lt_succ_self _))
        have HI8 := Lib.hid (HI.out.past hps (by omega))
        have HB8 := Lib.hid (HB.out.trans (hps.below (by omega) hws))
        clear hown' hgrow hown hps
        go_wp2
        go_roundw
        case rel => exact ⟨k + 1, by omega, by go_num, by rw [HNX.out]; exact HO8, HT8, HI8, HB8⟩
        case measure => simp [intOf]; omega
      | false =>
        have HNX := Lib.hid (HNo.out hr)
        have hkd2 := hkd.2 hr
        clear hkd HY HNo
        generalize leaves9 ns k = L at HO HNX hlen8
        have HLf := Lib.hid (fun W => isLeaf_any a b' d false W hr)
        clear hr
        have hb1 := (Below.refl _ wr).alloc (Nat.le_refl _) (.cells #[.int .i64 a, .int .i64 b', .int .i64 d] 125)
        replace HT := Lib.hid (HT.out.step hb1)
        replace HI := Lib.hid (HI.out.step hb1)
        replace HB := Lib.hid (below_trans HB.out hb1)
        replace HO := Lib.hid (past8 HO.out (Past.of_below hb1))
        go_wp2_with fail
        generalize wr.alloc (.cells #[.int .i64 a, .int .i64 b', .int .i64 d] 125) = w2 at HT HI HB HO ⊢
        clear hb1 hc0 hc1 hc2 hkd2
        with_reducible refine (HLf.out _).mono ?_
        rintro e w3 ⟨rfl, hb⟩
        replace HT := Lib.hid (HT.out.step hb)
        replace HI := Lib.hid (HI.out.step hb)
        replace HB := Lib.hid (below_trans HB.out hb)
        replace HO := Lib.hid (past8 HO.out (Past.of_below hb))
        clear hb
        go_wp2
        go_roundw
        case rel => exact ⟨k + 1, by omega, by go_num, by rw [HNX.out]; exact HO, HT, HI, HB⟩
        case measure => simp [intOf]; omega
    · obtain rfl : k = ns.length := by omega
      go_wp2
      go_ret2
      obtain ⟨Ae, ce, he, _, hR⟩ := own_res HO.out rfl
      rw [he]
      exact ⟨Ae, ce, rfl, ⟨hR.own.wide (by omega) (Nat.le_refl _), hR.top⟩, HB.out⟩
end Go.Proofs.Ytdkffkgoalgjmac
