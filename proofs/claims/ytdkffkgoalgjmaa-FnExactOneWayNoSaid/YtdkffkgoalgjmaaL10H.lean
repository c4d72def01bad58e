/- OneWayNo, OneWayYes: both. -/
import Derived.Test.YtdkffkgoalgjmaaYesNo
import Derived.Test.YtdkffkgoalgjmaaRows2
import Derived.Test.YtdkffkgoalgjmaaAfter2
import Derived.Test.YtdkffkgoalgjmaaCopy
namespace Go.Proofs.Ytdkffkgoalgjmaa
open Go.RowKit Go.ChangeShapes Go.WideShapes
set_option linter.unusedVariables false

set_option maxRecDepth 100000 in
set_option maxHeartbeats 2000000 in
theorem oneWayNo_impl (A : Option Addr) (c lo hi : Nat) (zs : List Int) (A2 : Option Addr) (c2 lo2 hi2 : Nat) (ss : List Int) (w : World) (hS : Ins w lo hi A zs) (hS2 : Ins w lo2 hi2 A2 ss) (hn : zs.length ≤ 1048576) (hn2 : ss.length ≤ 1048576) :
    Calls Try.prog 36 #[.slice A zs.length c, .slice A2 ss.length c2] w (RowAns w (if cOK zs && fitL ss zs then (fun (p : Nat) (r s : Row) => lstR p (noR r s)) zs.length (rowL zs) (rowL ss) else []) (cOK zs && fitL ss zs)) := by
  have HN := Lib.hid (fun W h h2 => noCounts_impl A c lo hi zs A2 c2 lo2 hi2 ss W h h2 hn hn2)
  have HS := Lib.hid hS
  have HS2 := Lib.hid hS2
  clear hS hS2
  generalize (if cOK zs && fitL ss zs then (fun (p : Nat) (r s : Row) => lstR p (noR r s)) zs.length (rowL zs) (rowL ss) else []) = L at HN ⊢
  generalize (cOK zs && fitL ss zs) = b at HN ⊢
  unfold RowAns at HN ⊢
  go_enter Try.func36, Try.ntmps36
  go_wp2_with fail
  refine (HN.out w HS.out HS2.out).mono ?_
  rintro e w1 ⟨B, c', rfl, hr, hb⟩
  have HR := Lib.hid hr
  have HB := Lib.hid hb
  clear hr hb
  go_wp2
  go_ret2
  exact ⟨B, c', rfl, HR.out, HB.out⟩
set_option maxRecDepth 100000 in
set_option maxHeartbeats 4000000 in
theorem oneWayNo_spec (A : Option Addr) (c lo hi : Nat) (zs : List Int) (A2 : Option Addr) (c2 lo2 hi2 : Nat) (ss : List Int) (w : World) (hS : Ins w lo hi A zs) (hS2 : Ins w lo2 hi2 A2 ss) (hn : zs.length ≤ 1048576) (hn2 : ss.length ≤ 1048576) :
    Calls Try.prog 35 #[.slice A zs.length c, .slice A2 ss.length c2] w (RowAns w (if cOK zs && fitL ss zs then (fun (p : Nat) (r s : Row) => lstR p (noR r s)) zs.length (rowL zs) (rowL ss) else []) (cOK zs && fitL ss zs)) := by
  have HC := Lib.hid (fun W h => l4Counts_any A c lo hi zs W h hn)
  cases hc : cOK zs with
  | false =>
    rw [hc] at HC
    rw [Bool.false_and, if_neg (by simp)]
    unfold RowAns
    go_enter Try.func35, Try.ntmps35
    go_wp2_with fail
    refine (HC.out w hS).mono ?_
    rintro e w1 ⟨rfl, rfl⟩
    go_wp2
    go_ret2
    exact ⟨_, 0, rfl, empty_res w1 w1.heap.size (Nat.le_refl _), (Below.refl _ _).alloc (Nat.le_refl _) _⟩
  | true =>
    rw [hc] at HC
    rw [Bool.true_and]
    obtain ⟨r, hr, hw, h8⟩ := cOK_row hc
    have hp := hw.le
    have HS := Lib.hid hS
    have HS2 := Lib.hid hS2
    have HF := Lib.hid (fun W h h2 => l4Split_any A c lo hi zs A2 c2 lo2 hi2 ss W h h2 hp.2 hn2)
    cases hf : fitL ss zs with
    | false =>
      rw [hf] at HF
      rw [if_neg (by simp)]
      clear hS hS2 hr hw hc hf
      unfold RowAns
      go_enter Try.func35, Try.ntmps35
      go_wp2_with fail
      refine (HC.out w HS.out).mono ?_
      rintro e w1 ⟨rfl, rfl⟩
      go_wp2_with fail
      refine (HF.out w1 HS.out HS2.out).mono ?_
      rintro e w2 ⟨rfl, hb⟩
      have HB := Lib.hid hb
      clear hb
      go_wp2
      go_ret2
      exact ⟨_, 0, rfl, empty_res w2 w1.heap.size HB.out.size, HB.out.alloc HB.out.size _⟩
    | true =>
      rw [hf] at HF
      rw [hr] at hf
      obtain ⟨s, hs, hws, hfs⟩ := fit_row hw hf
      rw [if_pos rfl, rowL_eq hr hw, rowL_eq (p := zs.length) hs hws]
      have hl2 : ss.length = zs.length := by rw [hs, lst_len hp]
      rw [hl2] at HF ⊢
      generalize zs.length = p at *
      have HY := Lib.hid (fun W h h2 => l4No_any A c lo hi A2 c2 lo2 hi2 p r s W h h2 hw h8 hfs)
      rw [← hr, ← hs] at HY
      have HLn := Lib.hid (lst_len hp (noR r s))
      clear hS hS2 hr hs hf
      unfold RowAns
      go_enter Try.func35, Try.ntmps35
      go_wp2_with fail
      refine (HC.out w HS.out).mono ?_
      rintro e w1 ⟨rfl, rfl⟩
      go_wp2_with fail
      refine (HF.out w1 HS.out HS2.out).mono ?_
      rintro e w2 ⟨rfl, hb⟩
      have HB := Lib.hid hb
      have HS1 := Lib.hid (HS.out.step hb)
      have HS21 := Lib.hid (HS2.out.step hb)
      clear hb HF HC
      go_wp2_with fail
      refine (HY.out w2 HS1.out HS21.out).mono ?_
      rintro e w3 ⟨g, c', rfl, hg, ho, hb⟩
      have hsz := HB.out.size
      replace HB := Lib.hid (below_trans HB.out hb)
      have HO := Lib.hid ho
      clear hb ho HY
      go_wp2
      go_ret2
      exact own_ansR HLn.out rfl (by omega) HO.out HB.out
theorem oneWayNo_both (zs : List Int) (h : zs.length ≤ 1048576) (ss : List Int) (h2 : ss.length ≤ 1048576) : ∃ (r0 : List Int) (r1 : Bool), r0.length ≤ 1048576 ∧
    (∀ (w : World) (B : Option Addr) (c lo hi : Nat) (B2 : Option Addr) (c2 lo2 hi2 : Nat), Ins w lo hi B zs → Ins w lo2 hi2 B2 ss → Calls Try.prog 36 #[.slice B zs.length c, .slice B2 ss.length c2] w fun e w' => ∃ B c', e = .returned (.tuple #[.slice B r0.length c', .bool r1]) ∧ Res w' w.heap.size w'.heap.size B r0 ∧ Below w.heap.size w w') ∧
    (∀ (w : World) (B : Option Addr) (c lo hi : Nat) (B2 : Option Addr) (c2 lo2 hi2 : Nat), Ins w lo hi B zs → Ins w lo2 hi2 B2 ss → Calls Try.prog 35 #[.slice B zs.length c, .slice B2 ss.length c2] w fun e w' => ∃ B c', e = .returned (.tuple #[.slice B r0.length c', .bool r1]) ∧ Res w' w.heap.size w'.heap.size B r0 ∧ Below w.heap.size w w') :=
  ⟨_, _, rows_len _ zs ss _ (fun p r s => lst_short _ _), fun w B c lo hi B2 c2 lo2 hi2 hS hS2 => oneWayNo_impl B c lo hi zs B2 c2 lo2 hi2 ss w hS hS2 h h2, fun w B c lo hi B2 c2 lo2 hi2 hS hS2 => oneWayNo_spec B c lo hi zs B2 c2 lo2 hi2 ss w hS hS2 h h2⟩
/-- slices.Clone over integers. -/
theorem oneClone_len (zs : List Int) : (zs.map (Value.int .i64)).length = zs.length := by simp
set_option maxRecDepth 100000 in
set_option maxHeartbeats 2000000 in
theorem cloneInts_any (A : Option Addr) (c lo hi : Nat) (zs : List Int) (w : World) (hS : Ins w lo hi A zs) (h1 : 1 ≤ zs.length) (hn : zs.length ≤ 12) :
    Calls Try.prog 68 #[.slice A zs.length c] w fun e w' => ∃ g c', e = .returned (.slice (some ⟨g, 0, none⟩) zs.length c') ∧ w.heap.size ≤ g ∧ Own w' g (g + 1) (some ⟨g, 0, none⟩) zs ∧ Below w.heap.size w w' := by
  obtain ⟨i0, hi0, hz0, hz1, hz2⟩ := info_parts infoI3
  have hq : ∀ (W : World) (a : Option Addr) (n c n' c' : Nat), (binOp .eql 22 (.slice a n c) (.slice none n' c')).run Try.prog W = .ok (.bool a.isNone) W := fun W a n c n' c' => Lib.run_eql_slice_nil W _ _ a n c n' c' Try.underlying22
  obtain ⟨b, o, rfl, _, hb, hc⟩ := (hS.step ((Below.refl _ _).alloc (Nat.le_refl _) (.cells #[] 3))).ints (by omega)
  have HN := Lib.hid (Ints.add hc)
  have hown := O0_any w w.heap.size (Nat.le_refl _)
  have hO := ones zs
  have HO1 := Lib.hid hO
  have hsome : (some (Addr.mk b o none)).isNone = false := rfl
  clear hS hc hO
  go_enter Try.func68, Try.ntmps68
  go_upto_region 3 with (fail)
  go_wp2_with (at_builtin; refine wpList_append_own _ rfl (.tmp 5) (.tmp 6) 22 rfl w.heap.size 3 i0 (.int .i64 0) 1 8 Try.underlying22 hi0 hz0 hz1 hz2 rfl (by decide) _ _ _ rfl hown ⟨b, o, none⟩ zs.length c (zs.map (Value.int .i64)) rfl (by simp) HN.out HO1.out (by unfold maxLen; omega) (by omega) (by simp) ?_; intro v' w1 hown' hgrow _)
  have HW := Lib.hid (show w1.ownsRow w.heap.size 3 1 v' zs.length (zs.map (Value.int .i64)) from by simpa using hown')
  have HB := Lib.hid (((Below.refl w.heap.size w).alloc (Nat.le_refl _) (.cells #[] 3)).grown hgrow (by simp) (fun q hq => (hown.lt q hq).1))
  clear hown' hgrow hown
  go_wp2
  go_ret
  obtain ⟨g, c1, rfl, hg, ho⟩ := own_rowS HW.out rfl (by omega)
  exact ⟨g, c1, rfl, hg, ho, HB.out⟩
set_option maxRecDepth 100000 in
set_option maxHeartbeats 2000000 in
theorem oneWayYes_impl (A : Option Addr) (c lo hi : Nat) (zs : List Int) (A2 : Option Addr) (c2 lo2 hi2 : Nat) (ss : List Int) (w : World) (hS : Ins w lo hi A zs) (hS2 : Ins w lo2 hi2 A2 ss) (hn : zs.length ≤ 1048576) (hn2 : ss.length ≤ 1048576) :
    Calls Try.prog 31 #[.slice A zs.length c, .slice A2 ss.length c2] w (RowAns w (if cOK zs && fitL ss zs then ss else []) (cOK zs && fitL ss zs)) := by
  have HC := Lib.hid (fun W h h2 => isSplit_any A c lo hi zs A2 c2 lo2 hi2 ss W h h2 hn hn2)
  cases hok : (cOK zs && fitL ss zs) with
  | false =>
    rw [hok] at HC
    rw [if_neg (by simp)]
    unfold RowAns
    go_enter Try.func31, Try.ntmps31
    go_wp2_with fail
    refine (HC.out w hS hS2).mono ?_
    rintro e w1 ⟨rfl, rfl⟩
    go_wp2
    go_ret2
    exact ⟨_, 0, rfl, empty_res w1 w1.heap.size (Nat.le_refl _), (Below.refl _ _).alloc (Nat.le_refl _) _⟩
  | true =>
    rw [hok] at HC
    rw [Bool.and_eq_true] at hok
    obtain ⟨r, hr, hw, h8⟩ := cOK_row hok.1
    have hf := hok.2
    rw [hr] at hf
    obtain ⟨s, hs, hws, hfs⟩ := fit_row hw hf
    have hp := hw.le
    have hl2 : ss.length = zs.length := by rw [hs, lst_len hp]
    rw [if_pos rfl]
    have HCl := Lib.hid (fun W h => cloneInts_any A2 c2 lo2 hi2 ss W h (by omega) (by omega))
    have HS := Lib.hid hS
    have HS2 := Lib.hid hS2
    clear hok hf hr hs hS hS2 hl2
    unfold RowAns
    go_enter Try.func31, Try.ntmps31
    go_wp2_with fail
    refine (HC.out w HS.out HS2.out).mono ?_
    rintro e w1 ⟨rfl, rfl⟩
    go_wp2_with fail
    refine (HCl.out w1 HS2.out).mono ?_
    rintro e w2 ⟨g, c', rfl, hg, ho, hb⟩
    have HO := Lib.hid ho
    have HB := Lib.hid hb
    clear ho hb
    go_wp2
    go_ret2
    exact ⟨_, c', rfl, ⟨HO.out.wide hg (own_lt HO.out), Nat.le_refl _⟩, HB.out⟩
set_option maxRecDepth 100000 in
set_option maxHeartbeats 2000000 in
theorem oneWayYes_spec (A : Option Addr) (c lo hi : Nat) (zs : List Int) (A2 : Option Addr) (c2 lo2 hi2 : Nat) (ss : List Int) (w : World) (hS : Ins w lo hi A zs) (hS2 : Ins w lo2 hi2 A2 ss) (hn : zs.length ≤ 1048576) (hn2 : ss.length ≤ 1048576) :
    Calls Try.prog 29 #[.slice A zs.length c, .slice A2 ss.length c2] w (RowAns w (if cOK zs && fitL ss zs then ss else []) (cOK zs && fitL ss zs)) := by
  have HC := Lib.hid (fun W h => l4Counts_any A c lo hi zs W h hn)
  cases hc : cOK zs with
  | false =>
    rw [hc] at HC
    rw [Bool.false_and, if_neg (by simp)]
    unfold RowAns
    go_enter Try.func29, Try.ntmps29
    go_wp2_with fail
    refine (HC.out w hS).mono ?_
    rintro e w1 ⟨rfl, rfl⟩
    go_wp2
    go_ret2
    exact ⟨_, 0, rfl, empty_res w1 w1.heap.size (Nat.le_refl _), (Below.refl _ _).alloc (Nat.le_refl _) _⟩
  | true =>
    rw [hc] at HC
    rw [Bool.true_and]
    obtain ⟨r, hr, hw, h8⟩ := cOK_row hc
    have hp := hw.le
    have HS := Lib.hid hS
    have HS2 := Lib.hid hS2
    have HF := Lib.hid (fun W h h2 => l4Split_any A c lo hi zs A2 c2 lo2 hi2 ss W h h2 hp.2 hn2)
    cases hf : fitL ss zs with
    | false =>
      rw [hf] at HF
      rw [if_neg (by simp)]
      clear hS hS2 hr hw hc hf
      unfold RowAns
      go_enter Try.func29, Try.ntmps29
      go_wp2_with fail
      refine (HC.out w HS.out).mono ?_
      rintro e w1 ⟨rfl, rfl⟩
      go_wp2_with fail
      refine (HF.out w1 HS.out HS2.out).mono ?_
      rintro e w2 ⟨rfl, hb⟩
      have HB := Lib.hid hb
      clear hb
      go_wp2
      go_ret2
      exact ⟨_, 0, rfl, empty_res w2 w1.heap.size HB.out.size, HB.out.alloc HB.out.size _⟩
    | true =>
      rw [hf] at HF
      rw [hr] at hf
      obtain ⟨s, hs, hws, hfs⟩ := fit_row hw hf
      rw [if_pos rfl]
      have hl2 : ss.length = zs.length := by rw [hs, lst_len hp]
      have HY := Lib.hid (fun W h => l1Own_row A2 c2 lo2 hi2 ss W h (by omega) (by omega))
      clear hl2
      clear hS hS2 hr hs hf
      unfold RowAns
      go_enter Try.func29, Try.ntmps29
      go_wp2_with fail
      refine (HC.out w HS.out).mono ?_
      rintro e w1 ⟨rfl, rfl⟩
      go_wp2_with fail
      refine (HF.out w1 HS.out HS2.out).mono ?_
      rintro e w2 ⟨rfl, hb⟩
      have HB := Lib.hid hb
      have HS1 := Lib.hid (HS.out.step hb)
      have HS21 := Lib.hid (HS2.out.step hb)
      clear hb HF HC
      go_wp2_with fail
      refine (HY.out w2 HS21.out).mono ?_
      rintro e w3 ⟨g, c', rfl, hg, ho, hb⟩
      have hsz := HB.out.size
      replace HB := Lib.hid (below_trans HB.out hb)
      have HO := Lib.hid ho
      clear hb ho HY
      go_wp2
      go_ret2
      exact ⟨_, c', rfl, ⟨HO.out.wide (by omega) (own_lt HO.out), Nat.le_refl _⟩, HB.out⟩
theorem oneWayYes_both (zs : List Int) (h : zs.length ≤ 1048576) (ss : List Int) (h2 : ss.length ≤ 1048576) : ∃ (r0 : List Int) (r1 : Bool), r0.length ≤ 1048576 ∧
    (∀ (w : World) (B : Option Addr) (c lo hi : Nat) (B2 : Option Addr) (c2 lo2 hi2 : Nat), Ins w lo hi B zs → Ins w lo2 hi2 B2 ss → Calls Try.prog 31 #[.slice B zs.length c, .slice B2 ss.length c2] w fun e w' => ∃ B c', e = .returned (.tuple #[.slice B r0.length c', .bool r1]) ∧ Res w' w.heap.size w'.heap.size B r0 ∧ Below w.heap.size w w') ∧
    (∀ (w : World) (B : Option Addr) (c lo hi : Nat) (B2 : Option Addr) (c2 lo2 hi2 : Nat), Ins w lo hi B zs → Ins w lo2 hi2 B2 ss → Calls Try.prog 29 #[.slice B zs.length c, .slice B2 ss.length c2] w fun e w' => ∃ B c', e = .returned (.tuple #[.slice B r0.length c', .bool r1]) ∧ Res w' w.heap.size w'.heap.size B r0 ∧ Below w.heap.size w w') 
  := ⟨(if cOK zs && fitL ss zs then ss else []), (cOK zs && fitL ss zs), (by split <;> simp [h2]), fun w B c lo hi B2 c2 lo2 hi2 hS hS2 => oneWayYes_impl B c lo hi zs B2 c2 lo2 hi2 ss w hS hS2 h h2, fun w B c lo hi B2 c2 lo2 hi2 hS hS2 => oneWayYes_spec B c lo hi zs B2 c2 lo2 hi2 ss w hS hS2 h h2⟩
end Go.Proofs.Ytdkffkgoalgjmaa
