/- The State behind all answers, lies in one direction: both. -/
import Derived.Test.YtdkffkgoalgjmacL10C
import Derived.Test.YtdkffkgoalgjmacAll2
namespace Go.Proofs.Ytdkffkgoalgjmac
open Go.RowKit Go.ChangeShapes Go.WideShapes
set_option linter.unusedVariables false

theorem ostep_impl {n : Nat} {zs : List Int} (hz : zs.length = n) (g c : Nat) (m q : Int) (y : Bool) (w : World) (hS : Own w g (g + 1) (some ⟨g, 0, none⟩) zs) (hst : isSt zs m = true) (hq : qOK (n : Int) q = true) :
    Calls Try.prog 27 #[.agg #[.slice (some ⟨g, 0, none⟩) n c, .int .i64 m], .agg #[.int .i64 q, .bool y]] w fun e w' => ∃ g' c', e = .returned (.tuple #[.agg #[.slice (some ⟨g', 0, none⟩) n c', .int .i64 m], .bool true]) ∧ w.heap.size ≤ g' ∧ Own w' g' (g' + 1) (some ⟨g', 0, none⟩) (owA zs m q y) ∧ Below w.heap.size w w' := by
  subst hz
  exact oneWayState_impl (some ⟨g, 0, none⟩) c g (g + 1) zs m q y w ⟨hS.ints, own_lt hS⟩ hst hq
theorem ostep_spec {n : Nat} {zs : List Int} (hz : zs.length = n) (g c : Nat) (m q : Int) (y : Bool) (w : World) (hS : Own w g (g + 1) (some ⟨g, 0, none⟩) zs) (hst : isSt zs m = true) :
    Calls Try.prog 83 #[.agg #[.slice (some ⟨g, 0, none⟩) n c, .int .i64 m], .int .i64 q, .bool y] w fun e w' => ∃ g' c', e = .returned (.agg #[.slice (some ⟨g', 0, none⟩) n c', .int .i64 m]) ∧ w.heap.size ≤ g' ∧ Own w' g' (g' + 1) (some ⟨g', 0, none⟩) (owA zs m q y) ∧ Below w.heap.size w w' := by
  subst hz
  exact l10After_any (some ⟨g, 0, none⟩) c g (g + 1) zs m q y w ⟨hS.ints, own_lt hS⟩ hst
set_option maxRecDepth 100000 in
set_option maxHeartbeats 4000000 in
theorem oneWayAll_impl (n : Nat) (m : Int) (A : Option Addr) (c lo hi : Nat) (l : List (Int × Bool)) (w : World) (hS : AIns w lo hi A l) (hok : okA n l = true) (h1n : 1 ≤ n) (hn : n ≤ 12) (hm : inB m 0 2 = true) (h20 : l.length ≤ 20) :
    Calls Try.prog 23 #[.int .i64 (n : Int), .int .i64 m, .slice A l.length c] w fun e w' => ∃ g c', e = .returned (.tuple #[.agg #[.slice (some ⟨g, 0, none⟩) n c', .int .i64 m], .bool true]) ∧ w.heap.size ≤ g ∧ Own w' g (g + 1) (some ⟨g, 0, none⟩) (owSt n m l l.length) ∧ Below w.heap.size w w' := by
  have hmb := inB_iff.1 hm
  have HEa := Lib.hid (fun W h => answerEach_any n m 27 (owSt n m l) A c lo hi l W rfl (fun _ _ => rfl) (fun k hk g c W h => by
    rw [owSt, getDA hk]
    refine (ostep_impl (owSt_len n m l k) g c m l[k].1 l[k].2 W h (owSt_ok l h1n hn hmb.1 hmb.2 k) (okA_at hok hk)).mono ?_
    rintro e w' ⟨g', c', rfl, h1, h2, h3⟩
    exact ⟨g', c', rfl, h1, h2, h3⟩) h hok h1n hn hm h20)
  have HR := Lib.hid (Two.new w (.slice none 0 0) (.int .i64 0) 28 w.heap.size rfl)
  have HB := Lib.hid ((Below.refl w.heap.size w).alloc (Nat.le_refl _) (.cells #[.slice none 0 0, .int .i64 0] 28))
  have HS := Lib.hid (hS.step HB.out)
  clear hS hok hm
  go_enter Try.func23, Try.ntmps23
  go_wp2_with fail
  generalize w.alloc (.cells #[.slice none 0 0, .int .i64 0] 28) = wa at HR HB HS ⊢
  refine (HEa.out wa HS.out).mono ?_
  rintro e wd ⟨g, c', rfl, hg, ho, hb⟩
  have hgw : w.heap.size < g := Nat.lt_of_lt_of_le HR.out.lt hg
  replace HR := Lib.hid (HR.out.step hb)
  replace HB := Lib.hid (below_trans HB.out hb)
  have HO := Lib.hid ho
  clear hb ho HEa
  have r0 := HR.out.c0
  have r1 := HR.out.c1
  have f0 := HR.out.f0
  have f1 := HR.out.f1
  go_wp2
  obtain ⟨hs, hw⟩ := stored2 HR.out.row (.slice (some ⟨g, 0, none⟩) n c') (.int .i64 m)
  generalize ((wd.setCell ⟨w.heap.size, 0, none⟩ (.slice (some ⟨g, 0, none⟩) n c')).setCell ⟨w.heap.size, 1, none⟩ (.int .i64 m)) = wf at hs hw ⊢
  have e0 := two0 hs
  have e1 := two1 hs
  refine bodyPost_ret (v := .tuple #[.agg #[.slice (some ⟨g, 0, none⟩) n c', .int .i64 m], .bool true]) (by simp [results, go_sem, e0, e1]) rfl ?_
  exact ⟨g, c', rfl, by omega, own_same HO.out (hw.block g (own_lt HO.out) (.inr (by omega))), HB.out.trans (hw.below (Nat.le_refl _) HB.out.size)⟩

set_option maxRecDepth 100000 in
set_option maxHeartbeats 4000000 in
theorem l10All_any (n : Nat) (m : Int) (A : Option Addr) (c lo hi : Nat) (l : List (Int × Bool)) (w : World) (hS : AIns w lo hi A l) (hok : okA n l = true) (h1n : 1 ≤ n) (hn : n ≤ 12) (hm : inB m 0 2 = true) :
    Calls Try.prog 77 #[.int .i64 (n : Int), .int .i64 m, .slice A l.length c] w fun e w' => ∃ g c', e = .returned (.agg #[.slice (some ⟨g, 0, none⟩) n c', .int .i64 m]) ∧ w.heap.size ≤ g ∧ Own w' g (g + 1) (some ⟨g, 0, none⟩) (owSt n m l l.length) ∧ Below w.heap.size w w' := by
  have hmb := inB_iff.1 hm
  have h20 := (okA_iff hok).2
  have HST := Lib.hid (fun W => l2Start_any n m W hn)
  have HOK := Lib.hid (fun k => owSt_ok l h1n hn hmb.1 hmb.2 k)
  have HLN := Lib.hid (fun k => owSt_len n m l k)
  have HR := Lib.hid (Two.new w (.slice none 0 0) (.int .i64 0) 28 w.heap.size rfl)
  have HB := Lib.hid ((Below.refl w.heap.size w).alloc (Nat.le_refl _) (.cells #[.slice none 0 0, .int .i64 0] 28))
  have hht := hS.top
  have HS := Lib.hid (hS.step HB.out)
  clear hS hok hm
  go_enter Try.func77, Try.ntmps77
  go_wp2_with fail
  generalize w.alloc (.cells #[.slice none 0 0, .int .i64 0] 28) = wa at HR HB HS ⊢
  have hwa : w.heap.size < wa.heap.size := HR.out.lt
  refine (HST.out wa).mono ?_
  rintro e wb ⟨g0, rfl, hg0, hr0, hb⟩
  have hwb : w.heap.size < wb.heap.size := Nat.lt_of_lt_of_le hwa hb.size
  have hg0b : g0 < wb.heap.size := row_ltI hr0
  replace HR := Lib.hid (HR.out.step hb)
  replace HB := Lib.hid (below_trans HB.out hb)
  replace HS := Lib.hid (HS.out.step hb)
  have HO := Lib.hid (zeros_own hr0)
  clear hb hr0
  have hal := (Below.refl wb.heap.size wb).alloc (Nat.le_refl _) (.cells #[.slice (some ⟨g0, 0, none⟩) n n, .int .i64 m] 28)
  have HV := Lib.hid (Two.new wb (.slice (some ⟨g0, 0, none⟩) n n) (.int .i64 m) 28 wb.heap.size rfl)
  replace HR := Lib.hid (HR.out.step hal)
  replace HB := Lib.hid (below_trans HB.out hal)
  replace HS := Lib.hid (HS.out.step hal)
  replace HO := Lib.hid (own_same HO.out (hal.block g0 (own_lt HO.out)))
  clear hal
  go_wp2_with fail
  generalize wb.alloc (.cells #[.slice (some ⟨g0, 0, none⟩) n n, .int .i64 m] 28) = wc at HR HB HS HO HV ⊢
  go_loopw [8] (fun i wr => ∃ (k g c1 : Nat), k ≤ l.length ∧ i = .int .i64 k ∧ g ≠ wb.heap.size ∧ w.heap.size < g ∧ Hid (Two wr wb.heap.size (.slice (some ⟨g, 0, none⟩) n c1) (.int .i64 m) 28) ∧ Hid (Own wr g (g + 1) (some ⟨g, 0, none⟩) (owSt n m l k)) ∧ Hid (Two wr w.heap.size (.slice none 0 0) (.int .i64 0) 28) ∧ Hid (AIns wr lo hi A l) ∧ Hid (Below w.heap.size w wr)) (fun i _ => l.length - (intOf i).toNat)
  case atStart => exact ⟨0, g0, n, Nat.zero_le _, rfl, by omega, by omega, HV.out, HO.out, HR.out, HS.out, HB.out⟩
  case round =>
    obtain ⟨k, g, c1, hk, rfl, hgv, hgw, HVr, HOr, HRr, HSr, HBr⟩ := hrel
    by_cases hlt : k < l.length
    · obtain ⟨b, o, rfl, _, _, hc1, hc2⟩ := HSr.out.asks.at_ hlt
      have hE : owSt n m l (k + 1) = owA (owSt n m l k) m l[k].1 l[k].2 := by rw [owSt, getDA hlt]
      generalize l[k] = x at hc1 hc2 hE
      have HE := Lib.hid hE
      have HSTEP := Lib.hid (fun (g c1 : Nat) W h => ostep_spec (HLN.out k) g c1 m x.1 x.2 W h (HOK.out k))
      have h0 := HVr.out.c0
      have h1 := HVr.out.c1
      have hvx := HVr.out.lt
      have HSW : Hid (hi ≤ wb.heap.size ∨ wb.heap.size + 1 ≤ lo) := Lib.hid (.inl (by omega))
      clear hE
      go_wp2_with fail
      go_region_with (go_at_call 83; refine (HSTEP.out g c1 wr.drew (own_same (w' := wr.drew) HOr.out rfl)).mono ?_; rintro e w5 ⟨g', c', rfl, hg', ho', hb0⟩; have hb' : Below wr.heap.size wr w5 := below_trans ((Below.refl _ _).drew) hb0; have HV2 := Lib.hid (HVr.out.step hb'); have HR2 := Lib.hid (HRr.out.step hb'); have HS2 := Lib.hid (HSr.out.step hb'); have HB2 := Lib.hid (below_trans HBr.out hb'); have HO2 := Lib.hid ho'; have hg2 : wr.heap.size ≤ g' := hg'; have h0 := HV2.out.c0; have h1 := HV2.out.c1; have f0 := HV2.out.f0; have f1 := HV2.out.f1; have HX := Lib.hid (stored2 HV2.out.row (.slice (some ⟨g', 0, none⟩) n c') (.int .i64 m)); clear hb' hb0 ho' hg')
      all_goals
        go_wp2
        go_roundw
        case rel => exact ⟨k + 1, g', c', by omega, by go_num, by omega, by omega, Lib.hid ⟨HX.out.1⟩, Lib.hid (by rw [HE.out]; exact own_same HO2.out (HX.out.2.block g' (own_lt HO2.out) (.inr (by omega)))), Lib.hid (HR2.out.within HX.out.2 (.inl hwb)), Lib.hid (HS2.out.within HX.out.2 HSW.out), Lib.hid (HB2.out.trans (HX.out.2.below (by omega) HB2.out.size))⟩
        case measure => simp [intOf]; omega
    · obtain rfl : k = l.length := by omega
      have v0 := HVr.out.c0
      have v1 := HVr.out.c1
      have r0 := HRr.out.c0
      have r1 := HRr.out.c1
      have f0 := HRr.out.f0
      have f1 := HRr.out.f1
      go_wp2
      obtain ⟨hs, hw⟩ := stored2 HRr.out.row (.slice (some ⟨g, 0, none⟩) n c1) (.int .i64 m)
      generalize ((wr.setCell ⟨w.heap.size, 0, none⟩ (.slice (some ⟨g, 0, none⟩) n c1)).setCell ⟨w.heap.size, 1, none⟩ (.int .i64 m)) = wf at hs hw ⊢
      have e0 := two0 hs
      have e1 := two1 hs
      refine bodyPost_ret (v := .agg #[.slice (some ⟨g, 0, none⟩) n c1, .int .i64 m]) (by simp [results, go_sem, e0, e1]) rfl ?_
      exact ⟨g, c1, rfl, by omega, own_same HOr.out (hw.block g (own_lt HOr.out) (.inr (by omega))), HBr.out.trans (hw.below (Nat.le_refl _) HBr.out.size)⟩

set_option maxRecDepth 100000 in
set_option maxHeartbeats 2000000 in
theorem oneWayAll_spec (n : Nat) (m : Int) (A : Option Addr) (c lo hi : Nat) (l : List (Int × Bool)) (w : World) (hS : AIns w lo hi A l) (hok : okA n l = true) (h1n : 1 ≤ n) (hn : n ≤ 12) (hm : inB m 0 2 = true) :
    Calls Try.prog 24 #[.int .i64 (n : Int), .int .i64 m, .slice A l.length c] w fun e w' => ∃ g c', e = .returned (.tuple #[.agg #[.slice (some ⟨g, 0, none⟩) n c', .int .i64 m], .bool true]) ∧ w.heap.size ≤ g ∧ Own w' g (g + 1) (some ⟨g, 0, none⟩) (owSt n m l l.length) ∧ Below w.heap.size w w' := by
  have h20 := (okA_iff hok).2
  have HA := Lib.hid (fun W h => l2Answers_any (n : Int) A c lo hi l W h (by omega))
  rw [hok] at HA
  have HM := Lib.hid (fun W => l1In_any m 0 2 W)
  rw [hm] at HM
  have HL := Lib.hid (fun W h => l10All_any n m A c lo hi l W h hok h1n hn hm)
  have HR := Lib.hid (Two.new w (.slice none 0 0) (.int .i64 0) 28 w.heap.size rfl)
  have HB := Lib.hid ((Below.refl w.heap.size w).alloc (Nat.le_refl _) (.cells #[.slice none 0 0, .int .i64 0] 28))
  have HS := Lib.hid (hS.step HB.out)
  clear hS hok hm
  go_enter Try.func24, Try.ntmps24
  go_wp2_with fail
  generalize w.alloc (.cells #[.slice none 0 0, .int .i64 0] 28) = wa at HR HB HS ⊢
  refine (HA.out wa HS.out).mono ?_
  rintro e wb ⟨rfl, hb⟩
  replace HR := Lib.hid (HR.out.step hb)
  replace HB := Lib.hid (below_trans HB.out hb)
  replace HS := Lib.hid (HS.out.step hb)
  clear hb
  go_wp2_with fail
  refine (HM.out wb).mono ?_
  rintro e w1 ⟨rfl, hw⟩
  subst hw
  go_wp2_with fail
  refine (HL.out _ HS.out).mono ?_
  rintro e wd ⟨g, c', rfl, hg, ho, hb⟩
  have hgw : w.heap.size < g := Nat.lt_of_lt_of_le HR.out.lt hg
  replace HR := Lib.hid (HR.out.step hb)
  replace HB := Lib.hid (below_trans HB.out hb)
  have HO := Lib.hid ho
  clear hb ho
  have r0 := HR.out.c0
  have r1 := HR.out.c1
  have f0 := HR.out.f0
  have f1 := HR.out.f1
  go_wp2
  obtain ⟨hs, hw⟩ := stored2 HR.out.row (.slice (some ⟨g, 0, none⟩) n c') (.int .i64 m)
  generalize ((wd.setCell ⟨w.heap.size, 0, none⟩ (.slice (some ⟨g, 0, none⟩) n c')).setCell ⟨w.heap.size, 1, none⟩ (.int .i64 m)) = wf at hs hw ⊢
  have e0 := two0 hs
  have e1 := two1 hs
  refine bodyPost_ret (v := .tuple #[.agg #[.slice (some ⟨g, 0, none⟩) n c', .int .i64 m], .bool true]) (by simp [results, go_sem, e0, e1]) rfl ?_
  exact ⟨g, c', rfl, by omega, own_same HO.out (hw.block g (own_lt HO.out) (.inr (by omega))), HB.out.trans (hw.below (Nat.le_refl _) HB.out.size)⟩

set_option maxHeartbeats 2000000 in
theorem oneWayAll_impl_no (n m : Int) (A : Option Addr) (c lo hi : Nat) (l : List (Int × Bool)) (w : World) (hS : AIns w lo hi A l) (hl : l.length ≤ 1048576) (hno : (inB n 1 12 = false ∨ inB m 0 2 = false) ∨ ((1 ≤ n ∧ n ≤ 12) ∧ inB m 0 2 = true ∧ okA n l = false)) :
    Calls Try.prog 23 #[.int .i64 n, .int .i64 m, .slice A l.length c] w fun e w' => e = .returned (.tuple #[.agg #[.slice none 0 0, .int .i64 0], .bool false]) ∧ Below w.heap.size w w' := by
  have HEa := Lib.hid (fun W h => answerEach_no n m 27 A c lo hi l W h hl hno)
  have HB := Lib.hid ((Below.refl w.heap.size w).alloc (Nat.le_refl _) (.cells #[.slice none 0 0, .int .i64 0] 28))
  have HR := Lib.hid (Two.new w (.slice none 0 0) (.int .i64 0) 28 w.heap.size rfl)
  have HS := Lib.hid (hS.step HB.out)
  clear hS hno
  go_enter Try.func23, Try.ntmps23
  go_wp2_with fail
  generalize w.alloc (.cells #[.slice none 0 0, .int .i64 0] 28) = wa at HB HR HS ⊢
  refine (HEa.out wa HS.out).mono ?_
  rintro e wb ⟨rfl, hb⟩
  have HR2 := Lib.hid (HR.out.step hb)
  have HB2 := Lib.hid (below_trans HB.out hb)
  clear hb HR HB HS HEa
  have r0 := HR2.out.c0
  have r1 := HR2.out.c1
  have f0 := HR2.out.f0
  have f1 := HR2.out.f1
  go_wp2
  obtain ⟨hs, hw⟩ := stored2 HR2.out.row (.slice none 0 0) (.int .i64 0)
  generalize ((wb.setCell ⟨w.heap.size, 0, none⟩ (.slice none 0 0)).setCell ⟨w.heap.size, 1, none⟩ (.int .i64 0)) = wf at hs hw ⊢
  have e0 := two0 hs
  have e1 := two1 hs
  refine bodyPost_ret (v := .tuple #[.agg #[.slice none 0 0, .int .i64 0], .bool false]) (by simp [results, go_sem, e0, e1]) rfl ?_
  exact ⟨rfl, HB2.out.trans (hw.below (Nat.le_refl _) HB2.out.size)⟩
set_option maxHeartbeats 2000000 in
theorem oneWayAll_spec_no (n m : Int) (A : Option Addr) (c lo hi : Nat) (l : List (Int × Bool)) (w : World) (hS : AIns w lo hi A l) (hl : l.length ≤ 1048576) (hno : okA n l = false ∨ inB m 0 2 = false) :
    Calls Try.prog 24 #[.int .i64 n, .int .i64 m, .slice A l.length c] w fun e w' => e = .returned (.tuple #[.agg #[.slice none 0 0, .int .i64 0], .bool false]) ∧ Below w.heap.size w w' := by
  have HA := Lib.hid (fun W h => l2Answers_any n A c lo hi l W h hl)
  have HM := Lib.hid (fun W => l1In_any m 0 2 W)
  have HB := Lib.hid ((Below.refl w.heap.size w).alloc (Nat.le_refl _) (.cells #[.slice none 0 0, .int .i64 0] 28))
  have HR := Lib.hid (Two.new w (.slice none 0 0) (.int .i64 0) 28 w.heap.size rfl)
  have HS := Lib.hid (hS.step HB.out)
  clear hS
  cases hq : okA n l with
  | false =>
    rw [hq] at HA
    clear hno hq
    go_enter Try.func24, Try.ntmps24
    go_wp2_with fail
    generalize w.alloc (.cells #[.slice none 0 0, .int .i64 0] 28) = wa at HB HR HS ⊢
    refine (HA.out wa HS.out).mono ?_
    rintro e wb ⟨rfl, hb⟩
    have HR3 := Lib.hid (HR.out.step hb)
    have HB3 := Lib.hid (below_trans HB.out hb)
    clear hb HR HB
    have r0 := HR3.out.c0
    have r1 := HR3.out.c1
    have f0 := HR3.out.f0
    have f1 := HR3.out.f1
    go_wp2
    obtain ⟨hs, hw⟩ := stored2 HR3.out.row (.slice none 0 0) (.int .i64 0)
    generalize ((wb.setCell ⟨w.heap.size, 0, none⟩ (.slice none 0 0)).setCell ⟨w.heap.size, 1, none⟩ (.int .i64 0)) = wf at hs hw ⊢
    have e0 := two0 hs
    have e1 := two1 hs
    refine bodyPost_ret (v := .tuple #[.agg #[.slice none 0 0, .int .i64 0], .bool false]) (by simp [results, go_sem, e0, e1]) rfl ?_
    exact ⟨rfl, HB3.out.trans (hw.below (Nat.le_refl _) HB3.out.size)⟩
  | true =>
    rw [hq] at HA hno
    have hm : inB m 0 2 = false := by simpa using hno
    rw [hm] at HM
    clear hno hq hm
    go_enter Try.func24, Try.ntmps24
    go_wp2_with fail
    generalize w.alloc (.cells #[.slice none 0 0, .int .i64 0] 28) = wa at HB HR HS ⊢
    refine (HA.out wa HS.out).mono ?_
    rintro e wb ⟨rfl, hb⟩
    have HR3 := Lib.hid (HR.out.step hb)
    have HB3 := Lib.hid (below_trans HB.out hb)
    clear hb HR HB
    have r0 := HR3.out.c0
    have r1 := HR3.out.c1
    have f0 := HR3.out.f0
    have f1 := HR3.out.f1
    go_wp2_with fail
    refine (HM.out wb).mono ?_
    rintro e wd ⟨rfl, hw0⟩
    subst hw0
    go_wp2
    obtain ⟨hs, hw⟩ := stored2 HR3.out.row (.slice none 0 0) (.int .i64 0)
    generalize ((wd.setCell ⟨w.heap.size, 0, none⟩ (.slice none 0 0)).setCell ⟨w.heap.size, 1, none⟩ (.int .i64 0)) = wf at hs hw ⊢
    have e0 := two0 hs
    have e1 := two1 hs
    refine bodyPost_ret (v := .tuple #[.agg #[.slice none 0 0, .int .i64 0], .bool false]) (by simp [results, go_sem, e0, e1]) rfl ?_
    exact ⟨rfl, HB3.out.trans (hw.below (Nat.le_refl _) HB3.out.size)⟩
theorem oneWayAll_both (n m : Int) (l : List (Int × Bool)) (h : l.length ≤ 1048576) : ∃ (r0 : List Int) (u0 : Int) (r1 : Bool), r0.length ≤ 1048576 ∧
    (∀ (w : World) (B : Option Addr) (c lo hi : Nat), AIns w lo hi B l → Calls Try.prog 23 #[.int .i64 n, .int .i64 m, .slice B l.length c] w fun e w' => ∃ B c', e = .returned (.tuple #[.agg #[.slice B r0.length c', .int .i64 u0], .bool r1]) ∧ Res w' w.heap.size w'.heap.size B r0 ∧ Below w.heap.size w w') ∧
    (∀ (w : World) (B : Option Addr) (c lo hi : Nat), AIns w lo hi B l → Calls Try.prog 24 #[.int .i64 n, .int .i64 m, .slice B l.length c] w fun e w' => ∃ B c', e = .returned (.tuple #[.agg #[.slice B r0.length c', .int .i64 u0], .bool r1]) ∧ Res w' w.heap.size w'.heap.size B r0 ∧ Below w.heap.size w w') := by
  by_cases hg : okA n l = true ∧ inB m 0 2 = true
  · have hok2 := okA_iff hg.1
    have hb := inB_iff.1 hok2.1
    obtain ⟨k, rfl⟩ : ∃ k : Nat, n = (k : Int) := ⟨n.toNat, by omega⟩
    have hlen := owSt_len k m l l.length
    exact ⟨owSt k m l l.length, m, true, by omega, fun w B c lo hi hS => (oneWayAll_impl k m B c lo hi l w hS hg.1 (by omega) (by omega) hg.2 hok2.2).mono fun e w' hx => all_ans hlen hx, fun w B c lo hi hS => (oneWayAll_spec k m B c lo hi l w hS hg.1 (by omega) (by omega) hg.2).mono fun e w' hx => all_ans hlen hx⟩
  · have hno : okA n l = false ∨ inB m 0 2 = false := by
      cases h1 : okA n l <;> cases h2 : inB m 0 2 <;> simp_all
    have hno2 : (inB n 1 12 = false ∨ inB m 0 2 = false) ∨ ((1 ≤ n ∧ n ≤ 12) ∧ inB m 0 2 = true ∧ okA n l = false) := by
      cases h2 : inB m 0 2 with
      | false => exact .inl (.inr rfl)
      | true =>
        rw [h2] at hno
        cases h1 : inB n 1 12 with
        | false => exact .inl (.inl rfl)
        | true => exact .inr ⟨inB_iff.1 h1, rfl, by simpa using hno⟩
    refine ⟨[], 0, false, by simp, fun w B c lo hi hS => (oneWayAll_impl_no n m B c lo hi l w hS h hno2).mono fun e w' hx => ⟨none, 0, hx.1, Res.none w' _ _ (Nat.le_refl _), hx.2⟩, fun w B c lo hi hS => (oneWayAll_spec_no n m B c lo hi l w hS h hno).mono fun e w' hx => ⟨none, 0, hx.1, Res.none w' _ _ (Nat.le_refl _), hx.2⟩⟩
end Go.Proofs.Ytdkffkgoalgjmac
