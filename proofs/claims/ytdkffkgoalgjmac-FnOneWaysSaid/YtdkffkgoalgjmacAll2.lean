/- The state behind all answers, in the model; both. -/
import Derived.Test.YtdkffkgoalgjmacAll
namespace Go.Proofs.Ytdkffkgoalgjmac
open Go.RowKit Go.ChangeShapes Go.WideShapes
set_option linter.unusedVariables false

set_option maxRecDepth 100000 in
set_option maxHeartbeats 4000000 in
theorem l2All_any (n : Nat) (m : Int) (A : Option Addr) (c lo hi : Nat) (l : List (Int × Bool)) (w : World) (hS : AIns w lo hi A l) (hok : okA n l = true) (h1n : 1 ≤ n) (hn : n ≤ 12) (hm : inB m 0 2 = true) :
    Calls Try.prog 59 #[.int .i64 (n : Int), .int .i64 m, .slice A l.length c] w fun e w' => ∃ g c', e = .returned (.agg #[.slice (some ⟨g, 0, none⟩) n c', .int .i64 m]) ∧ w.heap.size ≤ g ∧ Own w' g (g + 1) (some ⟨g, 0, none⟩) (stTo n m l l.length) ∧ Below w.heap.size w w' := by
  have hmb := inB_iff.1 hm
  have h20 := (okA_iff hok).2
  have HST := Lib.hid (fun W => l2Start_any n m W hn)
  have HOK := Lib.hid (fun k => stTo_ok l h1n hn hmb.1 hmb.2 k)
  have HLN := Lib.hid (fun k => stTo_len n m l k)
  have HR := Lib.hid (Two.new w (.slice none 0 0) (.int .i64 0) 28 w.heap.size rfl)
  have HB := Lib.hid ((Below.refl w.heap.size w).alloc (Nat.le_refl _) (.cells #[.slice none 0 0, .int .i64 0] 28))
  have hht := hS.top
  have HS := Lib.hid (hS.step HB.out)
  clear hS hok hm
  go_enter Try.func59, Try.ntmps59
  go_wp2_with fail
  generalize w.alloc (.cells #[.slice none 0 0, .int .i64 0] 28) = wa at HR HB HS ⊢
  have hwa : w.heap.size < wa.heap.size := HR.out.lt
  refine (HST.out wa).mono ?_
  rintro e wb ⟨g0, rfl, hg0, hr0, hb⟩
  have hwb : w.heap.size < wb.heap.size := Nat.lt_of_lt_of_le hwa hb.size
  have hg0b : g0 < wb.heap.size := row_ltI hr0
  replace HR := Lib.hid (HR.out.step hb)
  replace HB := Lib.hid (below_trans HB.out hb)
  replace HS := Lib.hid (HS.out.step hb)
  have HO := Lib.hid (zeros_own hr0)
  clear hb hr0
  have hal := (Below.refl wb.heap.size wb).alloc (Nat.le_refl _) (.cells #[.slice (some ⟨g0, 0, none⟩) n n, .int .i64 m] 28)
  have HV := Lib.hid (Two.new wb (.slice (some ⟨g0, 0, none⟩) n n) (.int .i64 m) 28 wb.heap.size rfl)
  replace HR := Lib.hid (HR.out.step hal)
  replace HB := Lib.hid (below_trans HB.out hal)
  replace HS := Lib.hid (HS.out.step hal)
  replace HO := Lib.hid (own_same HO.out (hal.block g0 (own_lt HO.out)))
  clear hal
  go_wp2_with fail
  generalize wb.alloc (.cells #[.slice (some ⟨g0, 0, none⟩) n n, .int .i64 m] 28) = wc at HR HB HS HO HV ⊢
  go_loopw [8] (fun i wr => ∃ (k g c1 : Nat), k ≤ l.length ∧ i = .int .i64 k ∧ g ≠ wb.heap.size ∧ w.heap.size < g ∧ Hid (Two wr wb.heap.size (.slice (some ⟨g, 0, none⟩) n c1) (.int .i64 m) 28) ∧ Hid (Own wr g (g + 1) (some ⟨g, 0, none⟩) (stTo n m l k)) ∧ Hid (Two wr w.heap.size (.slice none 0 0) (.int .i64 0) 28) ∧ Hid (AIns wr lo hi A l) ∧ Hid (Below w.heap.size w wr)) (fun i _ => l.length - (intOf i).toNat)
  case atStart => exact ⟨0, g0, n, Nat.zero_le _, rfl, by omega, by omega, HV.out, HO.out, HR.out, HS.out, HB.out⟩
  case round =>
    obtain ⟨k, g, c1, hk, rfl, hgv, hgw, HVr, HOr, HRr, HSr, HBr⟩ := hrel
    by_cases hlt : k < l.length
    · obtain ⟨b, o, rfl, _, _, hc1, hc2⟩ := HSr.out.asks.at_ hlt
      have hE : stTo n m l (k + 1) = afters (stTo n m l k) m l[k].1 l[k].2 := by rw [stTo, getDA hlt]
      generalize l[k] = x at hc1 hc2 hE
      have HE := Lib.hid hE
      have HSTEP := Lib.hid (fun (g c1 : Nat) W h => astep_spec (HLN.out k) g c1 m x.1 x.2 W h (HOK.out k))
      have h0 := HVr.out.c0
      have h1 := HVr.out.c1
      have hvx := HVr.out.lt
      have HSW : Hid (hi ≤ wb.heap.size ∨ wb.heap.size + 1 ≤ lo) := Lib.hid (.inl (by omega))
      clear hE
      go_wp2_with fail
      go_region_with (go_at_call 116; refine (HSTEP.out g c1 wr.drew (own_same (w' := wr.drew) HOr.out rfl)).mono ?_; rintro e w5 ⟨g', c', rfl, hg', ho', hb0⟩; have hb' : Below wr.heap.size wr w5 := below_trans ((Below.refl _ _).drew) hb0; have HV2 := Lib.hid (HVr.out.step hb'); have HR2 := Lib.hid (HRr.out.step hb'); have HS2 := Lib.hid (HSr.out.step hb'); have HB2 := Lib.hid (below_trans HBr.out hb'); have HO2 := Lib.hid ho'; have hg2 : wr.heap.size ≤ g' := hg'; have h0 := HV2.out.c0; have h1 := HV2.out.c1; have f0 := HV2.out.f0; have f1 := HV2.out.f1; have HX := Lib.hid (stored2 HV2.out.row (.slice (some ⟨g', 0, none⟩) n c') (.int .i64 m)); clear hb' hb0 ho' hg')
      all_goals
        go_wp2
        go_roundw
        case rel => exact ⟨k + 1, g', c', by omega, by go_num, by omega, by omega, Lib.hid ⟨HX.out.1⟩, Lib.hid (by rw [HE.out]; exact own_same HO2.out (HX.out.2.block g' (own_lt HO2.out) (.inr (by omega)))), Lib.hid (HR2.out.within HX.out.2 (.inl hwb)), Lib.hid (HS2.out.within HX.out.2 HSW.out), Lib.hid (HB2.out.trans (HX.out.2.below (by omega) HB2.out.size))⟩
        case measure => simp [intOf]; omega
    · obtain rfl : k = l.length := by omega
      have v0 := HVr.out.c0
      have v1 := HVr.out.c1
      have r0 := HRr.out.c0
      have r1 := HRr.out.c1
      have f0 := HRr.out.f0
      have f1 := HRr.out.f1
      go_wp2
      obtain ⟨hs, hw⟩ := stored2 HRr.out.row (.slice (some ⟨g, 0, none⟩) n c1) (.int .i64 m)
      generalize ((wr.setCell ⟨w.heap.size, 0, none⟩ (.slice (some ⟨g, 0, none⟩) n c1)).setCell ⟨w.heap.size, 1, none⟩ (.int .i64 m)) = wf at hs hw ⊢
      have e0 := two0 hs
      have e1 := two1 hs
      refine bodyPost_ret (v := .agg #[.slice (some ⟨g, 0, none⟩) n c1, .int .i64 m]) (by simp [results, go_sem, e0, e1]) rfl ?_
      exact ⟨g, c1, rfl, by omega, own_same HOr.out (hw.block g (own_lt HOr.out) (.inr (by omega))), HBr.out.trans (hw.below (Nat.le_refl _) HBr.out.size)⟩

set_option maxHeartbeats 2000000 in
theorem answerEach_no (n m : Int) (f : Nat) (A : Option Addr) (c lo hi : Nat) (l : List (Int × Bool)) (w : World) (hS : AIns w lo hi A l) (hl : l.length ≤ 1048576) (hno : (inB n 1 12 = false ∨ inB m 0 2 = false) ∨ ((1 ≤ n ∧ n ≤ 12) ∧ inB m 0 2 = true ∧ okA n l = false)) :
    Calls Try.prog 75 #[.int .i64 n, .int .i64 m, .slice A l.length c, .func (.func f) #[] #[]] w fun e w' => e = .returned (.tuple #[.agg #[.slice none 0 0, .int .i64 0], .bool false]) ∧ Below w.heap.size w w' := by
  have HA := Lib.hid (fun W h => areAnswers_any n A c lo hi l W h hl)
  have HB := Lib.hid ((Below.refl w.heap.size w).alloc (Nat.le_refl _) (.cells #[.slice none 0 0, .int .i64 0] 28))
  have HR := Lib.hid (Two.new w (.slice none 0 0) (.int .i64 0) 28 w.heap.size rfl)
  have HS := Lib.hid (hS.step HB.out)
  clear hS
  rcases hno with hno | ⟨⟨hn1, hn2⟩, hm, hq⟩
  · have HST := Lib.hid (fun W => startState_no n m W hno)
    clear hno HA
    go_enter Try.func75, Try.ntmps75
    go_wp2_with fail
    generalize w.alloc (.cells #[.slice none 0 0, .int .i64 0] 28) = wa at HB HR HS ⊢
    refine (HST.out wa).mono ?_
    rintro e wb ⟨rfl, hb⟩
    have hal := (Below.refl wb.heap.size wb).alloc (Nat.le_refl _) (.cells #[.slice none 0 0, .int .i64 0] 28)
    have HR2 := Lib.hid ((HR.out.step hb).step hal)
    have HB2 := Lib.hid (below_trans (below_trans HB.out hb) hal)
    clear hb hal HR HB HS
    have r0 := HR2.out.c0
    have r1 := HR2.out.c1
    have f0 := HR2.out.f0
    have f1 := HR2.out.f1
    go_wp2_with fail
    generalize wb.alloc (.cells #[.slice none 0 0, .int .i64 0] 28) = wc at HR2 HB2 r0 r1 f0 f1 ⊢
    obtain ⟨hs, hw⟩ := stored2 HR2.out.row (.slice none 0 0) (.int .i64 0)
    generalize ((wc.setCell ⟨w.heap.size, 0, none⟩ (.slice none 0 0)).setCell ⟨w.heap.size, 1, none⟩ (.int .i64 0)) = wf at hs hw ⊢
    have e0 := two0 hs
    have e1 := two1 hs
    refine bodyPost_ret (v := .tuple #[.agg #[.slice none 0 0, .int .i64 0], .bool false]) (by simp [results, go_sem, e0, e1]) rfl ?_
    exact ⟨rfl, HB2.out.trans (hw.below (Nat.le_refl _) HB2.out.size)⟩
  · obtain ⟨k, rfl⟩ : ∃ k : Nat, n = (k : Int) := ⟨n.toNat, by omega⟩
    have HST := Lib.hid (fun W => startState_impl k m W (by omega) (by omega) hm)
    rw [hq] at HA
    clear hm hq
    go_enter Try.func75, Try.ntmps75
    go_wp2_with fail
    generalize w.alloc (.cells #[.slice none 0 0, .int .i64 0] 28) = wa at HB HR HS ⊢
    refine (HST.out wa).mono ?_
    rintro e wb ⟨g0, rfl, _, _, hb⟩
    have hal := (Below.refl wb.heap.size wb).alloc (Nat.le_refl _) (.cells #[.slice (some ⟨g0, 0, none⟩) k k, .int .i64 m] 28)
    have HR2 := Lib.hid ((HR.out.step hb).step hal)
    have HB2 := Lib.hid (below_trans (below_trans HB.out hb) hal)
    have HS2 := Lib.hid ((HS.out.step hb).step hal)
    clear hb hal HR HB HS
    go_wp2_with fail
    generalize wb.alloc (.cells #[.slice (some ⟨g0, 0, none⟩) k k, .int .i64 m] 28) = wc at HR2 HB2 HS2 ⊢
    refine (HA.out wc HS2.out).mono ?_
    rintro e wd ⟨rfl, hb⟩
    have HR3 := Lib.hid (HR2.out.step hb)
    have HB3 := Lib.hid (below_trans HB2.out hb)
    clear hb HR2 HB2 HS2
    have r0 := HR3.out.c0
    have r1 := HR3.out.c1
    have f0 := HR3.out.f0
    have f1 := HR3.out.f1
    go_wp2
    obtain ⟨hs, hw⟩ := stored2 HR3.out.row (.slice none 0 0) (.int .i64 0)
    generalize ((wd.setCell ⟨w.heap.size, 0, none⟩ (.slice none 0 0)).setCell ⟨w.heap.size, 1, none⟩ (.int .i64 0)) = wf at hs hw ⊢
    have e0 := two0 hs
    have e1 := two1 hs
    refine bodyPost_ret (v := .tuple #[.agg #[.slice none 0 0, .int .i64 0], .bool false]) (by simp [results, go_sem, e0, e1]) rfl ?_
    exact ⟨rfl, HB3.out.trans (hw.below (Nat.le_refl _) HB3.out.size)⟩
set_option maxHeartbeats 2000000 in
theorem answerAll_impl_no (n m : Int) (A : Option Addr) (c lo hi : Nat) (l : List (Int × Bool)) (w : World) (hS : AIns w lo hi A l) (hl : l.length ≤ 1048576) (hno : (inB n 1 12 = false ∨ inB m 0 2 = false) ∨ ((1 ≤ n ∧ n ≤ 12) ∧ inB m 0 2 = true ∧ okA n l = false)) :
    Calls Try.prog 32 #[.int .i64 n, .int .i64 m, .slice A l.length c] w fun e w' => e = .returned (.tuple #[.agg #[.slice none 0 0, .int .i64 0], .bool false]) ∧ Below w.heap.size w w' := by
  have HEa := Lib.hid (fun W h => answerEach_no n m 79 A c lo hi l W h hl hno)
  have HB := Lib.hid ((Below.refl w.heap.size w).alloc (Nat.le_refl _) (.cells #[.slice none 0 0, .int .i64 0] 28))
  have HR := Lib.hid (Two.new w (.slice none 0 0) (.int .i64 0) 28 w.heap.size rfl)
  have HS := Lib.hid (hS.step HB.out)
  clear hS hno
  go_enter Try.func32, Try.ntmps32
  go_wp2_with fail
  generalize w.alloc (.cells #[.slice none 0 0, .int .i64 0] 28) = wa at HB HR HS ⊢
  refine (HEa.out wa HS.out).mono ?_
  rintro e wb ⟨rfl, hb⟩
  have HR2 := Lib.hid (HR.out.step hb)
  have HB2 := Lib.hid (below_trans HB.out hb)
  clear hb HR HB HS HEa
  have r0 := HR2.out.c0
  have r1 := HR2.out.c1
  have f0 := HR2.out.f0
  have f1 := HR2.out.f1
  go_wp2
  obtain ⟨hs, hw⟩ := stored2 HR2.out.row (.slice none 0 0) (.int .i64 0)
  generalize ((wb.setCell ⟨w.heap.size, 0, none⟩ (.slice none 0 0)).setCell ⟨w.heap.size, 1, none⟩ (.int .i64 0)) = wf at hs hw ⊢
  have e0 := two0 hs
  have e1 := two1 hs
  refine bodyPost_ret (v := .tuple #[.agg #[.slice none 0 0, .int .i64 0], .bool false]) (by simp [results, go_sem, e0, e1]) rfl ?_
  exact ⟨rfl, HB2.out.trans (hw.below (Nat.le_refl _) HB2.out.size)⟩
theorem all_ans {w w' : World} {n : Nat} {m : Int} {zs : List Int} {e : Ending} (hz : zs.length = n) (h : ∃ g c', e = .returned (.tuple #[.agg #[.slice (some ⟨g, 0, none⟩) n c', .int .i64 m], .bool true]) ∧ w.heap.size ≤ g ∧ Own w' g (g + 1) (some ⟨g, 0, none⟩) zs ∧ Below w.heap.size w w') :
    ∃ B c', e = .returned (.tuple #[.agg #[.slice B zs.length c', .int .i64 m], .bool true]) ∧ Res w' w.heap.size w'.heap.size B zs ∧ Below w.heap.size w w' := by
  subst hz
  obtain ⟨g, c', he, hg, ho, hb⟩ := h
  exact ⟨_, c', he, ⟨ho.wide hg (own_lt ho), Nat.le_refl _⟩, hb⟩
end Go.Proofs.Ytdkffkgoalgjmac
