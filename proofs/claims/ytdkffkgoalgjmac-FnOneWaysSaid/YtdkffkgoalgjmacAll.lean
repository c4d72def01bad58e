/- The state behind all answers. -/
import Derived.Test.YtdkffkgoalgjmacMany
import Derived.Test.YtdkffkgoalgjmacAnswer
import Derived.Test.YtdkffkgoalgjmacFewB
namespace Go.Proofs.Ytdkffkgoalgjmac
open Go.RowKit Go.ChangeShapes Go.WideShapes
set_option linter.unusedVariables false

/-- The state behind the first k answers. -/
def stTo (n : Nat) (m : Int) (l : List (Int × Bool)) : Nat → List Int
  | 0 => List.replicate n 0
  | k + 1 => afters (stTo n m l k) m (l.getD k (0, false)).1 (l.getD k (0, false)).2
theorem stTo_len (n : Nat) (m : Int) (l : List (Int × Bool)) : ∀ k, (stTo n m l k).length = n
  | 0 => by simp [stTo]
  | k + 1 => by rw [stTo, afters_len, stTo_len n m l k]
theorem stTo_ok {n : Nat} {m : Int} (l : List (Int × Bool)) (h1 : 1 ≤ n) (h2 : n ≤ 12) (h3 : 0 ≤ m) (h4 : m ≤ 2) : ∀ k, isSt (stTo n m l k) m = true
  | 0 => by
    unfold isSt stTo
    rw [List.length_replicate, inB_t (x := (n : Int)) (a := 1) (b := 12) (by omega) (by omega), inB_t h3 h4]
    simp only [Bool.true_and, List.all_eq_true]
    intro x hx
    have := List.eq_of_mem_replicate hx
    subst this
    exact inB_t (by omega) h3
  | k + 1 => by rw [stTo]; exact afters_isSt _ _ (stTo_ok l h1 h2 h3 h4 k)
theorem okA_at {n : Int} {l : List (Int × Bool)} (h : okA n l = true) {k : Nat} (hk : k < l.length) : qOK n l[k].1 = true := by
  simp only [okA, Bool.and_eq_true] at h
  exact List.all_eq_true.1 h.2 _ (List.getElem_mem hk)
theorem astep_impl {n : Nat} {zs : List Int} (hz : zs.length = n) (g c : Nat) (m q : Int) (y : Bool) (w : World) (hS : Own w g (g + 1) (some ⟨g, 0, none⟩) zs) (hst : isSt zs m = true) (hq : qOK (n : Int) q = true) :
    Calls Try.prog 79 #[.agg #[.slice (some ⟨g, 0, none⟩) n c, .int .i64 m], .agg #[.int .i64 q, .bool y]] w fun e w' => ∃ g', e = .returned (.tuple #[.agg #[.slice (some ⟨g', 0, none⟩) n n, .int .i64 m], .bool true]) ∧ w.heap.size ≤ g' ∧ Own w' g' (g' + 1) (some ⟨g', 0, none⟩) (afters zs m q y) ∧ Below w.heap.size w w' := by
  subst hz
  refine (answerState_impl (some ⟨g, 0, none⟩) c g (g + 1) zs m q y w ⟨hS.ints, own_lt hS⟩ hst hq).mono ?_
  rintro e w' ⟨g', rfl, hg, hr, hb⟩
  exact ⟨g', rfl, hg, .inr ⟨g', _, rfl, Nat.le_refl _, Nat.lt_succ_self _, hr, by simp, fun j x hx => by simp [hx]⟩, hb⟩
theorem astep_spec {n : Nat} {zs : List Int} (hz : zs.length = n) (g c : Nat) (m q : Int) (y : Bool) (w : World) (hS : Own w g (g + 1) (some ⟨g, 0, none⟩) zs) (hst : isSt zs m = true) :
    Calls Try.prog 116 #[.agg #[.slice (some ⟨g, 0, none⟩) n c, .int .i64 m], .int .i64 q, .bool y] w fun e w' => ∃ g' c', e = .returned (.agg #[.slice (some ⟨g', 0, none⟩) n c', .int .i64 m]) ∧ w.heap.size ≤ g' ∧ Own w' g' (g' + 1) (some ⟨g', 0, none⟩) (afters zs m q y) ∧ Below w.heap.size w w' := by
  subst hz
  exact l2After_any (some ⟨g, 0, none⟩) c g (g + 1) zs m q y w ⟨hS.ints, own_lt hS⟩ hst
theorem zeros_own {w : World} {g n : Nat} (hr : w.heap[g]? = some (.cells (Array.replicate n (Value.int .i64 0)) 3 (0, 0))) : Own w g (g + 1) (some ⟨g, 0, none⟩) (List.replicate n 0) := by
  have h := (zeros_res w n g g (Nat.le_refl _) hr).own
  rcases h with ⟨h, _⟩ | ⟨g', cur, e, h1, h2, r⟩
  · cases h
  · injection e with e
    injection e with e
    subst e
    exact .inr ⟨g, cur, rfl, Nat.le_refl _, Nat.lt_succ_self _, r⟩

/-- A rule that leads from a State and an answer to the next State: the list behind it is told by F. -/
def RuleOf (n : Nat) (m : Int) (l : List (Int × Bool)) (F : Nat → List Int) (f : Nat) : Prop :=
  ∀ (k : Nat) (hk : k < l.length) (g c : Nat) (W : World), Own W g (g + 1) (some ⟨g, 0, none⟩) (F k) →
    Calls Try.prog f #[.agg #[.slice (some ⟨g, 0, none⟩) n c, .int .i64 m], .agg #[.int .i64 l[k].1, .bool l[k].2]] W fun e w' => ∃ g' c', e = .returned (.tuple #[.agg #[.slice (some ⟨g', 0, none⟩) n c', .int .i64 m], .bool true]) ∧ W.heap.size ≤ g' ∧ Own w' g' (g' + 1) (some ⟨g', 0, none⟩) (F (k + 1)) ∧ Below W.heap.size W w'
set_option maxRecDepth 100000 in
set_option maxHeartbeats 4000000 in
theorem answerEach_any (n : Nat) (m : Int) (f : Nat) (F : Nat → List Int) (A : Option Addr) (c lo hi : Nat) (l : List (Int × Bool)) (w : World) (hF0 : F 0 = List.replicate n 0) (hcf : ∀ args W, (callFunc f args).run Try.prog W = .ok (.enter f args) W) (hF : RuleOf n m l F f) (hS : AIns w lo hi A l) (hok : okA n l = true) (h1n : 1 ≤ n) (hn : n ≤ 12) (hm : inB m 0 2 = true) (h20 : l.length ≤ 20) :
    Calls Try.prog 75 #[.int .i64 (n : Int), .int .i64 m, .slice A l.length c, .func (.func f) #[] #[]] w fun e w' => ∃ g c', e = .returned (.tuple #[.agg #[.slice (some ⟨g, 0, none⟩) n c', .int .i64 m], .bool true]) ∧ w.heap.size ≤ g ∧ Own w' g (g + 1) (some ⟨g, 0, none⟩) (F l.length) ∧ Below w.heap.size w w' := by
  have hmb := inB_iff.1 hm
  have HST := Lib.hid (fun W => startState_impl n m W h1n hn hm)
  have HA := Lib.hid (fun W h => areAnswers_any (n : Int) A c lo hi l W h (by omega))
  rw [hok] at HA
  have HF := Lib.hid hF
  have HCF := Lib.hid hcf
  have HR := Lib.hid (Two.new w (.slice none 0 0) (.int .i64 0) 28 w.heap.size rfl)
  have HB := Lib.hid ((Below.refl w.heap.size w).alloc (Nat.le_refl _) (.cells #[.slice none 0 0, .int .i64 0] 28))
  have hht := hS.top
  have HS := Lib.hid (hS.step HB.out)
  clear hS hok hm hF hcf
  go_enter Try.func75, Try.ntmps75
  go_wp2_with fail
  generalize w.alloc (.cells #[.slice none 0 0, .int .i64 0] 28) = wa at HR HB HS ⊢
  have hwa : w.heap.size < wa.heap.size := HR.out.lt
  refine (HST.out wa).mono ?_
  rintro e wb ⟨g0, rfl, hg0, hr0, hb⟩
  have hwb : w.heap.size < wb.heap.size := Nat.lt_of_lt_of_le hwa hb.size
  have hg0b : g0 < wb.heap.size := row_ltI hr0
  replace HR := Lib.hid (HR.out.step hb)
  replace HB := Lib.hid (below_trans HB.out hb)
  replace HS := Lib.hid (HS.out.step hb)
  have HO := Lib.hid (zeros_own hr0)
  clear hb hr0
  have hal := (Below.refl wb.heap.size wb).alloc (Nat.le_refl _) (.cells #[.slice (some ⟨g0, 0, none⟩) n n, .int .i64 m] 28)
  have HV := Lib.hid (Two.new wb (.slice (some ⟨g0, 0, none⟩) n n) (.int .i64 m) 28 wb.heap.size rfl)
  replace HR := Lib.hid (HR.out.step hal)
  replace HB := Lib.hid (below_trans HB.out hal)
  replace HS := Lib.hid (HS.out.step hal)
  replace HO := Lib.hid (own_same HO.out (hal.block g0 (own_lt HO.out)))
  clear hal
  go_wp2_with fail
  generalize wb.alloc (.cells #[.slice (some ⟨g0, 0, none⟩) n n, .int .i64 m] 28) = wc at HR HB HS HO HV ⊢
  refine (HA.out wc HS.out).mono ?_
  rintro e wd ⟨rfl, hb⟩
  replace HR := Lib.hid (HR.out.step hb)
  replace HB := Lib.hid (below_trans HB.out hb)
  replace HS := Lib.hid (HS.out.step hb)
  replace HO := Lib.hid (own_same HO.out (hb.block g0 (own_lt HO.out)))
  replace HV := Lib.hid (HV.out.step hb)
  clear hb
  go_wp2_with fail
  go_loopw [31] (fun i wr => ∃ (k g c1 : Nat), k ≤ l.length ∧ i = .int .i64 k ∧ g ≠ wb.heap.size ∧ w.heap.size < g ∧ Hid (Two wr wb.heap.size (.slice (some ⟨g, 0, none⟩) n c1) (.int .i64 m) 28) ∧ Hid (Own wr g (g + 1) (some ⟨g, 0, none⟩) (F k)) ∧ Hid (Two wr w.heap.size (.slice none 0 0) (.int .i64 0) 28) ∧ Hid (AIns wr lo hi A l) ∧ Hid (Below w.heap.size w wr)) (fun i _ => l.length - (intOf i).toNat)
  case atStart => exact ⟨0, g0, n, Nat.zero_le _, rfl, by omega, by omega, HV.out, Lib.hid (by rw [hF0]; exact HO.out), HR.out, HS.out, HB.out⟩
  case round =>
    obtain ⟨k, g, c1, hk, rfl, hgv, hgw, HVr, HOr, HRr, HSr, HBr⟩ := hrel
    by_cases hlt : k < l.length
    · obtain ⟨b, o, rfl, _, _, hc1, hc2⟩ := HSr.out.asks.at_ hlt
      have hSTEP := HF.out k hlt
      generalize l[k] = x at hc1 hc2 hSTEP
      have HSTEP := Lib.hid hSTEP
      have hal := (Below.refl wr.heap.size wr).alloc (Nat.le_refl _) (.cells #[.int .i64 x.1, .bool x.2] 52)
      have HV1 := Lib.hid (HVr.out.step hal)
      have HR1 := Lib.hid (HRr.out.step hal)
      have HS1 := Lib.hid (HSr.out.step hal)
      have HB1 := Lib.hid (below_trans HBr.out hal)
      have HO1 := Lib.hid (own_same HOr.out (hal.block g (own_lt HOr.out)))
      have h0 := HV1.out.c0
      have h1 := HV1.out.c1
      clear hal hSTEP HVr HOr HRr HSr HBr
      go_wp2_with fail
      generalize wr.alloc (.cells #[.int .i64 x.1, .bool x.2] 52) = wx at HV1 HR1 HS1 HB1 HO1 h0 h1 ⊢
      rw [HCF.out, Oper.upon_enter]
      refine (HSTEP.out g c1 wx HO1.out).mono ?_
      rintro e w5 ⟨g', c', rfl, hg', ho', hb'⟩
      have hvx := HV1.out.lt
      have HV2 := Lib.hid (HV1.out.step hb')
      have HR2 := Lib.hid (HR1.out.step hb')
      have HS2 := Lib.hid (HS1.out.step hb')
      have HB2 := Lib.hid (below_trans HB1.out hb')
      have HO2 := Lib.hid ho'
      clear h0 h1 hb' ho' HV1 HR1 HS1 HB1 HO1
      have h0 := HV2.out.c0
      have h1 := HV2.out.c1
      have f0 := HV2.out.f0
      have f1 := HV2.out.f1
      have HX := Lib.hid (stored2 HV2.out.row (.slice (some ⟨g', 0, none⟩) n c') (.int .i64 m))
      have HSW : Hid (hi ≤ wb.heap.size ∨ wb.heap.size + 1 ≤ lo) := Lib.hid (.inl (by omega))
      go_wp2
      go_roundw
      case rel => exact ⟨k + 1, g', c', by omega, by go_num, by omega, by omega, Lib.hid ⟨HX.out.1⟩, Lib.hid (own_same HO2.out (HX.out.2.block g' (own_lt HO2.out) (.inr (by omega)))), Lib.hid (HR2.out.within HX.out.2 (.inl hwb)), Lib.hid (HS2.out.within HX.out.2 HSW.out), Lib.hid (HB2.out.trans (HX.out.2.below (by omega) HB2.out.size))⟩
      case measure => simp [intOf]; omega
    · obtain rfl : k = l.length := by omega
      have v0 := HVr.out.c0
      have v1 := HVr.out.c1
      have r0 := HRr.out.c0
      have r1 := HRr.out.c1
      have f0 := HRr.out.f0
      have f1 := HRr.out.f1
      go_wp2
      obtain ⟨hs, hw⟩ := stored2 HRr.out.row (.slice (some ⟨g, 0, none⟩) n c1) (.int .i64 m)
      generalize ((wr.setCell ⟨w.heap.size, 0, none⟩ (.slice (some ⟨g, 0, none⟩) n c1)).setCell ⟨w.heap.size, 1, none⟩ (.int .i64 m)) = wf at hs hw ⊢
      have e0 := two0 hs
      have e1 := two1 hs
      refine bodyPost_ret (v := .tuple #[.agg #[.slice (some ⟨g, 0, none⟩) n c1, .int .i64 m], .bool true]) (by simp [results, go_sem, e0, e1]) rfl ?_
      exact ⟨g, c1, rfl, by omega, own_same HOr.out (hw.block g (own_lt HOr.out) (.inr (by omega))), HBr.out.trans (hw.below (Nat.le_refl _) HBr.out.size)⟩
set_option maxRecDepth 100000 in
set_option maxHeartbeats 4000000 in
theorem answerAll_impl (n : Nat) (m : Int) (A : Option Addr) (c lo hi : Nat) (l : List (Int × Bool)) (w : World) (hS : AIns w lo hi A l) (hok : okA n l = true) (h1n : 1 ≤ n) (hn : n ≤ 12) (hm : inB m 0 2 = true) (h20 : l.length ≤ 20) :
    Calls Try.prog 32 #[.int .i64 (n : Int), .int .i64 m, .slice A l.length c] w fun e w' => ∃ g c', e = .returned (.tuple #[.agg #[.slice (some ⟨g, 0, none⟩) n c', .int .i64 m], .bool true]) ∧ w.heap.size ≤ g ∧ Own w' g (g + 1) (some ⟨g, 0, none⟩) (stTo n m l l.length) ∧ Below w.heap.size w w' := by
  have hmb := inB_iff.1 hm
  have HEa := Lib.hid (fun W h => answerEach_any n m 79 (stTo n m l) A c lo hi l W rfl (fun _ _ => rfl) (fun k hk g c W h => by
    rw [stTo, getDA hk]
    refine (astep_impl (stTo_len n m l k) g c m l[k].1 l[k].2 W h (stTo_ok l h1n hn hmb.1 hmb.2 k) (okA_at hok hk)).mono ?_
    rintro e w' ⟨g', rfl, h1, h2, h3⟩
    exact ⟨g', n, rfl, h1, h2, h3⟩) h hok h1n hn hm h20)
  have HR := Lib.hid (Two.new w (.slice none 0 0) (.int .i64 0) 28 w.heap.size rfl)
  have HB := Lib.hid ((Below.refl w.heap.size w).alloc (Nat.le_refl _) (.cells #[.slice none 0 0, .int .i64 0] 28))
  have HS := Lib.hid (hS.step HB.out)
  clear hS hok hm
  go_enter Try.func32, Try.ntmps32
  go_wp2_with fail
  generalize w.alloc (.cells #[.slice none 0 0, .int .i64 0] 28) = wa at HR HB HS ⊢
  refine (HEa.out wa HS.out).mono ?_
  rintro e wd ⟨g, c', rfl, hg, ho, hb⟩
  have hgw : w.heap.size < g := Nat.lt_of_lt_of_le HR.out.lt hg
  replace HR := Lib.hid (HR.out.step hb)
  replace HB := Lib.hid (below_trans HB.out hb)
  have HO := Lib.hid ho
  clear hb ho HEa
  have r0 := HR.out.c0
  have r1 := HR.out.c1
  have f0 := HR.out.f0
  have f1 := HR.out.f1
  go_wp2
  obtain ⟨hs, hw⟩ := stored2 HR.out.row (.slice (some ⟨g, 0, none⟩) n c') (.int .i64 m)
  generalize ((wd.setCell ⟨w.heap.size, 0, none⟩ (.slice (some ⟨g, 0, none⟩) n c')).setCell ⟨w.heap.size, 1, none⟩ (.int .i64 m)) = wf at hs hw ⊢
  have e0 := two0 hs
  have e1 := two1 hs
  refine bodyPost_ret (v := .tuple #[.agg #[.slice (some ⟨g, 0, none⟩) n c', .int .i64 m], .bool true]) (by simp [results, go_sem, e0, e1]) rfl ?_
  exact ⟨g, c', rfl, by omega, own_same HO.out (hw.block g (own_lt HO.out) (.inr (by omega))), HB.out.trans (hw.below (Nat.le_refl _) HB.out.size)⟩

end Go.Proofs.Ytdkffkgoalgjmac
