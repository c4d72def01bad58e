/- The state behind an answer. -/
import Derived.Test.YtpjoljaamakagaaCopy
import Derived.Test.YtpjoljaamakagaaCounts
namespace Go.Proofs.Ytpjoljaamakagaa
open Go.RowKit Go.ChangeShapes Go.WideShapes
set_option linter.unusedVariables false

/-- One number behind an answer: p says whether the answer is false for it. -/
def aft1 (m : Int) (p : Bool) (z : Int) : Int := if 0 ≤ z ∧ p = true then (if z = m then -1 else z + 1) else z
theorem aft1_neg {m z : Int} {p : Bool} (h : ¬ 0 ≤ z) : aft1 m p z = z := if_neg (fun h' => h h'.1)
theorem aft1_no {m z : Int} : aft1 m false z = z := if_neg (fun h' => by cases h'.2)
theorem aft1_yes {m z : Int} (h : 0 ≤ z) : aft1 m true z = if z = m then -1 else z + 1 := if_pos ⟨h, rfl⟩
def aftTo (zs : List Int) (m q : Int) (y : Bool) : Nat → List Int
  | 0 => zs
  | k + 1 => (aftTo zs m q y k).set k (aft1 m (y != inQ q k) (zs.getD k (-1)))
theorem aftTo_len (zs : List Int) (m q : Int) (y : Bool) : ∀ k, (aftTo zs m q y k).length = zs.length
  | 0 => rfl
  | k + 1 => by rw [aftTo, List.length_set, aftTo_len zs m q y k]
theorem aftTo_ge (zs : List Int) (m q : Int) (y : Bool) : ∀ k j, k ≤ j → (aftTo zs m q y k)[j]? = zs[j]?
  | 0, j, _ => rfl
  | k + 1, j, h => by rw [aftTo, List.getElem?_set_ne (by omega), aftTo_ge zs m q y k j (by omega)]
theorem aftTo_lt (zs : List Int) (m q : Int) (y : Bool) : ∀ k j (hj : j < zs.length), j < k → (aftTo zs m q y k)[j]? = some (aft1 m (y != inQ q j) (zs.getD j (-1)))
  | 0, j, _, h => absurd h (by omega)
  | k + 1, j, hj, h => by
    rw [aftTo]
    by_cases e : k = j
    · subst e
      rw [List.getElem?_set_self (by rw [aftTo_len]; exact hj)]
    · rw [List.getElem?_set_ne e, aftTo_lt zs m q y k j hj (by omega)]
theorem aftTo_cell {zs : List Int} {m q : Int} {y : Bool} {k : Nat} (h : k < zs.length) : (aftTo zs m q y k).getD k 0 = zs[k] := by
  rw [List.getD, aftTo_ge zs m q y k k (Nat.le_refl _)]
  simp [h]
theorem aftTo_same {zs : List Int} {m q : Int} {y : Bool} {k : Nat} (h : k < zs.length) (hz : aft1 m (y != inQ q k) zs[k] = zs[k]) : aftTo zs m q y (k + 1) = aftTo zs m q y k := by
  rw [aftTo, getD_at h, hz]
  apply List.ext_getElem?
  intro j
  by_cases e : k = j
  · subst e
    rw [List.getElem?_set_self (by rw [aftTo_len]; exact h), aftTo_ge zs m q y k k (Nat.le_refl _)]
    simp [h]
  · rw [List.getElem?_set_ne e]
theorem aftTo_turn {zs : List Int} {m q : Int} {y : Bool} {k : Nat} {v : Int} (h : k < zs.length) (hz : aft1 m (y != inQ q k) zs[k] = v) : aftTo zs m q y (k + 1) = (aftTo zs m q y k).set k v := by
  rw [aftTo, getD_at h, hz]
/-- All numbers behind an answer. -/
def afters (zs : List Int) (m q : Int) (y : Bool) : List Int := aftTo zs m q y zs.length
theorem afters_len (zs : List Int) (m q : Int) (y : Bool) : (afters zs m q y).length = zs.length := aftTo_len _ _ _ _ _
theorem aft1_in {m z : Int} {p : Bool} (h : -1 ≤ z ∧ z ≤ m) (hm : 0 ≤ m) : -1 ≤ aft1 m p z ∧ aft1 m p z ≤ m := by
  unfold aft1
  split
  · split <;> omega
  · exact h
theorem afters_isSt {zs : List Int} {m : Int} (q : Int) (y : Bool) (h : isSt zs m = true) : isSt (afters zs m q y) m = true := by
  have hl := isSt_len h
  have h0 := h
  unfold isSt at h ⊢
  simp only [Bool.and_eq_true] at h ⊢
  rw [afters_len]
  refine ⟨h.1, ?_⟩
  rw [List.all_eq_true]
  intro x hx
  obtain ⟨j, hj, rfl⟩ := List.getElem_of_mem hx
  have hj' : j < zs.length := by rw [afters_len] at hj; exact hj
  have e := aftTo_lt zs m q y zs.length j hj' hj'
  have e2 : (afters zs m q y)[j]? = some (afters zs m q y)[j] := List.getElem?_eq_getElem hj
  rw [show (afters zs m q y)[j] = aft1 m (y != inQ q j) (zs.getD j (-1)) from by
    have : (afters zs m q y)[j]? = some (aft1 m (y != inQ q j) (zs.getD j (-1))) := e
    rw [e2] at this
    injection this]
  rw [getD_at hj']
  have := isSt_at h0 hj'
  have := aft1_in (p := (y != inQ q j)) this (by omega)
  exact inB_iff.2 this

theorem oneMoreLie_any (z m : Int) (w : World) (h : -1 ≤ z ∧ z ≤ 2) :
    Calls Try.prog 110 #[.int .i64 z, .int .i64 m] w fun e w' => e = .returned (.int .i64 (if z = m then -1 else z + 1)) ∧ w' = w := by
  by_cases e : z = m
  · subst e
    rw [if_pos rfl]
    go_enter Try.func110, Try.ntmps110
    go_wp2
    go_ret
    exact ⟨rfl, rfl⟩
  · rw [if_neg e]
    obtain ⟨h1, h2⟩ := h
    go_enter Try.func110, Try.ntmps110
    go_wp2
    go_ret
    exact ⟨rfl, rfl⟩

theorem Within.drew {lo hi : Nat} {a b : World} (h : Within lo hi a b) : Within lo hi a b.drew := ⟨h.os, h.tape, h.output, h.size, h.block⟩
/-- A block of two cells that is there, unfrozen. -/
structure Two (w : World) (b : Nat) (x y : Value) (t : TypeId) : Prop where
  row : w.heap[b]? = some (.cells #[x, y] t (0, 0))
theorem Two.lt {w : World} {b : Nat} {x y : Value} {t : TypeId} (h : Two w b x y t) : b < w.heap.size := row_ltI h.row
theorem Two.step {w w' : World} {b : Nat} {x y : Value} {t : TypeId} (h : Two w b x y t) (hb : Below w.heap.size w w') : Two w' b x y t := ⟨(hb.block b h.lt).trans h.row⟩
theorem Two.within {w w' : World} {b lo hi : Nat} {x y : Value} {t : TypeId} (h : Two w b x y t) (hb : Within lo hi w w') (hd : b < lo ∨ hi ≤ b) : Two w' b x y t := ⟨(hb.block b h.lt hd).trans h.row⟩
theorem Two.new (w : World) (x y : Value) (t : TypeId) (b : Nat) (hb : b = w.heap.size) : Two (w.alloc (.cells #[x, y] t)) b x y t := ⟨alloc_row' _ _ _ _ hb⟩
theorem Two.c0 {w : World} {b : Nat} {x y : Value} {t : TypeId} (h : Two w b x y t) : w.cell? ⟨b, 0, none⟩ = some x := two0 h.row
theorem Two.c1 {w : World} {b : Nat} {x y : Value} {t : TypeId} (h : Two w b x y t) : w.cell? ⟨b, 1, none⟩ = some y := two1 h.row
theorem Two.f0 {w : World} {b : Nat} {x y : Value} {t : TypeId} (h : Two w b x y t) : w.frozen? ⟨b, 0, none⟩ = false := row_freeI h.row 0
theorem Two.f1 {w : World} {b : Nat} {x y : Value} {t : TypeId} (h : Two w b x y t) : w.frozen? ⟨b, 1, none⟩ = false := row_freeI h.row 1

set_option maxRecDepth 100000 in
set_option maxHeartbeats 4000000 in
theorem answerState_impl (A : Option Addr) (c lo hi : Nat) (zs : List Int) (m q : Int) (y : Bool) (w : World) (hS : Ins w lo hi A zs) (hst : isSt zs m = true) (hq : qOK zs.length q = true) :
    Calls Try.prog 57 #[.agg #[.slice A zs.length c, .int .i64 m], .agg #[.int .i64 q, .bool y]] w fun e w' => ∃ g, e = .returned (.tuple #[.agg #[.slice (some ⟨g, 0, none⟩) zs.length zs.length, .int .i64 m], .bool true]) ∧ w.heap.size ≤ g ∧ w'.heap[g]? = some (.cells ((afters zs m q y).map (Value.int .i64)).toArray 3 (0, 0)) ∧ Below w.heap.size w w' := by
  have hl := isSt_len hst
  have hn12 : zs.length ≤ 12 := hl.2.1
  have hn1 : 1 ≤ zs.length := hl.1
  have hm02 : 0 ≤ m ∧ m ≤ 2 := ⟨hl.2.2.1, hl.2.2.2⟩
  have HA := Lib.hid (fun k (h : k < zs.length) => isSt_at hst h)
  have HC := Lib.hid (fun W h => isState_impl A c lo hi zs m W h (by omega))
  rw [hst] at HC
  have HD := Lib.hid (fun W => isQuestion_any (zs.length : Int) q W)
  rw [hq] at HD
  have HT := Lib.hid (Two.new w (.slice A zs.length c) (.int .i64 m) 35 w.heap.size rfl)
  have HB := Lib.hid ((Below.refl w.heap.size w).alloc (Nat.le_refl _) (.cells #[.slice A zs.length c, .int .i64 m] 35))
  have HU := Lib.hid (Two.new (w.alloc (.cells #[.slice A zs.length c, .int .i64 m] 35)) (.int .i64 q) (.bool y) 85 (w.heap.size + 1) (by simp))
  replace HT := Lib.hid (HT.out.step ((Below.refl _ _).alloc (Nat.le_refl _) (.cells #[.int .i64 q, .bool y] 85)))
  replace HB := Lib.hid (HB.out.alloc HB.out.size (.cells #[.int .i64 q, .bool y] 85))
  have HR := Lib.hid (Two.new ((w.alloc (.cells #[.slice A zs.length c, .int .i64 m] 35)).alloc (.cells #[.int .i64 q, .bool y] 85)) (.slice none 0 0) (.int .i64 0) 35 (w.heap.size + 1 + 1) (by simp))
  replace HT := Lib.hid (HT.out.step ((Below.refl _ _).alloc (Nat.le_refl _) (.cells #[.slice none 0 0, .int .i64 0] 35)))
  replace HU := Lib.hid (HU.out.step ((Below.refl _ _).alloc (Nat.le_refl _) (.cells #[.slice none 0 0, .int .i64 0] 35)))
  replace HB := Lib.hid (HB.out.alloc HB.out.size (.cells #[.slice none 0 0, .int .i64 0] 35))
  have HI := Lib.hid (hS.step HB.out)
  have hh := hS.top
  clear hS hst hq hl
  go_enter Try.func57, Try.ntmps57
  go_wp2_with fail
  generalize ((w.alloc (.cells #[.slice A zs.length c, .int .i64 m] 35)).alloc (.cells #[.int .i64 q, .bool y] 85)).alloc (.cells #[.slice none 0 0, .int .i64 0] 35) = wa at HT HU HR HB HI ⊢
  refine (HC.out wa HI.out).mono ?_
  rintro e wb ⟨rfl, hb⟩
  replace HT := Lib.hid (HT.out.step hb)
  replace HU := Lib.hid (HU.out.step hb)
  replace HR := Lib.hid (HR.out.step hb)
  replace HI := Lib.hid (HI.out.step hb)
  replace HB := Lib.hid (below_trans HB.out hb)
  clear hb HC
  have h0 := HT.out.c0
  have h1 := HT.out.c1
  have h2 := HU.out.c0
  go_wp2_with fail
  refine (HD.out wb).mono ?_
  rintro e w1 ⟨rfl, rfl⟩
  go_wp2_with fail
  refine (copyState_any A c lo hi zs m w1 HI.out hn1 hn12).mono ?_
  rintro e wc ⟨g, rfl, hg, hr, hb⟩
  have hgu : w.heap.size + 1 + 1 < g := Nat.lt_of_lt_of_le HR.out.lt hg
  replace HT := Lib.hid (HT.out.step hb)
  replace HU := Lib.hid (HU.out.step hb)
  replace HR := Lib.hid (HR.out.step hb)
  replace HB := Lib.hid (below_trans HB.out hb)
  have hgc : g < wc.heap.size := row_ltI hr
  have HG := Lib.hid hr
  clear hb hr h0 h1 h2 HI HD
  have hb := (Below.refl wc.heap.size wc).alloc (Nat.le_refl _) (.cells #[.slice (some ⟨g, 0, none⟩) zs.length zs.length, .int .i64 m] 35)
  have HV := Lib.hid (Two.new wc (.slice (some ⟨g, 0, none⟩) zs.length zs.length) (.int .i64 m) 35 wc.heap.size rfl)
  replace HT := Lib.hid (HT.out.step hb)
  replace HU := Lib.hid (HU.out.step hb)
  replace HR := Lib.hid (HR.out.step hb)
  replace HB := Lib.hid (below_trans HB.out hb)
  replace HG := Lib.hid ((hb.block g hgc).trans HG.out)
  have hcw : wc.heap.size < (wc.alloc (.cells #[.slice (some ⟨g, 0, none⟩) zs.length zs.length, .int .i64 m] 35)).heap.size := HV.out.lt
  clear hb
  go_wp2_with fail
  generalize wc.alloc (.cells #[.slice (some ⟨g, 0, none⟩) zs.length zs.length, .int .i64 m] 35) = wd at HV HT HU HR HB HG hcw ⊢
  go_loopw [27] (fun i wr => ∃ (k : Nat), k ≤ zs.length ∧ i = .int .i64 k ∧ Hid (wr.heap[g]? = some (.cells ((aftTo zs m q y k).map (Value.int .i64)).toArray 3 (0, 0))) ∧ Hid (Within g (g + 1) wd wr)) (fun i _ => zs.length - (intOf i).toNat)
  case atStart => exact ⟨0, Nat.zero_le _, rfl, HG.out, Within.refl _ _ _⟩
  case round =>
    obtain ⟨k, hk, rfl, HO, HP⟩ := hrel
    by_cases hlt : k < zs.length
    · have hat := HA.out k hlt
      have hrow := HO.out
      have hcell := getD_cell hrow (i := k) (by rw [aftTo_len]; exact hlt)
      rw [aftTo_cell hlt] at hcell
      by_cases hx : 0 ≤ zs[k]
      · have hu0 := (HU.out.within HP.out (.inl (by omega))).c0
        have hu1 := (HU.out.within HP.out (.inl (by omega))).c1
        have HIF := Lib.hid (fun W => isFalse_any q y k W (by omega))
        have hne : ¬ zs[k] = -1 := by omega
        cases hp : (y != inQ q k) with
        | false =>
          have HF := Lib.hid (aftTo_same (m := m) (q := q) (y := y) hlt (by rw [hp]; exact aft1_no))
          rw [hp] at HIF
          clear hp hrow
          go_wp2_with fail
          refine (HIF.out _).mono ?_
          rintro e w5 ⟨rfl, hb⟩
          have HO2 := Lib.hid ((hb.block g (row_ltI HO.out)).trans HO.out)
          have HP2 := Lib.hid (HP.out.trans (Within.of_below hb))
          clear hb
          go_wp2
          go_roundw
          case rel => exact ⟨k + 1, by omega, by go_num, by rw [HF.out]; exact HO2.out, HP2.out⟩
          case measure => simp [intOf]; omega
        | true =>
          have HF := Lib.hid (aftTo_turn (m := m) (q := q) (y := y) (v := if zs[k] = m then -1 else zs[k] + 1) hlt (by rw [hp]; exact aft1_yes hx))
          rw [hp] at HIF
          clear hp hrow
          have HOM := Lib.hid (fun W => oneMoreLie_any zs[k] m W (by omega))
          generalize (if zs[k] = m then -1 else zs[k] + 1) = v at HF HOM
          go_wp2_with fail
          refine (HIF.out _).mono ?_
          rintro e w5 ⟨rfl, hb⟩
          have HO2 := Lib.hid ((hb.block g (row_ltI HO.out)).trans HO.out)
          have HP2 := Lib.hid (HP.out.trans (Within.of_below hb))
          clear hb hcell hu0 hu1
          have hv0 := (HV.out.within HP2.out (.inr (by omega))).c0
          have ht1 := (HT.out.within HP2.out (.inl (by omega))).c1
          have hcell := getD_cell HO2.out (i := k) (by rw [aftTo_len]; exact hlt)
          rw [aftTo_cell hlt] at hcell
          have hfr := row_freeI HO2.out k
          have HO3 := Lib.hid (row_setI HO2.out k (.int .i64 v))
          rw [map_set] at HO3
          have HP3 := Lib.hid ((HP2.out.trans (within_set (Within.refl g (g + 1) w5) (Nat.le_refl _) (Nat.lt_succ_self _) k (.int .i64 v))).drew)
          go_wp2_with fail
          go_region_with (go_at_call 110; refine (HOM.out _).mono ?_; rintro e w6 ⟨rfl, rfl⟩)
          all_goals
            go_wp2
            go_roundw
            case rel => exact ⟨k + 1, by omega, by go_num, by rw [HF.out]; exact HO3.out, HP3.out⟩
            case measure => simp [intOf]; omega
      · have hne : zs[k] = -1 := by omega
        have HF := Lib.hid (aftTo_same (m := m) (q := q) (y := y) hlt (aft1_neg hx))
        rw [hne] at hcell
        clear hrow
        go_wp2
        go_roundw
        case rel => exact ⟨k + 1, by omega, by go_num, by rw [HF.out]; exact HO.out, HP.out⟩
        case measure => simp [intOf]; omega
    · obtain rfl : k = zs.length := by omega
      have HV2 := Lib.hid (HV.out.within HP.out (.inr (by omega)))
      have HR2 := Lib.hid (HR.out.within HP.out (.inl (by omega)))
      have hv0 := HV2.out.c0
      have hv1 := HV2.out.c1
      have hr0 := HR2.out.c0
      have hr1 := HR2.out.c1
      have hf0 := HR2.out.f0
      have hf1 := HR2.out.f1
      go_wp2
      obtain ⟨hs, hw⟩ := stored2 HR2.out.row (.slice (some ⟨g, 0, none⟩) zs.length zs.length) (.int .i64 m)
      generalize ((wr.setCell ⟨w.heap.size + 1 + 1, 0, none⟩ (.slice (some ⟨g, 0, none⟩) zs.length zs.length)).setCell ⟨w.heap.size + 1 + 1, 1, none⟩ (.int .i64 m)) = wf at hs hw ⊢
      have e0 := two0 hs
      have e1 := two1 hs
      refine bodyPost_ret (v := .tuple #[.agg #[.slice (some ⟨g, 0, none⟩) zs.length zs.length, .int .i64 m], .bool true]) (by simp [results, go_sem, e0, e1]) rfl ?_
      exact ⟨g, rfl, by omega, (hw.block g (row_ltI HO.out) (.inr (by omega))).trans HO.out, (HB.out.trans (HP.out.below (by omega) HB.out.size)).trans (hw.below (by omega) (Nat.le_trans HB.out.size HP.out.size))⟩
end Go.Proofs.Ytpjoljaamakagaa
