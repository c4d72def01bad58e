/- A list of answers that is drawn. -/
import Derived.Test.YtdkffkgoalgjmacDrawC
import Derived.Test.YtdkffkgoalgjmacL6A
import Derived.Test.YtdkffkgoalgjmacVain
namespace Go.Proofs.Ytdkffkgoalgjmac
open Go.RowKit Go.ChangeShapes Go.WideShapes Go.Maps
set_option linter.unusedVariables false
set_option linter.unusedSimpArgs false

theorem infoAD : (Try.prog.info? 52).map (fun i => (i.zero, i.size, i.bytes)) = some (some (.agg #[.int .i64 0, .bool false]), 2, 16) := by kernel_rfl
theorem owns_farA {w w' : World} {sz b B n : Nat} {v : Value} {xs : List Value} {e : TypeId} (h : w.ownsRow B e sz v n xs) (hg : w.grownBy w' (some b)) (hb : b < B) : w'.ownsRow B e sz v n xs :=
  h.kept hg (by
    cases hv : v.ownBlock with
    | none => exact .inl rfl
    | some g => exact .inr (fun e' => by injection e' with e'; have := h.lt g hv; omega))
theorem cur_ownA {w w1 : World} {sz b B n c k N : Nat} {A : Option Addr} {v : Value} {xs : List Value} {e : TypeId} (h : Cur w b A n c k) (ho : w.ownsRow B e sz v N xs) (hB : b < B) (hg : w.grownBy w1 v.ownBlock) : Cur w1 b A n c k :=
  h.grown hg (fun g e' => by have := ho.lt g e'; omega)
theorem grown_ownAD {a w w1 : World} {sz b B n : Nat} {v : Value} {xs : List Value} {e : TypeId} (h : a.grownBy w (some b)) (ho : w.ownsRow B e sz v n xs) (hB : a.heap.size ≤ B) (hg : w.grownBy w1 v.ownBlock) : a.grownBy w1 (some b) :=
  ⟨hg.os.trans h.os, hg.tape.trans h.tape, hg.output.trans h.output, Nat.le_trans h.size hg.size, fun j hj hne => (hg.block j (Nat.lt_of_lt_of_le hj h.size) (fun e' => by have := ho.lt j e'.symm; omega)).trans (h.block j hj hne)⟩
theorem owns_setA {w : World} {sz b B n i : Nat} {v u : Value} {xs : List Value} {e : TypeId} (h : w.ownsRow B e sz v n xs) (hlt : ∀ g, v.ownBlock = some g → g < b) : (w.setCell ⟨b, i, none⟩ u).ownsRow B e sz v n xs :=
  h.kept (grown_setC w b i u) (by
    cases hv : v.ownBlock with
    | none => exact .inl rfl
    | some g => exact .inr (fun e' => by injection e' with e'; have := hlt g hv; omega))
def lenOfA : Value → Nat
  | .slice _ n _ => n
  | _ => 0
def anyN10 (x : Int) : Bool := decide (0 ≤ x ∧ x ≤ 10)
def DrewA (w : World) (b : Nat) (A : Option Addr) (n c k : Nat) (e : Ending) (w' : World) : Prop :=
  ∃ (l : List (Int × Bool)) (B : Option Addr) (c' : Nat), e = .returned (.slice B l.length c') ∧ l.length ≤ 31 ∧ AMade w' w.heap.size w'.heap.size B l ∧ ∃ k2 : Nat, k2 ≤ k + 200 ∧ Cur w' b A n c k2 ∧ w.grownBy w' (some b)
set_option maxRecDepth 100000 in
set_option maxHeartbeats 8000000 in
theorem asked_any (b : Nat) (A : Option Addr) (n c k : Nat) (N : Nat) (w : World) (h : Cur w b A n c k) (hk : k ≤ 999000) (hn : n ≤ 65536) (hN : N ≤ 13) :
    Calls Try.prog 86 #[.pointer (some ⟨b, 0, none⟩), .int .i64 (N : Int)] w (DrewA w b A n c k) := by
  have hbw := h.lt
  obtain ⟨i0, hi0, hz0, hz1, hz2⟩ := info_parts infoAD
  have HC := Lib.hid (h.alloc (.cells #[] 52))
  have HO := Lib.hid (A0_any w w.heap.size (Nat.le_refl _))
  have HG := Lib.hid (only_alloc (World.grownBy.refl w (some b)) (.cells #[] 52))
  obtain ⟨M, hM, hM1, hM2⟩ : ∃ M : Nat, (M : Int) = (if (N : Int) ≤ 1 then 1 else (N : Int)) ∧ 1 ≤ M ∧ M ≤ 13 := ⟨(if (N : Int) ≤ 1 then 1 else (N : Int)).toNat, by split <;> omega, by split <;> omega, by split <;> omega⟩
  have HMX := Lib.hid (fun W => l1Most_any 1 (N : Int) W)
  rw [← hM] at HMX
  clear h hM
  go_enter Try.func86, Try.ntmps86
  go_wp2_with fail
  generalize w.alloc (.cells #[] 52) = wa at HC HO HG ⊢
  refine (HMX.out wa).mono ?_
  rintro e w9 ⟨rfl, hw9⟩
  have hw9 := hw9.symm
  subst hw9
  go_wp2_with fail
  refine (pick_any b A n c k M wa HC.out (by omega) hn hM1 (by omega)).mono ?_
  rintro e w1 ⟨sec, k1, hsec, rfl, hk1, hc1, hg1⟩
  have HO1 := Lib.hid (owns_farA HO.out hg1 hbw)
  have HC1 := Lib.hid hc1
  have HG1 := Lib.hid (HG.out.trans hg1)
  clear hc1 hg1 HO HC HG HMX
  have hs1 := HG1.out.size
  go_wp2_with fail
  refine (amongP_any anyN10 b A n c k1 8 w1.heap.size 8 _ (HC1.out.alloc _) (by omega) hn (by omega) (by omega) ?hL (by omega) (by simp)).mono ?_
  case hL => exact list_num w1 _ _ 8 (Nat.le_refl _) rfl
  rintro e w2 ⟨mx, rfl, hmx, k2, hk2, hc2, hg2⟩
  have HO2 := Lib.hid (owns_farA (HO1.out.alloc _) hg2 hbw)
  have HC2 := Lib.hid hc2
  have HG2 := Lib.hid ((only_alloc HG1.out _).trans hg2)
  have hm10 : 0 ≤ mx ∧ mx ≤ 10 := by simpa [anyN10] using hmx
  obtain ⟨m0, rfl⟩ : ∃ m0 : Nat, mx = (m0 : Int) := ⟨mx.toNat, by omega⟩
  clear hc2 hg2 HO1 HC1 HG1 hmx hs1
  go_wp2_with fail
  go_loopw [5, 7] (fun out i wr => ∃ (f : List (Int × Bool)) (mm kk : Nat), i = .int .i64 (mm : Int) ∧ mm ≤ 10 ∧ f.length + mm ≤ 10 ∧ kk + 6 * mm ≤ k + 70 ∧ Hid (wr.ownsRow w.heap.size 52 2 out f.length (cellsA f)) ∧ Hid (Cur wr b A n c kk) ∧ Hid (w.grownBy wr (some b))) (fun _ i _ => (intOf i).toNat)
  case atStart => exact ⟨[], m0, k2, rfl, by omega, by simp; omega, by omega, HO2, HC2, HG2⟩
  case round =>
    clear HO2 HC2 HG2 hm10
    obtain ⟨f, mm, kk, rfl, hmm, hfl, hkk, HO, HC, HG⟩ := hrel
    rename World => wr
    have hsz := HG.out.size
    by_cases hlt : 0 < mm
    · have hltI : (0 : Int) < (mm : Int) := by omega
      go_wp2_with fail
      refine (question_any b A n c kk N wr HC.out (by omega) hn (by omega)).mono ?_
      rintro e w3 ⟨q, rfl, _, k3, hk3, hc3, hg3⟩
      have HO3 := Lib.hid (owns_farA HO.out hg3 hbw)
      have HC3 := Lib.hid hc3
      have HG3 := Lib.hid (HG.out.trans hg3)
      have hs3 := HG3.out.size
      clear hc3 hg3 HO HC HG hsz
      have HI := Lib.hid (fun W => l1In_any q 0 4095 W)
      go_upto_region 6 with fail
      go_cut [9] from 25 to 35 (fun p9 wx => ∃ y : Bool, p9 = .pointer (some ⟨w3.heap.size, 0, none⟩) ∧ wx = w3.alloc (.cells #[.int .i64 q, .bool y] 52))
      case first =>
        clear HO3 HC3 HG3
        cases hq : inB q 0 4095 with
        | false =>
          rw [hq] at HI
          go_wp2_with (first | (go_at_call 58; refine (HI.out _).mono ?_; rintro e w4 ⟨rfl, rfl⟩))
          go_meet
          case rel => exact ⟨_, rfl, rfl⟩
        | true =>
          rw [hq] at HI
          have hb := inB_iff.1 hq
          clear hq
          go_wp2_with (first | (go_at_call 58; refine (HI.out _).mono ?_; rintro e w4 ⟨rfl, rfl⟩))
          go_meet
          case rel => exact ⟨_, rfl, rfl⟩
      case rest =>
        obtain ⟨y, rfl, rfl⟩ := hcut
        have hA3 := (Below.refl w3.heap.size w3).alloc (Nat.le_refl _) (.cells #[.int .i64 q, .bool y] 52)
        have HT := Lib.hid (Two.new w3 (.int .i64 q) (.bool y) 52 w3.heap.size rfl)
        have hlt3 : ∀ g, _ = some g → g < w3.heap.size := fun g hg => (HO3.out.lt g hg).2
        have HL3 := Lib.hid hlt3
        have HO4 := Lib.hid (HO3.out.alloc (.cells #[.int .i64 q, .bool y] 52))
        have HC4 := Lib.hid (HC3.out.alloc (.cells #[.int .i64 q, .bool y] 52))
        have HG4 := Lib.hid (only_alloc HG3.out (.cells #[.int .i64 q, .bool y] 52))
        have hbl : b < w3.heap.size := HC3.out.lt
        clear HO3 HC3 HG3 HI hA3 hlt3
        generalize w3.alloc (.cells #[.int .i64 q, .bool y] 52) = w4 at HT HO4 HC4 HG4 ⊢
        go_wp2_with fail
        refine (one_any b A n c k3 4 w4 HC4.out (by omega) hn (by omega) (by omega)).mono ?_
        rintro e w5 ⟨x, rfl, k5, hk5, hc5, hg5⟩
        have HO5 := Lib.hid (owns_farA HO4.out hg5 hbw)
        have HC5 := Lib.hid hc5
        have HG5 := Lib.hid (HG4.out.trans hg5)
        have HT5 := Lib.hid (show Two w5 w3.heap.size (.int .i64 q) (.bool y) 52 from ⟨(hg5.block _ HT.out.lt (fun e => by injection e with e; omega)).trans HT.out.row⟩)
        have hs5 := HG5.out.size
        clear hc5 hg5 HO4 HC4 HG4 HT
        cases x with
        | false =>
          have t0 := HT5.out.c0
          have t1 := HT5.out.c1
          have hown := HO5.out
          go_wp2_with (at_builtin; refine wpList_append_own _ rfl _ _ 47 rfl w.heap.size 52 i0 (.agg #[.int .i64 0, .bool false]) 2 16 Try.underlying47 hi0 hz0 hz1 hz2 rfl (by decide) _ _ _ rfl (hown.alloc _) ⟨w5.heap.size, 0, none⟩ 1 1 [.int .i64 q, .bool y] rfl rfl (cell_two_new _ _ _ _) (by simp [Value.oneCell']) (by unfold maxLen; omega) (by omega) (by simp; omega) ?_; intro v' w7 hown' hgrow _)
          have HO7 := Lib.hid (askd_snoc6 hown' rfl)
          have HC7 := Lib.hid (cur_ownA (HC5.out.alloc _) (hown.alloc _) hbw hgrow)
          have HG7 := Lib.hid (grown_ownAD (only_alloc HG5.out _) (hown.alloc _) (Nat.le_refl _) hgrow)
          clear hown' hgrow hown
          go_wp2
          go_roundw
          case rel => exact ⟨f ++ [(q, y)], mm - 1, k5, by go_num, by omega, by simp; omega, by omega, HO7, HC7, HG7⟩
          case measure => simp [intOf]; omega
        | true =>
          have t0 := HT5.out.c0
          have t1 := HT5.out.c1
          have g0 := HT5.out.f0
          have g1 := HT5.out.f1
          have HO6 := Lib.hid (owns_setA (i := 1) (u := .bool (!y)) HO5.out (b := w3.heap.size) HL3.out)
          have HC6 := Lib.hid (HC5.out.grown (grown_setC w5 w3.heap.size 1 (.bool (!y))) (fun g' e => by injection e; omega))
          have HG6 := Lib.hid (grown_set_farC HG5.out hs3 (.bool (!y)) (i := 1))
          have HT6 := Lib.hid (show Two (w5.setCell ⟨w3.heap.size, 1, none⟩ (.bool (!y))) w3.heap.size (.int .i64 q) (.bool (!y)) 52 from ⟨by simpa using row_setI HT5.out.row 1 (.bool (!y))⟩)
          go_upto_region 9 with fail
          generalize w5.setCell ⟨w3.heap.size, 1, none⟩ (.bool (!y)) = w6 at HO6 HC6 HG6 HT6 ⊢
          generalize (!y) = z at HT6 ⊢
          clear HO5 HC5 HG5 HT5 t0 t1 g0 g1 HL3
          have hs6 := HG6.out.size
          have t0 := HT6.out.c0
          have t1 := HT6.out.c1
          have hown := HO6.out
          go_wp2_with (at_builtin; refine wpList_append_own _ rfl _ _ 47 rfl w.heap.size 52 i0 (.agg #[.int .i64 0, .bool false]) 2 16 Try.underlying47 hi0 hz0 hz1 hz2 rfl (by decide) _ _ _ rfl (hown.alloc _) ⟨w6.heap.size, 0, none⟩ 1 1 [.int .i64 q, .bool z] rfl rfl (cell_two_new _ _ _ _) (by simp [Value.oneCell']) (by unfold maxLen; omega) (by omega) (by simp; omega) ?_; intro v' w7 hown' hgrow _)
          have HO7 := Lib.hid (askd_snoc6 hown' rfl)
          have HC7 := Lib.hid (cur_ownA (HC6.out.alloc _) (hown.alloc _) hbw hgrow)
          have HG7 := Lib.hid (grown_ownAD (only_alloc HG6.out _) (hown.alloc _) (Nat.le_refl _) hgrow)
          clear hown' hgrow hown
          go_wp2
          go_roundw
          case rel => exact ⟨f ++ [(q, z)], mm - 1, k5, by go_num, by omega, by simp; omega, by omega, HO7, HC7, HG7⟩
          case measure => simp [intOf]; omega
    · obtain rfl : mm = 0 := by omega
      obtain ⟨A3, c3, hv3, hr3⟩ := own_resA HO.out rfl
      subst hv3
      clear hr3
      have HON := Lib.hid (one_any b A n c kk 40 wr HC.out (by omega) hn (by omega) (by omega))
      go_wp2_with fail
      refine HON.out.mono ?_
      rintro e w7 ⟨x, rfl, k7, hk7, hc7, hg7⟩
      have HO7 := Lib.hid (owns_farA HO.out hg7 hbw)
      have HC7 := Lib.hid hc7
      have HG7 := Lib.hid (HG.out.trans hg7)
      have hs7 := HG7.out.size
      clear hc7 hg7 HON HO HC HG
      cases x with
      | false =>
        obtain ⟨A4, c4, hv4, hr4⟩ := own_resA HO7.out rfl
        injection hv4 with hA4 hq4 hc4
        subst hA4 hc4
        have HR := Lib.hid hr4
        clear hr4
        go_wp2
        go_ret
        exact ⟨f, A3, c3, rfl, by omega, HR.out, k7, by omega, HC7.out, HG7.out⟩
      | true =>
        generalize (Value.slice A3 f.length c3) = v7 at HO7 ⊢
        go_wp2_with fail
        go_loopw [5] (fun out wr => ∃ f2 : List (Int × Bool), f2.length ≤ 21 ∧ Hid (wr.ownsRow w.heap.size 52 2 out f2.length (cellsA f2)) ∧ Hid (Cur wr b A n c k7) ∧ Hid (w.grownBy wr (some b))) (fun v _ => 21 - lenOfA v)
        case atStart => exact ⟨f, by omega, HO7, HC7, HG7⟩
        case round =>
          clear HO7 HC7 HG7
          obtain ⟨f2, hf2, HO, HC, HG⟩ := hrel
          rename World => w8
          have hsz := HG.out.size
          obtain ⟨A5, c5, hv5, hr5⟩ := own_resA HO.out rfl
          subst hv5
          by_cases h21 : f2.length < 21
          · have h21I : (f2.length : Int) < 21 := by omega
            have hown := HO.out
            clear hr5
            go_wp2_with (at_builtin; refine wpList_append_own _ rfl _ _ 47 rfl w.heap.size 52 i0 (.agg #[.int .i64 0, .bool false]) 2 16 Try.underlying47 hi0 hz0 hz1 hz2 rfl (by decide) _ _ _ rfl (hown.alloc _) ⟨w8.heap.size, 0, none⟩ 1 1 [.int .i64 1, .bool false] rfl rfl (cell_two_new _ _ _ _) (by simp [Value.oneCell']) (by unfold maxLen; omega) (by omega) (by simp; omega) ?_; intro v' w9 hown' hgrow _)
            have HO9 := Lib.hid (askd_snoc6 hown' rfl)
            have HC9 := Lib.hid (cur_ownA (HC.out.alloc _) (hown.alloc _) hbw hgrow)
            have HG9 := Lib.hid (grown_ownAD (only_alloc HG.out _) (hown.alloc _) (Nat.le_refl _) hgrow)
            clear hown' hgrow hown
            go_wp2
            go_roundw
            case rel => exact ⟨f2 ++ [(1, false)], by simp; omega, HO9, HC9, HG9⟩
            case measure =>
              obtain ⟨A9, c9, hv9, _⟩ := own_resA HO9.out rfl
              subst hv9
              simp [lenOfA]
              omega
          · have HR := Lib.hid hr5
            clear hr5
            go_wp2
            go_ret
            exact ⟨f2, A5, c5, rfl, by omega, HR.out, k7, by omega, HC.out, HG.out⟩
end Go.Proofs.Ytdkffkgoalgjmac
