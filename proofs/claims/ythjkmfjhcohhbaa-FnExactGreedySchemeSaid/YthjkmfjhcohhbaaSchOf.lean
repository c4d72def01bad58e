/- SchemeOf: both. -/
import Derived.Test.YthjkmfjhcohhbaaSOf
namespace Go.Proofs.Ythjkmfjhcohhbaa
open Go.RowKit Go.ChangeShapes Go.WideShapes
set_option linter.unusedVariables false

/-- Which lists of words there are a scheme for. -/
def sOK (us : List Int) (m : Int) : Bool := inB us.length 1 12 && inB m 0 14 && us.all fun u => wOK m.toNat u
theorem sOK_iff {us : List Int} {m : Int} : sOK us m = true ↔ (1 ≤ us.length ∧ us.length ≤ 12) ∧ (0 ≤ m ∧ m ≤ 14) ∧ ∀ u ∈ us, wOK m.toNat u = true := by
  rw [sOK, Bool.and_eq_true, Bool.and_eq_true, inB_iff, inB_iff, List.all_eq_true]
  exact ⟨fun ⟨⟨a, b⟩, c⟩ => ⟨by omega, b, c⟩, fun ⟨a, b, c⟩ => ⟨⟨by omega, b⟩, c⟩⟩
/-- The first k are all words. -/
def WsTo (us : List Int) (m : Nat) (k : Nat) : Prop := ∀ j (h : j < us.length), j < k → wOK m us[j] = true
theorem WsTo.zero {us : List Int} {m : Nat} : WsTo us m 0 := fun j _ h => absurd h (by omega)
theorem WsTo.step {us : List Int} {m k : Nat} (h : WsTo us m k) (hk : k < us.length) (hb : wOK m us[k] = true) : WsTo us m (k + 1) := fun j hj hlt => by
  by_cases e : j = k
  · subst e; exact hb
  · exact h j hj (by omega)
theorem WsTo.ok {us : List Int} {m : Nat} (h : WsTo us m us.length) (h1 : 1 ≤ us.length ∧ us.length ≤ 12) (hm : m ≤ 14) : sOK us (m : Int) = true := by
  rw [sOK_iff]
  refine ⟨h1, by omega, fun u hu => ?_⟩
  obtain ⟨j, hj, rfl⟩ := List.getElem_of_mem hu
  rw [Int.toNat_natCast]
  exact h j hj hj
theorem sOK_bad {us : List Int} {m : Nat} {k : Nat} (hk : k < us.length) (hb : wOK m us[k] = false) : sOK us (m : Int) = false := by
  rw [Bool.eq_false_iff, Ne, sOK_iff]
  rintro ⟨_, _, h3⟩
  have := h3 _ (List.getElem_mem hk)
  rw [Int.toNat_natCast, hb] at this
  cases this
theorem sOK_no {us : List Int} {m : Int} (h : inB us.length 1 12 = false ∨ inB m 0 14 = false) : sOK us m = false := by
  rcases h with h | h <;> simp [sOK, h]
/-- What SchemeOf answers. -/
def sAns (us : List Int) (m : Int) : List Int := if sOK us m then schL us m.toNat else []
theorem sAns_no {us : List Int} {m : Int} (h : sOK us m = false) : sAns us m = [] := by simp [sAns, h]
theorem sAns_yes {us : List Int} {m : Nat} (h : sOK us (m : Int) = true) : sAns us (m : Int) = schL us m := by simp [sAns, h]
theorem sAns_len (us : List Int) (m : Int) : (sAns us m).length ≤ 1048576 := by
  unfold sAns
  split
  · rename_i h
    have := sOK_iff.1 h
    simp only [schL, grow5_len]
    omega
  · simp

set_option maxHeartbeats 2000000 in
theorem schemeOf_no (A : Option Addr) (c lo hi : Nat) (us : List Int) (m : Int) (w : World) (hS : Ins w lo hi A us) (h : inB us.length 1 12 = false ∨ (inB us.length 1 12 = true ∧ inB m 0 14 = false)) :
    Calls Try.prog 26 #[.slice A us.length c, .int .i64 m] w (LAns w [] false) := by
  have HC := Lib.hid (fun W => isSize_any (us.length : Int) W)
  have HD := Lib.hid (fun W => isSchemeSize_any m W)
  rcases h with h | ⟨h1, h2⟩
  · rw [h] at HC
    clear hS h
    go_enter Try.func26, Try.ntmps26
    go_wp2_with (go_at_call 44; refine (HC.out _).mono ?_; rintro e w1 ⟨rfl, rfl⟩)
    go_ret2
    exact lans_nil (Below.refl _ _)
  · rw [h1] at HC
    rw [h2] at HD
    clear hS h1 h2
    go_enter Try.func26, Try.ntmps26
    go_wp2_with (first | (go_at_call 44; refine (HC.out _).mono ?_; rintro e w1 ⟨rfl, rfl⟩) | (go_at_call 45; refine (HD.out _).mono ?_; rintro e w1 ⟨rfl, rfl⟩))
    go_ret2
    exact lans_nil (Below.refl _ _)
set_option maxHeartbeats 2000000 in
theorem schemeOf_spec_no (A : Option Addr) (c lo hi : Nat) (us : List Int) (m : Int) (w : World) (hS : Ins w lo hi A us) (h : inB us.length 1 12 = false ∨ (inB us.length 1 12 = true ∧ inB m 0 14 = false)) :
    Calls Try.prog 25 #[.slice A us.length c, .int .i64 m] w (LAns w [] false) := by
  have HC := Lib.hid (fun W => l2Numbers_any (us.length : Int) W)
  have HD := Lib.hid (fun W => l1In_any m 0 14 W)
  rcases h with h | ⟨h1, h2⟩
  · rw [h] at HC
    clear hS h
    go_enter Try.func25, Try.ntmps25
    go_wp2_with (go_at_call 54; refine (HC.out _).mono ?_; rintro e w1 ⟨rfl, rfl⟩)
    go_ret2
    exact lans_nil (Below.refl _ _)
  · rw [h1] at HC
    rw [h2] at HD
    clear hS h1 h2
    go_enter Try.func25, Try.ntmps25
    go_wp2_with (first | (go_at_call 54; refine (HC.out _).mono ?_; rintro e w1 ⟨rfl, rfl⟩) | (go_at_call 47; refine (HD.out _).mono ?_; rintro e w1 ⟨rfl, rfl⟩))
    go_ret2
    exact lans_nil (Below.refl _ _)

set_option maxRecDepth 100000 in
set_option maxHeartbeats 2000000 in
theorem schemeOf_spec (A : Option Addr) (c lo hi : Nat) (us : List Int) (m : Nat) (w : World) (hS : Ins w lo hi A us) (h1 : 1 ≤ us.length ∧ us.length ≤ 12) (hm : m ≤ 14) :
    Calls Try.prog 25 #[.slice A us.length c, .int .i64 (m : Int)] w (LAns w (sAns us (m : Int)) (sOK us (m : Int))) := by
  have HC := Lib.hid (fun W => l2Numbers_any (us.length : Int) W)
  have HD := Lib.hid (fun W => l1In_any (m : Int) 0 14 W)
  rw [inB_t (x := (us.length : Int)) (a := 1) (b := 12) (by omega) (by omega)] at HC
  rw [inB_t (x := (m : Int)) (a := 0) (b := 14) (by omega) (by omega)] at HD
  have HW := Lib.hid (fun u W => l5Word_any m u W hm)
  have HO := Lib.hid (fun W h => l5Of_any A c lo hi us m W h h1.2 hm)
  have HI := Lib.hid hS
  have htop := hS.top
  clear hS
  go_enter Try.func25, Try.ntmps25
  go_wp2_with fail
  refine (HC.out w).mono ?_
  rintro e w1 ⟨rfl, rfl⟩
  go_wp2_with fail
  refine (HD.out _).mono ?_
  rintro e w2 ⟨rfl, rfl⟩
  go_wp2_with fail
  go_loopw [6] (fun i wr => ∃ (k : Nat), k ≤ us.length ∧ i = .int .i64 k ∧ Hid (WsTo us m k) ∧ wr = w2) (fun i _ => us.length - (intOf i).toNat)
  case atStart => exact ⟨0, Nat.zero_le _, rfl, WsTo.zero, rfl⟩
  case round =>
    obtain ⟨k, hk, rfl, HT, rfl⟩ := hrel
    by_cases hlt : k < us.length
    · obtain ⟨b, o, rfl, _, hb, hcu⟩ := HI.out.ints.at_ hlt
      have HWk := Lib.hid (HW.out us[k])
      cases hw : wOK m us[k] with
      | true =>
        rw [hw] at HWk
        have HT2 := Lib.hid (HT.out.step hlt hw)
        clear hw HT
        generalize us[k] = u at hcu HWk
        go_wp2_with fail
        refine (HWk.out _).mono ?_
        rintro e w3 ⟨rfl, rfl⟩
        go_wp2
        go_roundw
        case rel => exact ⟨k + 1, by omega, by go_num, HT2, by first | trivial | rfl⟩
        case measure => simp [intOf]; omega
      | false =>
        rw [hw] at HWk
        have HX := Lib.hid (sOK_bad hlt hw)
        have HY := Lib.hid (sAns_no HX.out)
        clear hw HT
        generalize us[k] = u at hcu HWk
        go_wp2_with fail
        refine (HWk.out _).mono ?_
        rintro e w3 ⟨rfl, rfl⟩
        go_wp2
        go_ret2
        rw [HX.out, HY.out]
        exact lans_nil (Below.refl _ _)
    · obtain rfl : k = us.length := by omega
      have HX := Lib.hid (HT.out.ok h1 hm)
      have HY := Lib.hid (sAns_yes HX.out)
      go_wp2_with fail
      refine (HO.out _ HI.out).mono ?_
      rintro e w3 ⟨rfl, hq, hb⟩
      have HQ := Lib.hid hq
      have HB := Lib.hid hb
      clear hq hb
      go_wp2
      go_ret2
      rw [HX.out, HY.out]
      exact lans_qrow (grow5_len _ _ _) rfl (Nat.le_refl _) HQ.out HB.out

set_option maxRecDepth 100000 in
set_option maxHeartbeats 4000000 in
theorem schemeOf_impl (A : Option Addr) (c lo hi : Nat) (us : List Int) (m : Nat) (w : World) (hS : Ins w lo hi A us) (h1 : 1 ≤ us.length ∧ us.length ≤ 12) (hm : m ≤ 14) :
    Calls Try.prog 26 #[.slice A us.length c, .int .i64 (m : Int)] w (LAns w (sAns us (m : Int)) (sOK us (m : Int))) := by
  have HC := Lib.hid (fun W => isSize_any (us.length : Int) W)
  have HD := Lib.hid (fun W => isSchemeSize_any (m : Int) W)
  rw [inB_t (x := (us.length : Int)) (a := 1) (b := 12) (by omega) (by omega)] at HC
  rw [inB_t (x := (m : Int)) (a := 0) (b := 14) (by omega) (by omega)] at HD
  have HW := Lib.hid (fun u W => isWord_any m u W hm)
  have HA := Lib.hid (fun v (hv : v < 2 ^ 14) W => answersOf_any v W hv)
  have HI := Lib.hid hS
  have htop := hS.top
  have hmk := makeInts m (by omega)
  rw [grow5_zero us m] at hmk
  have HR0 := Lib.hid (Qrow.new w (grow5 us m fun _ => 0))
  have HB0 := Lib.hid ((Below.refl w.heap.size w).alloc (Nat.le_refl _) (.cells ((grow5 us m fun _ => 0).map (Value.int .i64)).toArray 3))
  clear hS
  go_enter Try.func26, Try.ntmps26
  go_wp2_with fail
  refine (HC.out w).mono ?_
  rintro e w1 ⟨rfl, rfl⟩
  go_wp2_with fail
  refine (HD.out _).mono ?_
  rintro e w2 ⟨rfl, rfl⟩
  go_wp2_with fail
  clear hmk
  generalize w2.alloc (.cells ((grow5 us m fun _ => 0).map (Value.int .i64)).toArray 3) = wa at HR0 HB0 ⊢
  go_loopw [25] (fun i wr => ∃ (k : Nat), k ≤ us.length ∧ i = .int .i64 k ∧ Hid (WsTo us m k) ∧ Hid (Qrow wr w2.heap.size (grow5 us m fun _ => k)) ∧ Hid (Below w2.heap.size w2 wr)) (fun i _ => us.length - (intOf i).toNat)
  case atStart => exact ⟨0, Nat.zero_le _, rfl, WsTo.zero, HR0, HB0⟩
  case round =>
    clear HR0 HB0
    obtain ⟨k, hk, rfl, HT, HR, HB⟩ := hrel
    rename World => wr
    by_cases hlt : k < us.length
    · obtain ⟨b, o, rfl, _, hb, hcu⟩ := (HI.out.ints.below HB.out htop).at_ hlt
      have HWk := Lib.hid (HW.out us[k])
      cases hw : wOK m us[k] with
      | true =>
        rw [hw] at HWk
        have HT2 := Lib.hid (HT.out.step hlt hw)
        have hw2 := wOK_iff.1 hw
        obtain ⟨v, hv⟩ : ∃ v : Nat, us[k] = (v : Int) := ⟨us[k].toNat, by omega⟩
        have hp := pow_le14 m hm
        have hvl : v < 16384 := by omega
        have HSB : Hid (∀ j, sbit us j k = v.testBit j) := Lib.hid fun j => by
          unfold sbit
          rw [getD0 hlt, hv]
          exact inQ_nat (by omega)
        have HAk := Lib.hid (HA.out v hvl)
        rw [hv] at hcu HWk
        clear hw HT hw2 hv hp
        go_wp2_with fail
        refine (HWk.out _).mono ?_
        rintro e w3 ⟨rfl, rfl⟩
        go_wp2_with fail
        refine (HAk.out _).mono ?_
        rintro e w4 ⟨rfl, hb4⟩
        have HR4 := Lib.hid (HR.out.step hb4)
        have HB4 := Lib.hid (below_trans HB.out hb4)
        have HZ := Lib.hid (W14.new0 w4)
        have HBn := Lib.hid (below_new14 w4 v.testBit)
        have HP := Lib.hid (HZ.out.put v.testBit)
        clear hb4 HR HB HAk HWk
        go_wp2_with (first | (with_reducible refine wpList_store14 rfl (.tmp 9) (.tmp 36) rfl w4.heap.size (fun _ => false) v.testBit rfl rfl HZ.out ?_))
        have HR5 := Lib.hid (HR4.out.step HBn.out)
        have HB5 := Lib.hid (below_trans HB4.out HBn.out)
        generalize ((w4.alloc (.cells #[.bool false, .bool false, .bool false, .bool false, .bool false, .bool false, .bool false, .bool false, .bool false, .bool false, .bool false, .bool false, .bool false, .bool false] 48)).setRow w4.heap.size (bwv v.testBit)) = w5 at HP HR5 HB5 ⊢
        have hgl := HP.out.lt
        have hgn : w2.heap.size ≠ w4.heap.size := by have := HR4.out.lt; omega
        clear HZ HBn HR4 HB4
        generalize w4.heap.size = g at HP hgl hgn ⊢
        go_loopw [39] (fun i wr => ∃ (j : Nat), j ≤ m ∧ i = .int .i64 j ∧ Hid (W14 wr g v.testBit) ∧ Hid (Qrow wr w2.heap.size (grow5 us m fun x => if x < j then k + 1 else k)) ∧ Hid (Below w2.heap.size w2 wr)) (fun i _ => m - (intOf i).toNat)
        case atStart => exact ⟨0, Nat.zero_le _, rfl, HP, by simpa using HR5, HB5⟩
        case round =>
          clear HP HR5 HB5
          obtain ⟨j, hj, rfl, HP, HR, HB⟩ := hrel
          rename World => wq
          by_cases hlj : j < m
          · have hcw := HP.out.cell (i := j) (by omega)
            cases hq : v.testBit j with
            | true =>
              have hsb : sbit us j k = true := by rw [HSB.out]; exact hq
              have hp := pow_le14 k (by omega)
              have hlb := ofB_lt (sbit us j) k
              have hl2 : ofB (sbit us j) k < 16384 := Nat.lt_of_lt_of_le hlb (pow_mono14 (by omega))
              have hcell := HR.out.cell (grow5_at hlj)
              simp only [Nat.lt_irrefl, if_false] at hcell
              have hfr := HR.out.free j
              have HO : Hid (bits .or .i64 (ofB (sbit us j) k : Int) (2 ^ k) = (ofB (sbit us j) (k + 1) : Int)) := by
                show _ = _
                rw [ofB_yes hsb]
                exact or_pow hlb (by omega)
              have HS := Lib.hid (HR.out.set (j := j) (ofB (sbit us j) (k + 1) : Int))
              rw [grow5_set hlj, ← HO.out] at HS
              have HS2 : Hid (Qrow (wq.setCell ⟨w2.heap.size, j, none⟩ (.int .i64 (bits .or .i64 (ofB (sbit us j) k : Int) (2 ^ k)))) w2.heap.size (grow5 us m fun x => if x < j + 1 then k + 1 else k)) := Lib.hid (by
                have := HS.out
                rwa [grow5_ext (d := fun x => if x < j + 1 then k + 1 else k) (fun x _ => by
                  by_cases e : x = j
                  · simp [e]
                  · simp [e, show (x < j + 1) = (x < j) by rw [eq_iff_iff]; omega])] at this)
              have HB2 := Lib.hid (below_setC HB.out (g := w2.heap.size) (Nat.le_refl _) j (.int .i64 (bits .or .i64 (ofB (sbit us j) k : Int) (2 ^ k))))
              have HP2 := Lib.hid (HP.out.far (g := w2.heap.size) (fun e => hgn e.symm) j (.int .i64 (bits .or .i64 (ofB (sbit us j) k : Int) (2 ^ k))))
              rw [hq] at hcw
              clear HO HS hsb hq hlb HR HB HP
              generalize ofB (sbit us j) k = x at *
              go_wp2_with fail
              go_region_with (fail)
              all_goals
                go_wp2
                go_roundw
                case rel => exact ⟨j + 1, by omega, by go_num, Lib.hid (HP2.out.drew 1), Lib.hid HS2.out.drew, Lib.hid (below_drew1 HB2.out)⟩
                case measure => simp [intOf]; omega
            | false =>
              have hsb : sbit us j k = false := by rw [HSB.out]; exact hq
              have HS2 : Hid (Qrow wq w2.heap.size (grow5 us m fun x => if x < j + 1 then k + 1 else k)) := Lib.hid (by
                have := HR.out
                rw [grow5_no (j := j) hsb (by simp)] at this
                rwa [grow5_ext (d := fun x => if x < j + 1 then k + 1 else k) (fun x _ => by
                  by_cases e : x = j
                  · simp [e]
                  · simp [e, show (x < j + 1) = (x < j) by rw [eq_iff_iff]; omega])] at this)
              rw [hq] at hcw
              clear hsb hq HR
              go_wp2
              go_roundw
              case rel => exact ⟨j + 1, by omega, by go_num, HP, HS2, HB⟩
              case measure => simp [intOf]; omega
          · obtain rfl : j = m := by omega
            have HS2 : Hid (Qrow wq w2.heap.size (grow5 us j fun _ => k + 1)) := Lib.hid (by
              have := HR.out
              rwa [grow5_ext (d := fun _ => k + 1) (fun x hx => by simp [hx])] at this)
            go_wp2
            go_roundw
            case rel => exact ⟨k + 1, by omega, by go_num, HT2, HS2, HB⟩
            case measure => simp [intOf]; omega
      | false =>
        rw [hw] at HWk
        have HX := Lib.hid (sOK_bad hlt hw)
        have HY := Lib.hid (sAns_no HX.out)
        clear hw HT
        generalize us[k] = u at hcu HWk
        go_wp2_with fail
        refine (HWk.out _).mono ?_
        rintro e w3 ⟨rfl, rfl⟩
        go_wp2
        go_ret2
        rw [HX.out, HY.out]
        exact lans_nil HB.out
    · obtain rfl : k = us.length := by omega
      have HX := Lib.hid (HT.out.ok h1 hm)
      have HY := Lib.hid (sAns_yes HX.out)
      go_wp2
      go_ret2
      rw [HX.out, HY.out]
      exact lans_qrow (grow5_len _ _ _) rfl (Nat.le_refl _) HR.out HB.out
theorem schemeOf_both (us : List Int) (h : us.length ≤ 1048576) (m : Int) : ∃ (r0 : List Int) (r1 : Bool), r0.length ≤ 1048576 ∧
    (∀ (w : World) (B : Option Addr) (c lo hi : Nat), Ins w lo hi B us → Calls Try.prog 26 #[.slice B us.length c, .int .i64 m] w fun e w' => ∃ B c', e = .returned (.tuple #[.slice B r0.length c', .bool r1]) ∧ Res w' w.heap.size w'.heap.size B r0 ∧ Below w.heap.size w w') ∧
    (∀ (w : World) (B : Option Addr) (c lo hi : Nat), Ins w lo hi B us → Calls Try.prog 25 #[.slice B us.length c, .int .i64 m] w fun e w' => ∃ B c', e = .returned (.tuple #[.slice B r0.length c', .bool r1]) ∧ Res w' w.heap.size w'.heap.size B r0 ∧ Below w.heap.size w w') := by
  by_cases h1 : inB us.length 1 12 = true ∧ inB m 0 14 = true
  · obtain ⟨h1, h2⟩ := h1
    have h3 := inB_iff.1 h1
    have h4 := inB_iff.1 h2
    obtain ⟨j, rfl⟩ : ∃ j : Nat, m = (j : Int) := ⟨m.toNat, by omega⟩
    exact ⟨sAns us (j : Int), sOK us (j : Int), sAns_len _ _, fun w B c lo hi hS => schemeOf_impl B c lo hi us j w hS (by omega) (by omega), fun w B c lo hi hS => schemeOf_spec B c lo hi us j w hS (by omega) (by omega)⟩
  · have h2 : inB us.length 1 12 = false ∨ (inB us.length 1 12 = true ∧ inB m 0 14 = false) := by
      cases ha : inB us.length 1 12 <;> cases hb : inB m 0 14 <;> simp_all
    exact ⟨[], false, by simp, fun w B c lo hi hS => schemeOf_no B c lo hi us m w hS h2, fun w B c lo hi hS => schemeOf_spec_no B c lo hi us m w hS h2⟩
end Go.Proofs.Ythjkmfjhcohhbaa
