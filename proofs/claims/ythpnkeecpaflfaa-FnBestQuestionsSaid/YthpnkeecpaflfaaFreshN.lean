/- Needs of numbers without false answers, as a function tells them; the greatest number within so many questions. -/
import Derived.Test.YthpnkeecpaflfaaFresh
import Derived.Test.YthpnkeecpaflfaaNeedB
import Derived.Test.YthpnkeecpaflfaaBest4
import Derived.Test.YthpnkeecpaflfaaUpd
import Derived.Test.YthpnkeecpaflfaaNums
namespace Go.Proofs.Ythpnkeecpaflfaa
open Go.RowKit Go.ChangeShapes Go.WideShapes
set_option linter.unusedVariables false

def ndG (f : Nat → Int) (k : Nat) : List Int := (List.range k).map f
theorem ndG_len (f : Nat → Int) (k : Nat) : (ndG f k).length = k := by simp [ndG]
theorem row_res4 {w : World} {l : List Int} {lo g : Nat} (h : lo ≤ g) (hr : w.heap[g]? = some (.cells (l.map (Value.int .i64)).toArray 3 (0, 0))) : Res w lo w.heap.size (some ⟨g, 0, none⟩) l :=
  ⟨.inr ⟨g, _, rfl, h, row_ltI hr, hr, by simp, fun j x hx => by simp [hx]⟩, Nat.le_refl _⟩
theorem res_low {w : World} {lo lo' hi : Nat} {A : Option Addr} {l : List Int} (h : Res w lo hi A l) (hl : lo' ≤ lo) : Res w lo' hi A l :=
  ⟨h.own.imp id fun ⟨g, cur, a, b, r⟩ => ⟨g, cur, a, Nat.le_trans hl b, r⟩, h.top⟩
theorem within_one {lo hi g : Nat} {a w : World} (h : Within lo hi a w) (hg : a.heap.size ≤ g) (i : Nat) (u : Value) : Within lo hi a (w.setCell ⟨g, i, none⟩ u) :=
  ⟨h.os, h.tape, h.output, by simpa [World.setCell] using h.size, fun j hj hn => (Below.heap_setCell w ⟨g, i, none⟩ u j (fun e => by have e' : j = g := e; omega)).trans (h.block j hj hn)⟩
theorem makeTabG (f : Nat → Int) (w : World) : (Instr.makeSlice 24 (.int .i64 8) (.int .i64 8)).run Try.prog w = .ok (.slice (some ⟨w.heap.size, 0, none⟩) 8 8) (w.alloc (.cells ((upd f 8 0).map (Value.int .i64)).toArray 3)) := by
  rw [upd_zero]
  simpa using makeInts 8 (by omega) w
set_option maxRecDepth 100000 in
set_option maxHeartbeats 2000000 in
theorem freshNeeds_any (m f M : Nat) (nf : Nat → Int) (PM : World → Prop) (w : World) (hm : m ≤ 2)
    (hcf : ∀ args W, (callFunc f args).run Try.prog W = .ok (.enter f args) W)
    (hheap : ∀ W W' : World, PM W → W'.heap[M]? = W.heap[M]? → PM W') (hlt : ∀ W : World, PM W → M < W.heap.size)
    (hcall : ∀ (k : Nat), k < 8 → ∀ W : World, PM W → Calls Try.prog f #[.map (some M), .agg #[.int .i64 ((freshR m (k + 1)).1 : Int), .int .i64 ((freshR m (k + 1)).2.1 : Int), .int .i64 ((freshR m (k + 1)).2.2 : Int)]] W fun e w' => e = .returned (.int .i64 (nf k)) ∧ PM w' ∧ Within M (M + 1) W w')
    (hpm : PM w) :
    Calls Try.prog 42 #[.int .i64 (m : Int), .func (.func f) #[.map (some M)] #[]] w fun e w' => ∃ B c', e = .returned (.tuple #[.slice B (ndG nf 8).length c', .bool true]) ∧ Res w' w.heap.size w'.heap.size B (ndG nf 8) ∧ Within M (M + 1) w w' := by
  have HC := Lib.hid (fun W => isMost_any (m : Int) W)
  rw [inB_t (by omega) (by omega)] at HC
  have hms := makeTabG nf
  have HCF := Lib.hid hcf
  have HHp := Lib.hid hheap
  have HLt := Lib.hid hlt
  have HCall := Lib.hid hcall
  have HM0 := Lib.hid hpm
  have HFin : Hid ((upd nf 8 8) = ndG nf 8) := Lib.hid (upd_all nf 8)
  clear hcf hheap hlt hcall hpm
  rw [ndG_len]
  go_enter Try.func42, Try.ntmps42
  go_wp2_with fail
  refine (HC.out w).mono ?_
  rintro e w1 ⟨rfl, rfl⟩
  clear HC
  generalize hRW : ((upd nf 8 0).map (Value.int .i64)).toArray = RW at hms
  have HRW := Lib.hid hRW
  clear hRW
  have hMl := HLt.out w1 HM0.out
  go_upto_region 4 with fail
  clear hms
  have HA := (Below.refl w1.heap.size w1).alloc (Nat.le_refl _) (.cells RW 3)
  have HR := Lib.hid (alloc_row' w1 RW 3 w1.heap.size rfl)
  have HM := Lib.hid (HHp.out w1 _ HM0.out (HA.block M hMl))
  have HW : Hid (Within M (M + 1) w1 (w1.alloc (.cells RW 3))) := Lib.hid (Within.of_below HA)
  generalize w1.alloc (.cells RW 3) = wa at HR HM HW ⊢
  clear HA HM0
  rw [← HRW.out] at HR
  clear HRW
  go_wp2_with fail
  go_loopw [15] (fun i wr => ∃ (k : Nat), k ≤ 8 ∧ i = .int .i64 (k : Int) ∧ Hid (wr.heap[w1.heap.size]? = some (.cells ((upd nf 8 k).map (Value.int .i64)).toArray 3 (0, 0))) ∧ Hid (PM wr) ∧ Hid (Within M (M + 1) w1 wr)) (fun i _ => 8 - (intOf i).toNat)
  case atStart => exact ⟨0, by omega, rfl, HR, HM, HW⟩
  case round =>
    clear HR HM HW
    obtain ⟨k, hk, rfl, HR, HM, HW⟩ := hrel
    rename World => w3
    by_cases hk8 : k < 8
    · have HFk := fun W => freshCounts_any m (k + 1) W hm
      rw [show ((k + 1 : Nat) : Int) = (k : Int) + 1 from by omega] at HFk
      have HFk := Lib.hid HFk
      have HPk := Lib.hid (HCall.out k hk8)
      have hrow := HR.out
      have hcell := getD_cell hrow (i := k) (by rw [upd_len]; exact hk8)
      have HF := Lib.hid (upd_set nf 8 k)
      generalize freshR m (k + 1) = r at *
      generalize nf k = x at HF HPk
      have hgl := row_ltI hrow
      have hsB := HW.out.size
      generalize (upd nf 8 k).getD k 0 = z at hcell
      go_wp2_with fail
      refine (HFk.out w3).mono ?_
      rintro e w4 ⟨rfl, hb4⟩
      have HM4 := Lib.hid (HHp.out w3 w4 HM.out (hb4.block M (HLt.out w3 HM.out)))
      have HW4 := Lib.hid (HW.out.trans (Within.of_below hb4))
      have hrow4 := (hb4.block _ hgl).trans hrow
      have hcell4 := (hb4.cell (p := ⟨w1.heap.size, k, none⟩) hgl).trans hcell
      have hs4 := hb4.size
      clear hb4 hcell hrow HM HW HR HFk
      go_wp2_with fail
      rw [HCF.out, Oper.upon_enter]
      refine (HPk.out w4 HM4.out).mono ?_
      rintro e w5 ⟨rfl, hpm5, hw5⟩
      have hrow5 := (hw5.block w1.heap.size (by omega) (by omega)).trans hrow4
      have hcell5 := (World.cell?_of_block (a := ⟨w1.heap.size, k, none⟩) (hw5.block w1.heap.size (by omega) (by omega))).trans hcell4
      have HW5 := Lib.hid (HW4.out.trans hw5)
      have hfr := row_freeI hrow5 k
      have HR6 := Lib.hid (row_setI hrow5 k (.int .i64 x))
      rw [map_set, HF.out] at HR6
      have hne : M ≠ w1.heap.size := by omega
      have HM6 := Lib.hid (HHp.out w5 _ hpm5 (Below.heap_setCell w5 ⟨w1.heap.size, k, none⟩ (.int .i64 x) M hne))
      have HW6 := Lib.hid (within_one HW5.out (Nat.le_refl _) k (.int .i64 x))
      clear hrow5 hrow4 hcell4 HM4 HW4 HPk HF hpm5 hw5 HW5
      go_wp2
      go_roundw
      case rel => exact ⟨k + 1, by omega, by go_num, HR6, HM6, HW6⟩
      case measure => simp [intOf]; omega
    · obtain rfl : k = 8 := by omega
      rw [HFin.out] at HR
      have HRes := Lib.hid (row_res4 (Nat.le_refl w1.heap.size) HR.out)
      go_wp2
      go_ret2
      exact ⟨_, 8, rfl, HRes.out, HW.out⟩
theorem freshNeeds_no (m : Int) (f M : Nat) (w : World) (h : inB m 0 2 = false) :
    Calls Try.prog 42 #[.int .i64 m, .func (.func f) #[.map (some M)] #[]] w fun e w' => ∃ B c', e = .returned (.tuple #[.slice B 0 c', .bool false]) ∧ Res w' w.heap.size w'.heap.size B [] ∧ Below w.heap.size w w' := by
  have HC := Lib.hid (fun W => isMost_any m W)
  rw [h] at HC
  go_enter Try.func42, Try.ntmps42
  go_wp2_with (first | (go_at_call 67; refine (HC.out _).mono ?_; rintro e w1 ⟨rfl, rfl⟩))
  go_ret2
  exact ⟨_, 0, rfl, empty_res _ _ (Nat.le_refl _), (Below.refl _ _).alloc (Nat.le_refl _) _⟩

/-- The last place of the table that q questions reach, from 1; 0 where none. -/
def mbG (f : Nat → Int) (q : Int) : Nat → Int
  | 0 => 0
  | k + 1 => if f k ≤ q then (k : Int) + 1 else mbG f q k
theorem mbG_bd (f : Nat → Int) (q : Int) : ∀ k, 0 ≤ mbG f q k ∧ mbG f q k ≤ k
  | 0 => by simp [mbG]
  | k + 1 => by
    have := mbG_bd f q k
    unfold mbG
    split <;> omega
theorem mbG_above {f : Nat → Int} {j : Nat} {q : Int} (h : ∀ i, j ≤ i → i < 8 → ¬ f i ≤ q) : ∀ d, j + d ≤ 8 → mbG f q (j + d) = mbG f q j
  | 0, _ => rfl
  | d + 1, hd => by
    show (if f (j + d) ≤ q then _ else _) = _
    rw [if_neg (h (j + d) (by omega) (by omega))]
    exact mbG_above h d (by omega)
theorem mbG_eq {f : Nat → Int} {j : Nat} {q : Int} (hm : ∀ i d, i + d ≤ 7 → f i ≤ f (i + d)) (hj : j ≤ 7) (h1 : f j ≤ q) (h2 : j = 7 ∨ ¬ f (j + 1) ≤ q) : mbG f q 8 = (j : Int) + 1 := by
  have ha : mbG f q (j + 1) = (j : Int) + 1 := if_pos h1
  rw [← ha]
  obtain ⟨d, hd⟩ : ∃ d, 8 = (j + 1) + d := ⟨7 - j, by omega⟩
  have := mbG_above (f := f) (q := q) (j := j + 1) (fun i hi h8 hn => by
    rcases h2 with h2 | h2
    · omega
    · obtain ⟨e, rfl⟩ : ∃ e, i = (j + 1) + e := ⟨i - (j + 1), by omega⟩
      exact h2 (Int.le_trans (hm (j + 1) e (by omega)) hn)) d (by omega)
  rw [hd]
  exact this
set_option maxRecDepth 100000 in
set_option maxHeartbeats 2000000 in
theorem mostWithin_any (f : Nat → Int) (q : Int) (A : Option Addr) (c lo hi : Nat) (w : World) (hS : Ins w lo hi A (ndG f 8)) (hq0 : 0 ≤ q) (hq1 : q ≤ 20) :
    Calls Try.prog 39 #[.slice A (ndG f 8).length c, .int .i64 q] w fun e w' => e = .returned (.tuple #[.int .i64 (mbG f q 8), .bool true]) ∧ w' = w := by
  have HL := Lib.hid (ndG_len f 8)
  have HAt := Lib.hid (fun k (h : k < (ndG f 8).length) => show (ndG f 8)[k] = f k by simp [ndG])
  have HBd := Lib.hid (mbG_bd f q)
  have HR := Lib.hid hS
  clear hS
  rw [HL.out]
  go_enter Try.func39, Try.ntmps39
  go_wp2_with fail
  go_loopw [6, 22] (fun r i wr => ∃ (k : Nat), k ≤ 8 ∧ i = .int .i64 (k : Int) ∧ r = .int .i64 (mbG f q k) ∧ wr = w) (fun _ i _ => 8 - (intOf i).toNat)
  case atStart => exact ⟨0, by omega, rfl, rfl, rfl⟩
  case round =>
    obtain ⟨k, hk, rfl, rfl, hwr⟩ := hrel
    have hwr := hwr.symm
    subst hwr
    by_cases hlt : k < 8
    · obtain ⟨b, o, rfl, _, hb, hc⟩ := HR.out.ints.at_ (k := k) (by rw [HL.out]; exact hlt)
      rw [HAt.out k (by rw [HL.out]; exact hlt)] at hc
      have hbk := HBd.out k
      have hF : mbG f q (k + 1) = if f k ≤ q then (k : Int) + 1 else mbG f q k := rfl
      have HF := Lib.hid hF
      clear hF
      generalize f k = x at hc HF
      generalize mbG f q k = y at hbk HF ⊢
      by_cases hx : x ≤ q
      · rw [if_pos hx] at HF
        go_wp2
        go_roundw
        case rel => exact ⟨k + 1, by omega, by go_num, by rw [HF.out], by first | trivial | rfl⟩
        case measure => simp [intOf]; omega
      · rw [if_neg hx] at HF
        go_wp2
        go_roundw
        case rel => exact ⟨k + 1, by omega, by go_num, by rw [HF.out], by first | trivial | rfl⟩
        case measure => simp [intOf]; omega
    · have hk8 : k = 8 := by omega
      subst hk8
      go_wp2
      go_ret2
      exact ⟨rfl, rfl⟩
theorem mostWithin_no (A : Option Addr) (n c : Nat) (q : Int) (w : World) (hn : n ≤ 1048576) (h : n = 0 ∨ q < 0 ∨ 20 < q) :
    Calls Try.prog 39 #[.slice A n c, .int .i64 q] w fun e w' => e = .returned (.tuple #[.int .i64 0, .bool false]) ∧ w' = w := by
  rcases Nat.eq_zero_or_pos n with h0 | h0
  · subst h0
    go_enter Try.func39, Try.ntmps39
    go_wp2
    all_goals
      go_ret2
      exact ⟨rfl, rfl⟩
  · have h1 : q < 0 ∨ 20 < q := by omega
    clear h
    rcases h1 with h1 | h1
    all_goals
      go_enter Try.func39, Try.ntmps39
      go_wp2
      all_goals
        go_ret2
        exact ⟨rfl, rfl⟩
end Go.Proofs.Ythpnkeecpaflfaa
