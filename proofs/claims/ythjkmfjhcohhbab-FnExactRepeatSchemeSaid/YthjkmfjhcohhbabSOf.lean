/- Schemes of words. -/
import Derived.Test.YthjkmfjhcohhbabTrueWs
namespace Go.Proofs.Ythjkmfjhcohhbab
open Go.RowKit Go.ChangeShapes Go.WideShapes
set_option linter.unusedVariables false

/-- Whether number k is in question j. -/
def sbit (us : List Int) (j k : Nat) : Bool := inQ (us.getD k 0) j
/-- Questions of which so many numbers have been told. -/
def grow5 (us : List Int) (m : Nat) (c : Nat → Nat) : List Int := (List.range m).map fun j => (ofB (sbit us j) (c j) : Int)
def schL (us : List Int) (m : Nat) : List Int := grow5 us m fun _ => us.length
theorem grow5_len (us : List Int) (m : Nat) (c : Nat → Nat) : (grow5 us m c).length = m := by simp [grow5]
theorem grow5_ext {us : List Int} {m : Nat} {c d : Nat → Nat} (h : ∀ j, j < m → c j = d j) : grow5 us m c = grow5 us m d := by
  unfold grow5
  exact List.map_congr_left fun j hj => by rw [h j (List.mem_range.1 hj)]
theorem grow5_at {us : List Int} {m j : Nat} {c : Nat → Nat} (h : j < m) : (grow5 us m c)[j]? = some (ofB (sbit us j) (c j) : Int) := by simp [grow5, h]
theorem grow5_set {us : List Int} {m j k : Nat} {c : Nat → Nat} (h : j < m) : (grow5 us m c).set j (ofB (sbit us j) k : Int) = grow5 us m (fun x => if x = j then k else c x) := by
  apply List.ext_getElem?
  intro i
  rw [List.getElem?_set]
  by_cases e : j = i
  · subst e
    rw [if_pos rfl, if_pos (by rw [grow5_len]; exact h), grow5_at h, if_pos rfl]
  · rw [if_neg e]
    by_cases hi : i < m
    · rw [grow5_at hi, grow5_at hi, if_neg (fun x => e x.symm)]
    · rw [List.getElem?_eq_none (by rw [grow5_len]; omega), List.getElem?_eq_none (by rw [grow5_len]; omega)]
theorem grow5_no {us : List Int} {m j k : Nat} {c : Nat → Nat} (hb : sbit us j k = false) (hc : c j = k) : grow5 us m c = grow5 us m (fun x => if x = j then k + 1 else c x) := by
  unfold grow5
  refine List.map_congr_left fun x hx => ?_
  show (ofB (sbit us x) (c x) : Int) = (ofB (sbit us x) (if x = j then k + 1 else c x) : Int)
  by_cases e : x = j
  · subst e; rw [if_pos rfl, ofB_no hb, hc]
  · rw [if_neg e]
theorem grow5_zero (us : List Int) (m : Nat) : List.replicate m (Value.int .i64 0) = (grow5 us m fun _ => 0).map (Value.int .i64) := by
  apply List.ext_getElem?
  intro i
  by_cases hi : i < m
  · rw [List.getElem?_map, grow5_at hi, List.getElem?_replicate, if_pos hi]; rfl
  · rw [List.getElem?_eq_none (by simp; omega), List.getElem?_eq_none (by simp [grow5_len]; omega)]
/-- Questions that lie in a block. -/
structure Qrow (w : World) (b : Nat) (l : List Int) : Prop where
  row : w.heap[b]? = some (.cells (l.map (Value.int .i64)).toArray 3 (0, 0))
theorem Qrow.lt {w : World} {b : Nat} {l : List Int} (h : Qrow w b l) : b < w.heap.size := row_ltI h.row
theorem Qrow.step {w w' : World} {b : Nat} {l : List Int} (h : Qrow w b l) (hb : Below w.heap.size w w') : Qrow w' b l := ⟨(hb.block b h.lt).trans h.row⟩
theorem Qrow.cell {w : World} {b j : Nat} {l : List Int} {x : Int} (h : Qrow w b l) (hx : l[j]? = some x) : w.cell? ⟨b, j, none⟩ = some (.int .i64 x) := by rw [row_cellI h.row]; simp [hx]
theorem Qrow.free {w : World} {b : Nat} {l : List Int} (h : Qrow w b l) (i : Nat) : w.frozen? ⟨b, i, none⟩ = false := row_freeI h.row i
theorem Qrow.set {w : World} {b j : Nat} {l : List Int} (h : Qrow w b l) (x : Int) : Qrow (w.setCell ⟨b, j, none⟩ (.int .i64 x)) b (l.set j x) := ⟨by
  have := row_setI h.row j (.int .i64 x)
  rw [this]
  simp⟩
theorem Qrow.far {w : World} {b g : Nat} {l : List Int} (h : Qrow w b l) (hne : b ≠ g) (i : Nat) (u : Value) : Qrow (w.setCell ⟨g, i, none⟩ u) b l := ⟨(Below.heap_setCell w ⟨g, i, none⟩ u b hne).trans h.row⟩
theorem Qrow.drew {w : World} {b : Nat} {l : List Int} (h : Qrow w b l) : Qrow w.drew b l := ⟨h.row⟩
theorem below_drew1 {B : Nat} {a w : World} (h : Below B a w) : Below B a w.drew := ⟨h.os, h.tape, h.output, h.size, h.block⟩
theorem Qrow.new (w : World) (l : List Int) : Qrow (w.alloc (.cells (l.map (Value.int .i64)).toArray 3)) w.heap.size l := ⟨alloc_row _ _ _⟩
theorem lans_qrow {w w' : World} {g c' p : Nat} {l : List Int} {e : Ending} (hl : l.length = p) (he : e = .returned (.tuple #[.slice (some ⟨g, 0, none⟩) p c', .bool true])) (hg : w.heap.size ≤ g) (hr : Qrow w' g l) (hb : Below w.heap.size w w') : LAns w l true e w' := lans_row hl he hg hr.row hb

set_option maxRecDepth 100000 in
set_option maxHeartbeats 4000000 in
theorem l5Of_any (A : Option Addr) (c lo hi : Nat) (us : List Int) (m : Nat) (w : World) (hS : Ins w lo hi A us) (hl : us.length ≤ 12) (hm : m ≤ 14) :
    Calls Try.prog 152 #[.slice A us.length c, .int .i64 (m : Int)] w fun e w' => e = .returned (.slice (some ⟨w.heap.size, 0, none⟩) m m) ∧ Qrow w' w.heap.size (schL us m) ∧ Below w.heap.size w w' := by
  have hmk := makeInts m (by omega)
  rw [grow5_zero us m] at hmk
  have HI := Lib.hid hS
  have htop := hS.top
  have HR0 := Lib.hid (Qrow.new w (grow5 us m fun _ => 0))
  have HB0 := Lib.hid ((Below.refl w.heap.size w).alloc (Nat.le_refl _) (.cells ((grow5 us m fun _ => 0).map (Value.int .i64)).toArray 3))
  clear hS
  go_enter Try.func152, Try.ntmps152
  go_wp2_with fail
  clear hmk
  generalize w.alloc (.cells ((grow5 us m fun _ => 0).map (Value.int .i64)).toArray 3) = wa at HR0 HB0 ⊢
  go_loopw [6] (fun i wr => ∃ (j : Nat), j ≤ m ∧ i = .int .i64 j ∧ Hid (Qrow wr w.heap.size (grow5 us m fun x => if x < j then us.length else 0)) ∧ Hid (Below w.heap.size w wr)) (fun i _ => m - (intOf i).toNat)
  case atStart => exact ⟨0, Nat.zero_le _, rfl, by simpa using HR0, HB0⟩
  case round =>
    clear HR0 HB0
    obtain ⟨j, hj, rfl, HR, HB⟩ := hrel
    by_cases hlt : j < m
    · go_wp2_with fail
      go_loopw [7] (fun i wr => ∃ (k : Nat), k ≤ us.length ∧ i = .int .i64 k ∧ Hid (Qrow wr w.heap.size (grow5 us m fun x => if x < j then us.length else if x = j then k else 0)) ∧ Hid (Below w.heap.size w wr)) (fun i _ => us.length - (intOf i).toNat)
      case atStart => exact ⟨0, Nat.zero_le _, rfl, by simpa using HR, HB⟩
      case round =>
        clear HR HB
        obtain ⟨k, hk, rfl, HR, HB⟩ := hrel
        by_cases hlk : k < us.length
        · obtain ⟨b, o, rfl, _, hb, hcu⟩ := (HI.out.ints.below HB.out htop).at_ hlk
          have hp := pow_le14 k (by omega)
          have hlb := ofB_lt (sbit us j) k
          have hl2 : ofB (sbit us j) k < 16384 := Nat.lt_of_lt_of_le hlb (pow_mono14 (by omega))
          have hcell := HR.out.cell (grow5_at hlt)
          simp only [Nat.lt_irrefl, if_false, if_true] at hcell
          have hfr := HR.out.free j
          cases hq : inQ us[k] j with
          | true =>
            have hsb : sbit us j k = true := by unfold sbit; rw [getD0 hlk]; exact hq
            have HO : Hid (bits .or .i64 (ofB (sbit us j) k : Int) (2 ^ k) = (ofB (sbit us j) (k + 1) : Int)) := by
              show _ = _
              rw [ofB_yes hsb]
              exact or_pow hlb (by omega)
            have HS := Lib.hid (HR.out.set (j := j) (ofB (sbit us j) (k + 1) : Int))
            rw [grow5_set hlt, ← HO.out] at HS
            have HS2 : Hid (Qrow (wr.setCell ⟨w.heap.size, j, none⟩ (.int .i64 (bits .or .i64 (ofB (sbit us j) k : Int) (2 ^ k)))) w.heap.size (grow5 us m fun x => if x < j then us.length else if x = j then k + 1 else 0)) := Lib.hid (by
              have := HS.out
              rwa [grow5_ext (d := fun x => if x < j then us.length else if x = j then k + 1 else 0) (fun x _ => by by_cases e : x = j <;> simp [e])] at this)
            have HB2 := Lib.hid (below_setC HB.out (g := w.heap.size) (Nat.le_refl _) j (.int .i64 (bits .or .i64 (ofB (sbit us j) k : Int) (2 ^ k))))
            have hbit := bit_yes hq
            clear HO HS hsb hq hlb HR HB
            generalize ofB (sbit us j) k = v at *
            generalize us[k] = q at hcu hbit
            go_wp2_with fail
            go_region_with (fail)
            all_goals
              go_wp2
              go_roundw
              case rel => exact ⟨k + 1, by omega, by go_num, Lib.hid HS2.out.drew, Lib.hid (below_drew1 HB2.out)⟩
              case measure => simp [intOf]; omega
          | false =>
            have hsb : sbit us j k = false := by unfold sbit; rw [getD0 hlk]; exact hq
            have HO : Hid (bits .or .i64 (ofB (sbit us j) k : Int) 0 = (ofB (sbit us j) (k + 1) : Int)) := by
              show _ = _
              rw [ofB_no hsb]
              exact or_zero _ hl2
            have HS := Lib.hid (HR.out.set (j := j) (ofB (sbit us j) (k + 1) : Int))
            rw [grow5_set hlt, ← HO.out] at HS
            have HS2 : Hid (Qrow (wr.setCell ⟨w.heap.size, j, none⟩ (.int .i64 (bits .or .i64 (ofB (sbit us j) k : Int) 0))) w.heap.size (grow5 us m fun x => if x < j then us.length else if x = j then k + 1 else 0)) := Lib.hid (by
              have := HS.out
              rwa [grow5_ext (d := fun x => if x < j then us.length else if x = j then k + 1 else 0) (fun x _ => by by_cases e : x = j <;> simp [e])] at this)
            have HB2 := Lib.hid (below_setC HB.out (g := w.heap.size) (Nat.le_refl _) j (.int .i64 (bits .or .i64 (ofB (sbit us j) k : Int) 0)))
            have hbit := bit_no hq
            clear HO HS hsb hq hlb HR HB
            generalize ofB (sbit us j) k = v at *
            generalize us[k] = q at hcu hbit
            go_wp2_with fail
            go_region_with (fail)
            all_goals
              go_wp2
              go_roundw
              case rel => exact ⟨k + 1, by omega, by go_num, Lib.hid HS2.out.drew, Lib.hid (below_drew1 HB2.out)⟩
              case measure => simp [intOf]; omega
        · obtain rfl : k = us.length := by omega
          have HR2 : Hid (Qrow wr w.heap.size (grow5 us m fun x => if x < j + 1 then us.length else 0)) := Lib.hid (by
            have := HR.out
            rwa [grow5_ext (d := fun x => if x < j + 1 then us.length else 0) (fun x _ => by
              by_cases e : x < j
              · simp [e, show x < j + 1 by omega]
              · by_cases e2 : x = j
                · simp [e2]
                · simp [e, e2, show ¬ x < j + 1 by omega])] at this)
          go_wp2
          go_roundw
          case rel => exact ⟨j + 1, by omega, by go_num, HR2, HB⟩
          case measure => simp [intOf]; omega
    · obtain rfl : j = m := by omega
      have HR2 : Hid (Qrow wr w.heap.size (schL us j)) := Lib.hid (by
        have := HR.out
        rwa [grow5_ext (d := fun _ => us.length) (fun x hx => by simp [hx])] at this)
      go_wp2
      go_ret
      exact ⟨rfl, HR2.out, HB.out⟩
end Go.Proofs.Ythjkmfjhcohhbab
