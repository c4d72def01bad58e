/- The map of false answers by number. -/
import Derived.Test.YtbgdnidbdfhgjabMany
import Derived.Carry
import Derived.WideMake
namespace Go.Proofs.Ytbgdnidbdfhgjab
open Go.RowKit Go.ChangeShapes Go.WideShapes Go.Maps
set_option linter.unusedVariables false

/-- What the map holds for s behind j answers and the first i numbers of the next. -/
def cnt2 (l : List (Int × Bool)) (s j i : Nat) : Nat := cntF l s j + (if s < i ∧ ((l.getD j (0, false)).2 != inQ (l.getD j (0, false)).1 s) = true then 1 else 0)
theorem cnt2_zero (l : List (Int × Bool)) (s j : Nat) : cnt2 l s j 0 = cntF l s j := by simp [cnt2]
theorem cnt2_full {l : List (Int × Bool)} {s j n : Nat} (h : s < n) : cnt2 l s j n = cntF l s (j + 1) := by simp [cnt2, cntF, h]
theorem cnt2_le (l : List (Int × Bool)) (s j i : Nat) : cnt2 l s j i ≤ j + 1 := by
  have := cntF_le l s j
  unfold cnt2
  split <;> omega
theorem cnt2_other {l : List (Int × Bool)} {s j i : Nat} (h : s ≠ i) : cnt2 l s j (i + 1) = cnt2 l s j i := by
  unfold cnt2
  have : (s < i + 1 ∧ ((l.getD j (0, false)).2 != inQ (l.getD j (0, false)).1 s) = true) ↔ (s < i ∧ ((l.getD j (0, false)).2 != inQ (l.getD j (0, false)).1 s) = true) := by
    constructor
    · intro ⟨a, b⟩; exact ⟨by omega, b⟩
    · intro ⟨a, b⟩; exact ⟨by omega, b⟩
  simp only [this]
theorem cnt2_no {l : List (Int × Bool)} {j i : Nat} (h : ((l.getD j (0, false)).2 != inQ (l.getD j (0, false)).1 i) = false) (s : Nat) : cnt2 l s j (i + 1) = cnt2 l s j i := by
  by_cases e : s = i
  · subst e; unfold cnt2; simp only [h]; simp
  · exact cnt2_other e
theorem cnt2_yes {l : List (Int × Bool)} {j i : Nat} (h : ((l.getD j (0, false)).2 != inQ (l.getD j (0, false)).1 i) = true) : cnt2 l i j (i + 1) = cnt2 l i j i + 1 := by
  unfold cnt2; simp only [h]; simp

/-- The map in block M. -/
def MapIs (w : World) (M : Nat) (l : List (Int × Bool)) (n j i : Nat) : Prop :=
  ∃ (D : DataW Unit) (N : Nat), w.ownsMap Try.prog 3 (plainElem Try.prog 3) M N D ∧ N ≤ j * 12 + i ∧ ∀ s : Nat, s < n → D.atKey (.int .i64 (s : Int)) (.lit (.int .i64 0)) = .lit (.int .i64 (cnt2 l s j i : Int))
theorem MapIs.made (w : World) (l : List (Int × Bool)) (n : Nat) : MapIs (w.alloc (.map #[] 0)) w.heap.size l n 0 0 :=
  ⟨.map [], 0, World.ownsMap_made _ _ _ _, Nat.le_refl _, fun s _ => by rw [cnt2_zero]; rfl⟩
theorem MapIs.heap {w w' : World} {M n j i : Nat} {l : List (Int × Bool)} (h : MapIs w M l n j i) (hw : w'.heap[M]? = w.heap[M]?) : MapIs w' M l n j i := by
  obtain ⟨D, N, ⟨es, clock, hb, r⟩, hN, hs⟩ := h
  exact ⟨D, N, ⟨es, clock, hw.trans hb, r⟩, hN, hs⟩
theorem MapIs.lt {w : World} {M n j i : Nat} {l : List (Int × Bool)} (h : MapIs w M l n j i) : M < w.heap.size := by
  obtain ⟨D, N, ho, _, _⟩ := h
  exact ho.lt
theorem MapIs.skip {w : World} {M n j i : Nat} {l : List (Int × Bool)} (h : MapIs w M l n j i) (hp : ((l.getD j (0, false)).2 != inQ (l.getD j (0, false)).1 i) = false) : MapIs w M l n j (i + 1) := by
  obtain ⟨D, N, ho, hN, hs⟩ := h
  exact ⟨D, N, ho, by omega, fun s h => by rw [hs s h, cnt2_no hp]⟩
theorem MapIs.next {w : World} {M n j : Nat} {l : List (Int × Bool)} (h : MapIs w M l n j n) (hn : n ≤ 12) : MapIs w M l n (j + 1) 0 := by
  obtain ⟨D, N, ho, hN, hs⟩ := h
  exact ⟨D, N, ho, by omega, fun s h => by rw [hs s h, cnt2_full h, cnt2_zero]⟩
theorem keyI (s : Nat) (h : s ≤ 12) : keyOf Try.prog 3 (.int .i64 (s : Int)) = some (.int .i64 (s : Int)) :=
  keyOf_int_mk Try.underlying3 (by
    have : ∀ s : Nat, s ≤ 12 → (Lit.int .i64 (s : Int)).wf = true := by decide +kernel
    exact this s h)
theorem keyedI : Keyed Try.prog 3 := int_keyed Try.underlying3
theorem zeroI (w : World) : (zeroValue 3).run Try.prog w = .ok (.int .i64 0) w := by kernel_rfl
theorem makeM (n : Nat) (w : World) : (Instr.makeMap 149 (some (.int .i64 (n : Int)))).run Try.prog w = .ok (.map (some w.heap.size)) (w.alloc (.map #[] 0)) := by
  simp [Instr.makeMap, run_underlying Try.underlying149, asInt, asIntOf, Result.andThen]
theorem MapIs.at_ {n j i s : Nat} {l : List (Int × Bool)} {D : DataW Unit} {c : Int} (hs : ∀ s : Nat, s < n → D.atKey (.int .i64 (s : Int)) (.lit (.int .i64 0)) = .lit (.int .i64 (cnt2 l s j i : Int))) (h : s < n) (hat : D.atKey (.int .i64 (s : Int)) (.lit (.int .i64 0)) = .lit (.int .i64 c)) : c = (cnt2 l s j i : Int) := by
  rw [hs s h] at hat
  injection hat with hat
  injection hat with _ hat
  exact hat.symm
theorem wf_small (c : Nat) (h : c ≤ 30) : (Lit.int .i64 (c : Int)).wf = true := by
  have : ∀ c : Nat, c ≤ 30 → (Lit.int .i64 (c : Int)).wf = true := by decide +kernel
  exact this c h

set_option maxRecDepth 100000 in
set_option maxHeartbeats 4000000 in
theorem falseByNumber_any (n : Nat) (A : Option Addr) (c lo hi : Nat) (l : List (Int × Bool)) (w : World) (hS : AIns w lo hi A l) (hn : n ≤ 12) (hl : l.length ≤ 20) :
    Calls Try.prog 132 #[.int .i64 (n : Int), .slice A l.length c] w fun e w' => ∃ M, e = .returned (.map (some M)) ∧ MapIs w' M l n l.length 0 ∧ Below w.heap.size w w' := by
  have HS := Lib.hid hS
  have hmm := makeM n
  clear hS
  go_enter Try.func132, Try.ntmps132
  go_wp2_with fail
  clear hmm
  go_loopw [13] (fun i wr => ∃ k : Nat, k ≤ l.length ∧ i = .int .i64 k ∧ Hid (MapIs wr w.heap.size l n k 0) ∧ Hid (Below w.heap.size w wr)) (fun i _ => l.length - (intOf i).toNat)
  case atStart => exact ⟨0, Nat.zero_le _, rfl, MapIs.made w l n, (Below.refl _ _).alloc (Nat.le_refl _) _⟩
  case round =>
    obtain ⟨k, hk, rfl, HM, HB⟩ := hrel
    by_cases hlt : k < l.length
    · obtain ⟨b, o, rfl, _, _, hc1, hc2⟩ := (HS.out.step HB.out).asks.at_ hlt
      have hg := getDA hlt
      generalize hx : l[k] = x at hc1 hc2 hg
      have HG := Lib.hid hg
      have hal := (Below.refl wr.heap.size wr).alloc (Nat.le_refl _) (.cells #[.int .i64 x.1, .bool x.2] 88)
      have HT := Lib.hid (Two.new wr (.int .i64 x.1) (.bool x.2) 88 wr.heap.size rfl)
      have HM2 := Lib.hid (HM.out.heap (hal.block _ HM.out.lt))
      have HB2 := Lib.hid (HB.out.alloc HB.out.size (.cells #[.int .i64 x.1, .bool x.2] 88))
      have hMl : w.heap.size < wr.heap.size := HM.out.lt
      clear hal hx hg HM HB
      go_wp2_with fail
      generalize wr.alloc (.cells #[.int .i64 x.1, .bool x.2] 88) = wb at HT HM2 HB2 ⊢
      generalize wr.heap.size = bx at HT hMl ⊢
      go_loopw [18] (fun i wq => ∃ i0 : Nat, i0 ≤ n ∧ i = .int .i64 i0 ∧ Hid (MapIs wq w.heap.size l n k i0) ∧ Hid (Two wq bx (.int .i64 x.1) (.bool x.2) 88) ∧ Hid (Below w.heap.size w wq)) (fun i _ => n - (intOf i).toNat)
      case atStart => exact ⟨0, Nat.zero_le _, rfl, HM2.out, HT.out, HB2.out⟩
      case round =>
        obtain ⟨i, hi, rfl, HMi, HTi, HBi⟩ := hrel
        by_cases hil : i < n
        · have h0 := HTi.out.c0
          have h1 := HTi.out.c1
          have HIF := Lib.hid (fun W => isFalse_any x.1 x.2 i W (by omega))
          cases hp : (x.2 != inQ x.1 i) with
          | false =>
            rw [hp] at HIF
            have hp' : ((l.getD k (0, false)).2 != inQ (l.getD k (0, false)).1 i) = false := by rw [HG.out]; exact hp
            have HS2 := Lib.hid (fun W (h : MapIs W w.heap.size l n k i) => h.skip hp')
            clear hp hp'
            go_wp2_with fail
            refine (HIF.out _).mono ?_
            rintro e w5 ⟨rfl, hb⟩
            have HM5 := Lib.hid (HS2.out _ (HMi.out.heap (hb.block _ HMi.out.lt)))
            have HT5 := Lib.hid (HTi.out.step hb)
            have HB5 := Lib.hid (below_trans HBi.out hb)
            clear hb
            go_wp2
            go_roundw
            case rel => exact ⟨i + 1, by omega, by go_num, HM5, HT5, HB5⟩
            case measure => simp [intOf]; omega
          | true =>
            rw [hp] at HIF
            have hp' : ((l.getD k (0, false)).2 != inQ (l.getD k (0, false)).1 i) = true := by rw [HG.out]; exact hp
            have HY := Lib.hid (cnt2_yes hp')
            have hc30 := cnt2_le l i k i
            clear hp hp'
            go_wp2_with fail
            refine (HIF.out _).mono ?_
            rintro e w5 ⟨rfl, hb⟩
            have HM5 := Lib.hid (HMi.out.heap (hb.block _ HMi.out.lt))
            have HT5 := Lib.hid (HTi.out.step hb)
            have HB5 := Lib.hid (below_trans HBi.out hb)
            clear hb
            obtain ⟨D, N, hown, hN, hs⟩ := HM5.out
            have HSS := Lib.hid hs
            have hkey := keyI i (by omega)
            have hN2 : N ≤ 300 := by omega
            clear hs
            go_wp2_with (first
              | (at_lookup; go_loud (refine wpList_lookup_own_int _ rfl _ _ 149 rfl 3 3 .i64 keyedI Try.underlying149 Try.underlying3 (zeroI _) w.heap.size N D rfl hown _ _ rfl hkey ?_; intro cc hat hwc; have hcc := MapIs.at_ HSS.out hil hat; subst hcc; clear hat hwc))
              | (at_mapUpdate; go_loud (refine wpList_mapUpdate_own _ rfl _ _ _ 149 rfl 3 3 keyedI Try.underlying149 _ w.heap.size N D rfl hown (by unfold maxLen; omega) _ _ _ rfl rfl hkey (.lit (.int .i64 ((cnt2 l i k i : Int) + 1))) [] (plainElem_int Try.underlying3 (wf_small (cnt2 l i k i + 1) (by omega))) ?_; intro w6 hown1 hgrow1)))
            have HMN : Hid (MapIs w6 w.heap.size l n k (i + 1)) := Lib.hid ⟨_, N + 1, hown1, by omega, fun s hsn => by
              by_cases e : s = i
              · subst e
                rw [atKey_put_same hown.isMap (show WideAt.IsKeyLit (.int .i64 (s : Int)) from True.intro), HY.out]
                rfl
              · rw [atKey_put_other (show (Lit.int .i64 (s : Int)) ≠ .int .i64 (i : Int) from fun h => e (by injection h with _ h; omega)), HSS.out s hsn, cnt2_other e]⟩
            have HTN := Lib.hid (show Two w6 bx (.int .i64 x.1) (.bool x.2) 88 from ⟨(hgrow1.block _ HT5.out.lt (fun h => by injection h with h; omega)).trans HT5.out.row⟩)
            have HBN := Lib.hid (HB5.out.grown hgrow1 HB5.out.size (fun q hq => by injection hq with hq; rw [← hq]; exact Nat.le_refl _))
            clear hown1 hgrow1 hown
            go_wp2
            go_roundw
            case rel => exact ⟨i + 1, by omega, by go_num, HMN, HTN, HBN⟩
            case measure => simp [intOf]; omega
        · obtain rfl : i = n := by omega
          have HMn := Lib.hid (HMi.out.next hn)
          go_wp2
          go_roundw
          case rel => exact ⟨k + 1, by omega, by go_num, HMn, HBi⟩
          case measure => simp [intOf]; omega
    · obtain rfl : k = l.length := by omega
      go_wp2
      go_ret
      exact ⟨_, rfl, HM.out, HB.out⟩
end Go.Proofs.Ytbgdnidbdfhgjab
