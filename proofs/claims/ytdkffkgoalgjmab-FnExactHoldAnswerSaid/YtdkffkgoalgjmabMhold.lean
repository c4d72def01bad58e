/- The law FnExactHoldAnswer: its walk over the two functions' contracts. -/
import Derived.Test.YtdkffkgoalgjmabSplits
import Derived.Test.YtdkffkgoalgjmabYesNo
import Derived.Test.YtdkffkgoalgjmabTold
import Derived.Test.YtdkffkgoalgjmabRow5
import Derived.Test.YtdkffkgoalgjmabCounts
import Derived.Test.YtdkffkgoalgjmabL8N
import Derived.Test.YtdkffkgoalgjmabL8D
import Derived.Test.YtdkffkgoalgjmabL8Q
import Derived.Test.YtdkffkgoalgjmabRegI
import Derived.Deep.LoopGhost
import Derived.RegionTactic
namespace Go.Proofs.Ytdkffkgoalgjmab
open Go.RowKit Go.ChangeShapes Go.WideShapes
set_option linter.unusedVariables false

/-- The needs that are found behind so many rounds, by key. -/
def foundL (p rd : Nat) : List Int := (List.range (9 ^ p)).map fun k => foundAt rd k
theorem foundL_len (p rd : Nat) : (foundL p rd).length = 9 ^ p := by simp [foundL]
theorem foundL_at {p rd k : Nat} (h : k < (foundL p rd).length) : (foundL p rd)[k] = foundAt rd k := by simp [foundL]
theorem pow9 {p : Nat} (hp : 1 ≤ p ∧ p ≤ 3) : 9 ≤ 9 ^ p ∧ 9 ^ p ≤ 729 := by
  obtain rfl | rfl | rfl : p = 1 ∨ p = 2 ∨ p = 3 := by omega
  all_goals decide
theorem found_key {rd : Nat} {r : Row} (h8 : rsum r ≤ 8) : foundAt rd (keyR r) = if needR r < rd then ((needR r : Nat) : Int) else -1 := by
  unfold foundAt
  rw [rowK_key h8]
  simp [h8]
theorem found_pos {rd : Nat} {r : Row} (h8 : rsum r ≤ 8) : 0 ≤ foundAt rd (keyR r) ↔ needR r < rd := by
  rw [found_key h8]
  split
  · constructor
    · intro _; assumption
    · intro _; omega
  · constructor
    · intro h; omega
    · intro h; contradiction
theorem cnt_le {r : Row} (h8 : rsum r ≤ 8) : cntR r ≤ 48 := by
  have h := spl_ok (p := 3) (r := r) (.inr (.inr rfl)) h8
  have h2 := h.2 3 (Nat.le_refl _)
  rw [h.1, splAll_len] at h2
  exact h2

set_option maxRecDepth 100000 in
set_option maxHeartbeats 8000000 in
theorem l4Within_any (A : Option Addr) (c lo hi_ : Nat) (A2 : Option Addr) (c2 lo2 hi2 : Nat) (p rd : Nat) (r : Row) (w : World) (hS : Ins w lo hi_ A (lstR p r)) (hS2 : Ins w lo2 hi2 A2 (foundL p rd)) (hw : Wide p r) (h8 : rsum r ≤ 8) (h1 : 1 < rsum r) (hrd : 1 ≤ rd) :
    Calls Try.prog 107 #[.slice A p c, .slice A2 (9 ^ p) c2] w fun e w' => e = .returned (.bool (decide (needR r ≤ rd))) ∧ Below w.heap.size w w' := by
  have hp := hw.le
  have hp9 := pow9 hp
  have hcnt := cnt_le h8
  have HS := Lib.hid hS
  have HS2 := Lib.hid hS2
  have htop := hS.top
  have htop2 := hS2.top
  have HC := Lib.hid (fun W h => l4Splits_any A c lo hi_ p r W h hw h8)
  have HY := Lib.hid (fun i (hi : i < cntR r) B cB loB hiB W h h2 => l4Yes_any A c lo hi_ B cB loB hiB p r (splitR r i) W h h2 hw h8 (split_fits h8 hi))
  have HN := Lib.hid (fun i (hi : i < cntR r) B cB loB hiB W h h2 => l4No_any A c lo hi_ B cB loB hiB p r (splitR r i) W h h2 hw h8 (split_fits h8 hi))
  have HYK := Lib.hid (fun i (hi : i < cntR r) B cB loB hiB W h => l4Key_any B cB loB hiB p (yesR r (splitR r i)) W h (yes_wide hw (split_fits h8 hi)).1 (yes_sum h8 (split_fits h8 hi)).1)
  have HNK := Lib.hid (fun i (hi : i < cntR r) B cB loB hiB W h => l4Key_any B cB loB hiB p (noR r (splitR r i)) W h (yes_wide hw (split_fits h8 hi)).2 (yes_sum h8 (split_fits h8 hi)).2)
  have HYP := Lib.hid (fun i (hi : i < cntR r) => And.intro (found_pos (rd := rd) (yes_sum h8 (split_fits h8 hi)).1) (key_lt (yes_wide hw (split_fits h8 hi)).1 (yes_sum h8 (split_fits h8 hi)).1))
  have HNP := Lib.hid (fun i (hi : i < cntR r) => And.intro (found_pos (rd := rd) (yes_sum h8 (split_fits h8 hi)).2) (key_lt (yes_wide hw (split_fits h8 hi)).2 (yes_sum h8 (split_fits h8 hi)).2))
  have HW := Lib.hid (within_iff h8 h1 hrd)
  have HAL := Lib.hid (splAll_len p r)
  have HFL := Lib.hid (foundL_len p rd)
  have HLW := Lib.hid (fun i (hi : i < cntR r) => And.intro (lst_len hp (yesR r (splitR r i))) (lst_len hp (noR r (splitR r i))))
  have HLS := Lib.hid (fun i => lst_len hp (splitR r i))
  clear hS hS2 hw
  go_enter Try.func107, Try.ntmps107
  go_wp2_with fail
  refine (HC.out w HS.out).mono ?_
  rintro e w1 ⟨v1, rfl, hrows, hb⟩
  have HB1 := Lib.hid hb
  obtain ⟨Ao, co, rfl⟩ := hrows.slice
  have HR := Lib.hid hrows
  rw [HAL.out]
  clear hb hrows HC
  go_wp2_with fail
  go_loopw [6] (fun i wr => ∃ (x : Nat), x ≤ cntR r ∧ i = .int .i64 x ∧ Hid (∀ j, j < x → ¬ (needR (yesR r (splitR r j)) < rd ∧ needR (noR r (splitR r j)) < rd)) ∧ Hid (Below w1.heap.size w1 wr)) (fun i _ => cntR r - (intOf i).toNat)
  case atStart => exact ⟨0, Nat.zero_le _, rfl, Lib.hid (fun j h => absurd h (by omega)), Lib.hid (Below.refl _ _)⟩
  case round =>
    obtain ⟨x, hx, rfl, HF, HB⟩ := hrel
    rename World => w2
    have HB2 := Lib.hid (below_trans HB1.out HB.out)
    have hs2 := HB2.out.size
    by_cases hlt : x < cntR r
    · have HRx := HR.out.past (Past.of_below HB.out)
      obtain ⟨gb, cap, ge, ce, hve, hcell, hge, hOw⟩ := HRx.at_ (i := x) (by rw [HAL.out]; exact hlt)
      injection hve with hA hl hcap
      subst hA hcap
      rw [splAll_at, HLS.out] at hcell
      rw [splAll_at] at hOw
      clear hl
      have HOw := Lib.hid (Ins.mk hOw.ints (own_lt hOw))
      have HS_ := Lib.hid (HS.out.step HB2.out)
      have HS2_ := Lib.hid (HS2.out.step HB2.out)
      have hYP := HYP.out x hlt
      have hNP := HNP.out x hlt
      have HYx := Lib.hid (HY.out x hlt)
      have HNx := Lib.hid (HN.out x hlt)
      have HYKx := Lib.hid (HYK.out x hlt)
      have HNKx := Lib.hid (HNK.out x hlt)
      have HL1 := Lib.hid (HLW.out x hlt).1
      have HL2 := Lib.hid (HLW.out x hlt).2
      have HF2 : Hid (¬ (needR (yesR r (splitR r x)) < rd ∧ needR (noR r (splitR r x)) < rd) → ∀ j, j < x + 1 → ¬ (needR (yesR r (splitR r j)) < rd ∧ needR (noR r (splitR r j)) < rd)) := Lib.hid (fun h j hj => by
        by_cases e : j = x
        · subst e; exact h
        · exact HF.out j (by omega))
      have HWx : Hid (needR (yesR r (splitR r x)) < rd ∧ needR (noR r (splitR r x)) < rd → decide (needR r ≤ rd) = true) := Lib.hid (fun h => decide_eq_true (HW.out.1 ⟨x, hlt, h.1, h.2⟩))
      generalize hyk : keyR (yesR r (splitR r x)) = ky at hYP HYKx
      generalize hnk : keyR (noR r (splitR r x)) = kn at hNP HNKx
      generalize yesR r (splitR r x) = Y at HYx HYKx HL1 HF2 HWx hYP
      generalize noR r (splitR r x) = N at HNx HNKx HL2 HF2 HWx hNP
      generalize needR Y = ny at HF2 HWx hYP
      generalize needR N = nn at HF2 HWx hNP
      clear hyk hnk HRx hOw HF HY HN HYK HNK HYP HNP
      go_wp2_with fail
      refine (HYx.out (some ⟨ge, 0, none⟩) ce ge (ge + 1) w2 HS_.out HOw.out).mono ?_
      rintro e w3 ⟨g3, c3, rfl, hg3, ho3, hb3⟩
      have HO3 := Lib.hid (Ins.mk ho3.ints (own_lt ho3))
      have HB3 := Lib.hid hb3
      have HS3 := Lib.hid (HS_.out.step hb3)
      have HS23 := Lib.hid (HS2_.out.step hb3)
      have HOw3 := Lib.hid (HOw.out.step hb3)
      obtain ⟨b2, o2, hA2, _, hbb, hc2⟩ := HS23.out.ints.at_ (k := ky) (by rw [HFL.out]; exact hYP.2)
      subst hA2
      rw [foundL_at] at hc2
      obtain ⟨b2', o2', hA2', _, hbb', hc2'⟩ := HS23.out.ints.at_ (k := kn) (by rw [HFL.out]; exact hNP.2)
      injection hA2' with hA2'
      injection hA2' with e1 e2
      subst e1 e2
      rw [foundL_at] at hc2'
      have HCb := Lib.hid hc2'
      have hcell3 := (hb3.cell (p := ⟨gb, x, none⟩) (by
        have := hcell
        simp only [World.cell?] at this
        rcases Nat.lt_or_ge gb w2.heap.size with h1 | h1
        · exact h1
        · simp [Array.getElem?_eq_none h1] at this)).trans hcell
      clear ho3 hb3 HYx hc2'
      generalize foundAt rd ky = fy at hc2 hYP
      generalize foundAt rd kn = fn at HCb hNP
      go_wp2_with fail
      refine (HYKx.out (some ⟨g3, 0, none⟩) c3 g3 (g3 + 1) w3 HO3.out).mono ?_
      rintro e w4 ⟨rfl, rfl⟩
      have hkyI : (ky : Int) < ((9 ^ p : Nat) : Int) := by have := hYP.2; omega
      have hknI : (kn : Int) < ((9 ^ p : Nat) : Int) := by have := hNP.2; omega
      by_cases hfy : 0 ≤ fy
      · have hny := hYP.1.1 hfy
        go_wp2_with fail
        refine (HNx.out (some ⟨ge, 0, none⟩) ce ge (ge + 1) w4 HS3.out HOw3.out).mono ?_
        rintro e w5 ⟨g5, c5, rfl, hg5, ho5, hb5⟩
        have HO5 := Lib.hid (Ins.mk ho5.ints (own_lt ho5))
        have hc5 := (hb5.cell (p := ⟨b2, o2 + kn, none⟩) (by have := HS23.out.top; show b2 < _; omega)).trans HCb.out
        have HB5 := Lib.hid (below_trans HB3.out hb5)
        clear ho5 hb5 HNx
        go_wp2_with fail
        refine (HNKx.out (some ⟨g5, 0, none⟩) c5 g5 (g5 + 1) w5 HO5.out).mono ?_
        rintro e w6 ⟨rfl, rfl⟩
        by_cases hfn : 0 ≤ fn
        · have E := Lib.hid (HWx.out ⟨hny, hNP.1.1 hfn⟩)
          go_wp2
          go_ret
          exact ⟨by rw [E.out]; rfl, below_trans HB2.out HB5.out⟩
        · have HF3 := Lib.hid (HF2.out (fun h => hfn (hNP.1.2 h.2)))
          go_wp2
          go_roundw
          case rel => exact ⟨x + 1, by omega, by go_num, HF3, Lib.hid (below_trans HB.out HB5.out)⟩
          case measure => simp [intOf]; omega
      · have HF3 := Lib.hid (HF2.out (fun h => hfy (hYP.1.2 h.1)))
        go_wp2
        go_roundw
        case rel => exact ⟨x + 1, by omega, by go_num, HF3, Lib.hid (below_trans HB.out HB3.out)⟩
        case measure => simp [intOf]; omega
    · obtain rfl : x = cntR r := by omega
      have E : Hid (decide (needR r ≤ rd) = false) := Lib.hid (decide_eq_false (fun h => by
        obtain ⟨i, hi, h2⟩ := HW.out.2 h
        exact HF.out i hi h2))
      go_wp2
      go_ret
      exact ⟨by rw [E.out]; rfl, HB2.out⟩
end Go.Proofs.Ytdkffkgoalgjmab
namespace Go.Proofs.Ytdkffkgoalgjmab
open Go.RowKit Go.ChangeShapes Go.WideShapes
set_option linter.unusedVariables false

def fndT (top rd : Nat) : List Int := (List.range top).map fun k => foundAt rd k
theorem fndT_len (top rd : Nat) : (fndT top rd).length = top := by simp [fndT]
/-- The first k keys of the first round. -/
def n1To (top k : Nat) : List Int := (List.range top).map fun j => if j < k then foundAt 1 j else 0
theorem n1To_len (top k : Nat) : (n1To top k).length = top := by simp [n1To]
theorem n1To_zero (top : Nat) : n1To top 0 = List.replicate top 0 := by
  apply List.ext_getElem
  · simp [n1To]
  · intro j h1 h2; simp [n1To]
theorem n1To_all (top : Nat) : n1To top top = fndT top 1 := by
  apply List.ext_getElem
  · simp [n1To, fndT]
  · intro j h1 h2
    have : j < top := by simpa [n1To] using h1
    simp [n1To, fndT, this]
theorem n1To_set (top k : Nat) : (n1To top k).set k (foundAt 1 k) = n1To top (k + 1) := by
  apply List.ext_getElem
  · simp [n1To]
  · intro j h1 h2
    rw [List.getElem_set]
    by_cases h : k = j
    · subst h; simp [n1To]
    · rw [if_neg h]
      simp only [n1To, List.getElem_map, List.getElem_range]
      by_cases h3 : j < k
      · rw [if_pos h3, if_pos (by omega)]
      · rw [if_neg h3, if_neg (by omega)]
theorem found_one (k : Nat) : foundAt 1 k = if rsum (rowK k) ≤ 1 then 0 else -1 := by
  unfold foundAt
  by_cases h : rsum (rowK k) ≤ 1
  · rw [if_pos h, if_pos ⟨by omega, by rw [need_told h]; omega⟩, need_told h]; rfl
  · rw [if_neg h, if_neg]
    rintro ⟨h8, h2⟩
    have := need_pos (r := rowK k) (by omega) h8
    omega
theorem left_told {k : Nat} (h : rsum (rowK k) ≤ 1) : leftK 1 (k + 1) = leftK 1 k := by
  show leftK 1 k ++ _ = _
  rw [if_neg (by rw [need_told h]; omega), List.append_nil]
theorem left_no {k : Nat} (h : ¬ rsum (rowK k) ≤ 8) : leftK 1 (k + 1) = leftK 1 k := by
  show leftK 1 k ++ _ = _
  rw [if_neg (fun q => h q.1), List.append_nil]
theorem left_yes {k : Nat} (h : ¬ rsum (rowK k) ≤ 1) (h8 : rsum (rowK k) ≤ 8) : leftK 1 (k + 1) = leftK 1 k ++ [(k : Int)] := by
  show leftK 1 k ++ _ = _
  rw [if_pos ⟨h8, need_pos (by omega) h8⟩]
theorem mem_left {rd : Nat} : ∀ {top j : Nat}, (j : Int) ∈ leftK rd top ↔ j < top ∧ rsum (rowK j) ≤ 8 ∧ rd ≤ needR (rowK j)
  | 0, j => by simp [leftK]
  | t + 1, j => by
    unfold leftK
    rw [List.mem_append, mem_left]
    by_cases h : rsum (rowK t) ≤ 8 ∧ rd ≤ needR (rowK t)
    · rw [if_pos h]
      simp only [List.mem_singleton]
      constructor
      · rintro (⟨h1, h2⟩ | e)
        · exact ⟨by omega, h2⟩
        · have e : j = t := by omega
          subst e
          exact ⟨by omega, h⟩
      · rintro ⟨h1, h2⟩
        by_cases e : j = t
        · exact .inr (by omega)
        · exact .inl ⟨by omega, h2⟩
    · rw [if_neg h]
      simp only [List.not_mem_nil, or_false]
      constructor
      · rintro ⟨h1, h2⟩; exact ⟨by omega, h2⟩
      · rintro ⟨h1, h2⟩
        refine ⟨?_, h2⟩
        by_cases e : j = t
        · subst e; exact absurd h2 h
        · omega
def isF (rd : Nat) (x : Int) : Bool := decide (needR (rowK x.toNat) ≤ rd)
def fTo (rd top i : Nat) : List Int := ((leftK rd top).take i).filter (isF rd)
def mTo (rd top i : Nat) : List Int := ((leftK rd top).take i).filter (fun x => !isF rd x)
theorem fTo_yes {rd top i : Nat} (hi : i < (leftK rd top).length) (h : isF rd (leftK rd top)[i] = true) : fTo rd top (i + 1) = fTo rd top i ++ [(leftK rd top)[i]] ∧ mTo rd top (i + 1) = mTo rd top i := by
  unfold fTo mTo
  rw [List.take_succ_eq_append_getElem hi, List.filter_append, List.filter_append]
  simp [h]
theorem fTo_no {rd top i : Nat} (hi : i < (leftK rd top).length) (h : isF rd (leftK rd top)[i] = false) : fTo rd top (i + 1) = fTo rd top i ∧ mTo rd top (i + 1) = mTo rd top i ++ [(leftK rd top)[i]] := by
  unfold fTo mTo
  rw [List.take_succ_eq_append_getElem hi, List.filter_append, List.filter_append]
  simp [h]
theorem fTo_len (rd top i : Nat) : (fTo rd top i).length ≤ top ∧ (mTo rd top i).length ≤ top := by
  have h1 := left_len rd top
  have h2 := List.length_filter_le (isF rd) ((leftK rd top).take i)
  have h3 := List.length_filter_le (fun x => !isF rd x) ((leftK rd top).take i)
  have h4 : ((leftK rd top).take i).length ≤ (leftK rd top).length := by rw [List.length_take]; omega
  unfold fTo mTo
  omega
theorem mTo_all (rd top : Nat) : mTo rd top (leftK rd top).length = leftK (rd + 1) top := by
  unfold mTo
  rw [List.take_length, ← left_filter]
  apply List.filter_congr
  intro x _
  unfold isF
  rw [Bool.eq_iff_iff]
  simp
/-- The needs while those that are found are being told: the first i are. -/
def sTo (rd top i : Nat) : List Int := (List.range top).map fun (j : Nat) => if (j : Int) ∈ (fTo rd top (leftK rd top).length).take i then ((rd : Nat) : Int) else foundAt rd j
theorem sTo_len (rd top i : Nat) : (sTo rd top i).length = top := by simp [sTo]
theorem sTo_zero (rd top : Nat) : sTo rd top 0 = fndT top rd := by simp [sTo, fndT]
theorem f_mem {rd top : Nat} {x : Int} (h : x ∈ fTo rd top (leftK rd top).length) : ∃ k : Nat, x = (k : Int) ∧ k < top ∧ rsum (rowK k) ≤ 8 ∧ needR (rowK k) = rd := by
  unfold fTo at h
  rw [List.take_length, List.mem_filter] at h
  obtain ⟨k, rfl, h1, h2, h3⟩ := left_mem h.1
  refine ⟨k, rfl, h1, h2, ?_⟩
  have := h.2
  simp only [isF, Int.toNat_natCast, decide_eq_true_eq] at this
  omega
theorem sTo_set {rd top i k : Nat} (hi : i < (fTo rd top (leftK rd top).length).length) (hk : (fTo rd top (leftK rd top).length)[i] = (k : Int)) : (sTo rd top i).set k ((rd : Nat) : Int) = sTo rd top (i + 1) := by
  apply List.ext_getElem
  · simp [sTo]
  · intro j h1 h2
    rw [List.getElem_set]
    simp only [sTo, List.getElem_map, List.getElem_range]
    rw [List.take_succ_eq_append_getElem hi, hk]
    by_cases h : k = j
    · subst h; simp
    · rw [if_neg h]
      have : ¬ ((j : Int) = (k : Int)) := by omega
      simp [this]
theorem sTo_all {rd top : Nat} : sTo rd top (fTo rd top (leftK rd top).length).length = fndT top (rd + 1) := by
  apply List.ext_getElem
  · simp [sTo, fndT]
  · intro j h1 h2
    have hj : j < top := by simpa [sTo] using h1
    simp only [sTo, fndT, List.getElem_map, List.getElem_range, List.take_length]
    by_cases h : (j : Int) ∈ fTo rd top (leftK rd top).length
    · rw [if_pos h]
      obtain ⟨k, e, _, h8, hn⟩ := f_mem h
      have e : j = k := by omega
      subst e
      unfold foundAt
      rw [if_pos ⟨h8, by omega⟩, hn]
    · rw [if_neg h]
      unfold foundAt
      by_cases h3 : rsum (rowK j) ≤ 8 ∧ needR (rowK j) < rd
      · rw [if_pos h3, if_pos ⟨h3.1, by omega⟩]
      · rw [if_neg h3, if_neg]
        rintro ⟨h8, hn⟩
        refine h ?_
        unfold fTo
        rw [List.take_length, List.mem_filter, mem_left]
        refine ⟨⟨hj, h8, by omega⟩, ?_⟩
        simp only [isF, Int.toNat_natCast, decide_eq_true_eq]
        omega
theorem comp_key {k : Nat} (hk : k < 729) (i : Nat) : compR (rowK k) i ≤ 8 := by
  match i with
  | 0 => simp only [compR, rowK]; omega
  | 1 => simp only [compR, rowK]; omega
  | _ + 2 => simp only [compR, rowK]; omega
end Go.Proofs.Ytdkffkgoalgjmab
namespace Go.Proofs.Ytdkffkgoalgjmab
open Go.RowKit Go.ChangeShapes Go.WideShapes
set_option linter.unusedVariables false

theorem ownsRow_within {w w' : World} {B n lo hi : Nat} {v : Value} {e : TypeId} {xs : List Value} (h : w.ownsRow B e 1 v n xs) (hw : Within lo hi w w') (hB : hi ≤ B) : w'.ownsRow B e 1 v n xs :=
  ⟨h.1, h.2.imp id fun ⟨g, cap, cur, a, b, hg, r⟩ => ⟨g, cap, cur, a, b, (hw.block g (row_ltI hg) (.inr (by omega))).trans hg, r⟩⟩
theorem ownsRow_slice {w : World} {B n : Nat} {v : Value} {e : TypeId} {xs : List Value} (h : w.ownsRow B e 1 v n xs) : ∃ A c, v = .slice A n c := by
  rcases h.2 with ⟨rfl, h0⟩ | ⟨g, cap, cur, rfl, _⟩
  · exact ⟨none, 0, by rw [h0]⟩
  · exact ⟨_, cap, rfl⟩
theorem ownsRow_at {w : World} {B n k : Nat} {v : Value} {zs : List Int} (h : w.ownsRow B 3 1 v n (zs.map (Value.int .i64))) (hk : k < zs.length) : ∃ g cap, v = .slice (some ⟨g, 0, none⟩) n cap ∧ B ≤ g ∧ w.cell? ⟨g, k, none⟩ = some (.int .i64 zs[k]) := by
  have hn : n = zs.length := by have := h.1; simp at this; omega
  obtain ⟨g, c, hv, hb, ho⟩ := own_rowS (zs := zs) h hn (by omega)
  have := own_cell ho hk
  rw [show zs.getD k 0 = zs[k] by simp [List.getD, hk]] at this
  exact ⟨g, c, by rw [hv, hn], hb, this⟩
/-- The blocks of two rows are apart, and there. -/
structure Apart (w : World) (v v' : Value) : Prop where
  ne : v.ownBlock ≠ v'.ownBlock
  l : ∀ q, v.ownBlock = some q → q < w.heap.size
  r : ∀ q, v'.ownBlock = some q → q < w.heap.size
theorem Apart.size {w w' : World} {v v' : Value} (h : Apart w v v') (hs : w.heap.size ≤ w'.heap.size) : Apart w' v v' := ⟨h.ne, fun q e => Nat.lt_of_lt_of_le (h.l q e) hs, fun q e => Nat.lt_of_lt_of_le (h.r q e) hs⟩
theorem ownsRow_other {w w' : World} {B n : Nat} {v : Value} {e : TypeId} {xs : List Value} {q : Option Nat} (h : w.ownsRow B e 1 v n xs) (hg : w.grownBy w' q) (hne : v.ownBlock ≠ q) : w'.ownsRow B e 1 v n xs :=
  ⟨h.1, h.2.imp id fun ⟨g, cap, cur, a, b, hr, r⟩ => ⟨g, cap, cur, a, b, (hg.block g (row_ltI hr) (fun e => hne (by rw [a]; exact e))).trans hr, r⟩⟩

theorem ownsRow_cell {w : World} {B n g c k : Nat} {zs : List Int} (h : w.ownsRow B 3 1 (.slice (some ⟨g, 0, none⟩) n c) n (zs.map (Value.int .i64))) (hk : k < zs.length) : w.cell? ⟨g, k, none⟩ = some (.int .i64 zs[k]) := by
  obtain ⟨g', c', e, _, hc⟩ := ownsRow_at h hk
  injection e with e
  injection e with e
  injection e with e _
  subst e
  exact hc
theorem apart_next {w w' : World} {v v' : Value} {g n c H : Nat} (h : Apart w v v') (hb : v.ownBlock = some g ∨ g = H) (hH : w.heap.size = H) (hg : g < w'.heap.size) (hs : w.heap.size ≤ w'.heap.size) : Apart w' (.slice (some ⟨g, 0, none⟩) n c) v' :=
  ⟨fun e => by
    rcases hb with hb | hb
    · exact h.ne (hb.trans e)
    · have := h.r g e.symm
      omega, fun q e => by
    have e : g = q := by injection e
    omega, fun q e => Nat.lt_of_lt_of_le (h.r q e) hs⟩
theorem Apart.symm {w : World} {v v' : Value} (h : Apart w v v') : Apart w v' v := ⟨fun e => h.ne e.symm, h.r, h.l⟩
theorem fnd_done {rd top : Nat} (h : leftK rd top = []) (hr : rd ≤ 10) : fndT top rd = fndT top 10 := by
  apply List.ext_getElem
  · simp [fndT]
  · intro j h1 h2
    have hj : j < top := by simpa [fndT] using h1
    simp only [fndT, List.getElem_map, List.getElem_range]
    unfold foundAt
    by_cases h8 : rsum (rowK j) ≤ 8
    · have hn : needR (rowK j) < rd := by
        rcases Nat.lt_or_ge (needR (rowK j)) rd with h3 | h3
        · exact h3
        · have : (j : Int) ∈ leftK rd top := mem_left.2 ⟨hj, h8, h3⟩
          rw [h] at this; cases this
      rw [if_pos ⟨h8, hn⟩, if_pos ⟨h8, by omega⟩]
    · rw [if_neg (fun q => h8 q.1), if_neg (fun q => h8 q.1)]

set_option maxRecDepth 100000 in
set_option maxHeartbeats 16000000 in
theorem l4Needs_any (p : Nat) (w : World) (hp : 1 ≤ p ∧ p ≤ 3) :
    Calls Try.prog 58 #[.int .i64 (p : Int)] w fun e w' => ∃ g c, e = .returned (.slice (some ⟨g, 0, none⟩) (9 ^ p) c) ∧ w.heap.size ≤ g ∧ Own w' g (g + 1) (some ⟨g, 0, none⟩) (foundL p 10) ∧ Below w.heap.size w w' := by
  obtain ⟨i0, hi0, hz0, hz1, hz2⟩ := info_parts infoI3
  have hp9 := pow9 hp
  go_enter Try.func58, Try.ntmps58
  go_wp2_with fail
  go_loopw [3, 4] (fun s i wr => ∃ (k x : Nat), k ≤ p ∧ i = .int .i64 k ∧ s = .int .i64 (x : Int) ∧ Hid (x = 9 ^ k) ∧ x ≤ 729 ∧ wr = w) (fun _ i _ => p - (intOf i).toNat)
  case atStart => exact ⟨0, 1, Nat.zero_le _, rfl, rfl, rfl, by omega, by first | trivial | rfl⟩
  case round =>
    obtain ⟨k, x, hk, rfl, rfl, HX, hx, hwr⟩ := hrel
    have hwr := hwr.symm
    subst hwr
    by_cases hlt : k < p
    · have HX2 : Hid (x * 9 = 9 ^ (k + 1)) := Lib.hid (by rw [HX.out, Nat.pow_succ])
      have hx2 : x * 9 ≤ 729 := by
        rw [HX2.out]
        exact Nat.le_trans (Nat.pow_le_pow_right (by omega) (show k + 1 ≤ 3 by omega)) (by decide)
      go_wp2
      go_roundw
      case rel => exact ⟨k + 1, x * 9, by omega, by go_num, by simp, HX2, hx2, by first | trivial | rfl⟩
      case measure => simp [intOf]; omega
    · obtain rfl : k = p := by omega
      have hkp := hp
      have hx9 : 9 ≤ x ∧ x ≤ 729 := by rw [← HX.out] at hp9; exact hp9
      have HFR : Hid (∀ rd, fndT x rd = foundL k rd) := Lib.hid (fun rd => by rw [HX.out]; rfl)
      have hmk := fun W => makeInts x (by omega) W
      simp only [List.toArray_replicate] at hmk
      have HO0 : Hid (Own (w.alloc (.cells (Array.replicate x (Value.int .i64 0)) 3)) w.heap.size (w.heap.size + 1) (some ⟨w.heap.size, 0, none⟩) (n1To x 0)) := Lib.hid (by
        rw [n1To_zero]
        have := Own.new w (List.replicate x 0) w.heap.size (w.heap.size + 1) (Nat.le_refl _) (Nat.lt_succ_self _)
        simpa using this)
      have B1 := (Below.refl w.heap.size w).alloc (Nat.le_refl _) (.cells (Array.replicate x (Value.int .i64 0)) 3)
      have HB0 := Lib.hid (B1.alloc B1.size (.cells #[] 3))
      have HO1 := Lib.hid (own_same HO0.out (((Below.refl _ (w.alloc (.cells (Array.replicate x (Value.int .i64 0)) 3))).alloc (Nat.le_refl _) (.cells #[] 3)).block _ (own_lt HO0.out)))
      have HL0 : Hid (((w.alloc (.cells (Array.replicate x (Value.int .i64 0)) 3)).alloc (.cells #[] 3)).ownsRow (w.heap.size + 1) 3 1 (.slice (some ⟨w.heap.size + 1, 0, none⟩) 0 0) (leftK 1 0).length ((leftK 1 0).map (Value.int .i64))) := Lib.hid (by
        have := O0_any (w.alloc (.cells (Array.replicate x (Value.int .i64 0)) 3)) (w.heap.size + 1) (by simp)
        simpa [leftK] using this)
      clear B1 HO0 hp9
      go_wp2_with fail
      clear hmk
      generalize (w.alloc (.cells (Array.replicate x (Value.int .i64 0)) 3)).alloc (.cells #[] 3) = wb at HB0 HO1 HL0 ⊢
      generalize (Value.slice (some ⟨w.heap.size + 1, 0, none⟩) 0 0) = v0 at HL0 ⊢
      go_loopw [6, 7] (fun v i wr => ∃ (t : Nat), t ≤ x ∧ i = .int .i64 t ∧ Hid (Own wr w.heap.size (w.heap.size + 1) (some ⟨w.heap.size, 0, none⟩) (n1To x t)) ∧ Hid (wr.ownsRow (w.heap.size + 1) 3 1 v (leftK 1 t).length ((leftK 1 t).map (Value.int .i64))) ∧ Hid (Below w.heap.size w wr)) (fun _ i _ => x - (intOf i).toNat)
      case atStart => exact ⟨0, Nat.zero_le _, rfl, HO1, HL0, HB0⟩
      case round =>
        clear HO1 HL0 HB0
        obtain ⟨t, ht, rfl, HO, HLf, HB⟩ := hrel
        rename World => w1
        by_cases htl : t < x
        · have hll := left_len 1 t
          have hc0 := own_cell HO.out (k := t) (by rw [n1To_len]; exact htl)
          have hf0 := own_free HO.out t
          have HOa := Lib.hid (own_set HO.out (k := t) (by rw [n1To_len]; exact htl) (-1))
          have HWa := Lib.hid (within_set (Within.refl w.heap.size (w.heap.size + 1) w1) (Nat.le_refl _) (Nat.lt_succ_self _) t (.int .i64 (-1)))
          have HLa := Lib.hid (ownsRow_within HLf.out HWa.out (Nat.le_refl _))
          have HBa := Lib.hid (HB.out.trans (HWa.out.below (Nat.le_refl _) HB.out.size))
          have HC := Lib.hid (fun W => l4Counted_any k t W hkp (by omega))
          have HTd := Lib.hid (fun B cB lo hi W h => l4Told_any B cB lo hi k (rowK t) W h (key_wide hkp (by rw [← HX.out]; exact htl)) (comp_key (by omega)))
          have HCn := Lib.hid (fun B cB lo hi W h => l4Counts_any B cB lo hi (lstR k (rowK t)) W h (by have := lst_short k (rowK t); omega))
          have HLN := Lib.hid (lst_len hkp (rowK t))
          have HCK := Lib.hid (cOK_iff_row (r := rowK t) (key_wide hkp (by rw [← HX.out]; exact htl)))
          rw [HLN.out] at HCn
          have HSt := Lib.hid (n1To_set x t)
          have HF1 := Lib.hid (found_one t)
          generalize (n1To x t).getD t 0 = z0 at hc0
          clear HO HLf HB
          go_wp2_with fail
          generalize w1.setCell ⟨w.heap.size, t, none⟩ (.int .i64 (-1)) = w2 at HOa HWa HLa HBa ⊢
          refine (HC.out w2).mono ?_
          rintro e w3 ⟨g3, rfl, hg3, ho3, hb3⟩
          have HO3 := Lib.hid (Ins.mk ho3.ints (own_lt ho3))
          have hlt2 := own_lt HOa.out
          have HOb := Lib.hid (own_same HOa.out (hb3.block _ hlt2))
          have HLb := Lib.hid (ownsRow_past HLa.out (Past.of_below hb3))
          have HBb := Lib.hid (below_trans HBa.out hb3)
          clear ho3 hb3 HC HOa HLa HWa HBa hc0 hf0
          go_wp2_with fail
          refine (HTd.out (some ⟨g3, 0, none⟩) k g3 (g3 + 1) w3 HO3.out).mono ?_
          rintro e w4 ⟨rfl, rfl⟩
          by_cases hT : rsum (rowK t) ≤ 1
          · have HLt := Lib.hid (left_told hT)
            rw [decide_eq_true hT]
            have hc1 := own_cell HOb.out (k := t) (by rw [List.length_set, n1To_len]; exact htl)
            have hf1 := own_free HOb.out t
            have HOc := Lib.hid (own_set HOb.out (k := t) (by rw [List.length_set, n1To_len]; exact htl) 0)
            rw [List.set_set, show (0 : Int) = foundAt 1 t from by rw [HF1.out, if_pos hT], HSt.out] at HOc
            have HWc := Lib.hid (within_set (Within.refl w.heap.size (w.heap.size + 1) w4) (Nat.le_refl _) (Nat.lt_succ_self _) t (.int .i64 0))
            have HLc := Lib.hid (ownsRow_within HLb.out HWc.out (Nat.le_refl _))
            have HBc := Lib.hid (HBb.out.trans (HWc.out.below (Nat.le_refl _) HBb.out.size))
            generalize ((n1To x t).set t (-1)).getD t 0 = z1 at hc1
            have hz : foundAt 1 t = 0 := by rw [HF1.out, if_pos hT]
            rw [hz] at HOc
            clear hz
            go_wp2
            go_roundw
            case rel => exact ⟨t + 1, by omega, by go_num, HOc, by rw [HLt.out]; exact HLc, HBc⟩
            case measure => simp [intOf]; omega
          · rw [decide_eq_false hT]
            have HOd : Hid (Own w4 w.heap.size (w.heap.size + 1) (some ⟨w.heap.size, 0, none⟩) (n1To x (t + 1))) := Lib.hid (by
              have h := HOb.out
              rw [show (-1 : Int) = foundAt 1 t from by rw [HF1.out, if_neg hT], HSt.out] at h
              exact h)
            go_wp2_with fail
            refine (HCn.out (some ⟨g3, 0, none⟩) k g3 (g3 + 1) w4 HO3.out).mono ?_
            rintro e w5 ⟨rfl, rfl⟩
            rw [HCK.out]
            by_cases h8 : rsum (rowK t) ≤ 8
            · have HLy := Lib.hid (left_yes hT h8)
              rw [decide_eq_true h8]
              have hszb := HBb.out.size
              have hsz5 : w.heap.size + 1 ≤ w5.heap.size := own_lt HOd.out
              have hgl : (leftK 1 t).length ≤ 729 := by omega
              generalize leftK 1 t = F at HLb HLy hgl
              go_wp2_with (at_builtin; refine wpList_append_lies _ rfl (.tmp 42) (.tmp 44) 22 rfl (w.heap.size + 1) 3 i0 (.int .i64 0) 1 8 Try.underlying22 hi0 hz0 hz1 hz2 rfl (by decide) u6 F.length (F.map (Value.int .i64)) rfl (HLb.out.alloc _) ⟨w5.heap.size, 0, none⟩ 1 1 [.int .i64 (t : Int)] rfl rfl (cell_one_new _ _ _) (by simp [Value.oneCell']) (by decide) (by unfold maxLen; omega) (by omega) (by simp; omega) _ rfl ?_; intro ga ca wa hown ha hblk hlta; have HLz : Hid (wa.ownsRow (w.heap.size + 1) 3 1 (.slice (some ⟨ga, 0, none⟩) (F.length + 1) ca) (F ++ [(t : Int)]).length ((F ++ [(t : Int)]).map (Value.int .i64))) := Lib.hid (by simpa using hown); have HPz := Lib.hid (Past.grown HLb.out ha); clear hown ha hblk hlta)
              have HOz := Lib.hid (own_same HOd.out (HPz.out.block _ (own_lt HOd.out) (Nat.lt_succ_self _)))
              have HBz := Lib.hid (HBb.out.trans (HPz.out.below (Nat.le_succ _) hszb))
              go_wp2
              go_roundw
              case rel => exact ⟨t + 1, by omega, by go_num, HOz, by rw [HLy.out]; exact HLz, HBz⟩
              case measure => simp [intOf]; omega
            · have HLn := Lib.hid (left_no h8)
              rw [decide_eq_false h8]
              go_wp2
              go_roundw
              case rel => exact ⟨t + 1, by omega, by go_num, HOd, by rw [HLn.out]; exact HLb, HBb⟩
              case measure => simp [intOf]; omega
        · obtain rfl : t = x := by omega
          rw [n1To_all] at HO
          have hll1 := left_len 1 t
          go_wp2_with fail
          go_loopw [6, 9] (fun v i wr => ∃ (rd : Nat), 1 ≤ rd ∧ rd ≤ 10 ∧ i = .int .i64 rd ∧ Hid (Own wr w.heap.size (w.heap.size + 1) (some ⟨w.heap.size, 0, none⟩) (fndT t rd)) ∧ Hid (wr.ownsRow (w.heap.size + 1) 3 1 v (leftK rd t).length ((leftK rd t).map (Value.int .i64))) ∧ Hid (Below w.heap.size w wr)) (fun _ i _ => 10 - (intOf i).toNat)
          case atStart => exact ⟨1, Nat.le_refl _, by omega, rfl, HO, HLf, HB⟩
          case round =>
            clear HO HLf HB
            obtain ⟨rd, hrd, hrd10, rfl, HO, HLf, HB⟩ := hrel
            rename World => w2
            have hll := left_len rd t
            have hg2 := own_lt HO.out
            by_cases h0 : 0 < (leftK rd t).length
            · have hrd9 : rd ≤ 9 := by
                rcases Nat.lt_or_ge rd 10 with h | h
                · omega
                · rw [left_none h] at h0; simp at h0
              obtain ⟨gl, cl, rfl, hgl, _⟩ := ownsRow_at HLf.out h0
              have HMa := Lib.hid (mTo_all rd t)
              have HFy := Lib.hid (fun i hi h => @fTo_yes rd t i hi h)
              have HFn := Lib.hid (fun i hi h => @fTo_no rd t i hi h)
              have HFl := Lib.hid (fun i => fTo_len rd t i)
              have HLm := Lib.hid (fun i (h : i < (leftK rd t).length) => left_mem (List.getElem_mem h))
              have HSs := Lib.hid (fun i κ hi hk => @sTo_set rd t i κ hi hk)
              have HS0 := Lib.hid (sTo_zero rd t)
              have HSa := Lib.hid (@sTo_all rd t)
              have HSl := Lib.hid (fun i => sTo_len rd t i)
              have HSm := Lib.hid (fun x h => @f_mem rd t x h)
              have B1 := (Below.refl _ w2).alloc (Nat.le_refl _) (.cells #[] 3)
              have HE1 : Hid (((w2.alloc (.cells #[] 3)).alloc (.cells #[] 3)).ownsRow w2.heap.size 3 1 (.slice (some ⟨w2.heap.size, 0, none⟩) 0 0) (fTo rd t 0).length ((fTo rd t 0).map (Value.int .i64))) := Lib.hid (by
                have h := (O0_any w2 w2.heap.size (Nat.le_refl _)).alloc (.cells #[] 3)
                simpa [fTo] using h)
              have HE2 : Hid (((w2.alloc (.cells #[] 3)).alloc (.cells #[] 3)).ownsRow w2.heap.size 3 1 (.slice (some ⟨w2.heap.size + 1, 0, none⟩) 0 0) (mTo rd t 0).length ((mTo rd t 0).map (Value.int .i64))) := Lib.hid (by
                have h := O0_any (w2.alloc (.cells #[] 3)) w2.heap.size (by simp)
                simpa [mTo] using h)
              have HE3 : Hid (Apart ((w2.alloc (.cells #[] 3)).alloc (.cells #[] 3)) (.slice (some ⟨w2.heap.size, 0, none⟩) 0 0) (.slice (some ⟨w2.heap.size + 1, 0, none⟩) 0 0)) := Lib.hid ⟨fun e => by (have e : w2.heap.size = w2.heap.size + 1 := (by injection e)); omega, fun q e => by (have e : w2.heap.size = q := (by injection e)); simp; omega, fun q e => by (have e : w2.heap.size + 1 = q := (by injection e)); simp; omega⟩
              have HE4 := Lib.hid (past_alloc (past_alloc (Past.refl w2.heap.size w2) (.cells #[] 3)) (.cells #[] 3))
              clear B1
              go_wp2_with fail
              generalize (w2.alloc (.cells #[] 3)).alloc (.cells #[] 3) = wc at HE1 HE2 HE3 HE4 ⊢
              generalize (Value.slice (some ⟨w2.heap.size, 0, none⟩) 0 0) = vf0 at HE1 HE3 ⊢
              generalize (Value.slice (some ⟨w2.heap.size + 1, 0, none⟩) 0 0) = vm0 at HE2 HE3 ⊢
              go_loopw [10, 11, 12] (fun vf vm i wr => ∃ (q : Nat), q ≤ (leftK rd t).length ∧ i = .int .i64 q ∧ Hid (wr.ownsRow w2.heap.size 3 1 vf (fTo rd t q).length ((fTo rd t q).map (Value.int .i64))) ∧ Hid (wr.ownsRow w2.heap.size 3 1 vm (mTo rd t q).length ((mTo rd t q).map (Value.int .i64))) ∧ Hid (Apart wr vf vm) ∧ Hid (Past w2.heap.size w2 wr)) (fun _ _ i _ => (leftK rd t).length - (intOf i).toNat)
              case atStart => exact ⟨0, Nat.zero_le _, rfl, HE1, HE2, HE3, HE4⟩
              case round =>
                clear HE1 HE2 HE3 HE4
                obtain ⟨q, hq, rfl, HFr, HMr, HAp, HPq⟩ := hrel
                rename World => w3
                have hsz3 := HPq.out.size
                by_cases hql : q < (leftK rd t).length
                · obtain ⟨κ, hκ, hκt, hκ8, hκr⟩ := HLm.out q hql
                  have hlen := HFl.out q
                  have hc3 := ownsRow_cell (ownsRow_past HLf.out HPq.out) hql
                  rw [hκ] at hc3
                  have HO3 := Lib.hid (own_same HO.out (HPq.out.block _ hg2 hg2))
                  have HC := Lib.hid (fun W => l4Counted_any k κ W hkp (by omega))
                  have hnt : 1 < rsum (rowK κ) := by
                    rcases Nat.lt_or_ge 1 (rsum (rowK κ)) with h | h
                    · exact h
                    · rw [need_told h] at hκr; omega
                  have HWt : Hid (∀ (B : Option Addr) (cB lo hi : Nat) (W : World), Ins W lo hi B (lstR k (rowK κ)) → ∀ (c2 : Nat), Ins W w.heap.size (w.heap.size + 1) (some ⟨w.heap.size, 0, none⟩) (fndT t rd) → Calls Try.prog 107 #[.slice B k cB, .slice (some ⟨w.heap.size, 0, none⟩) t c2] W fun e w' => e = .returned (.bool (isF rd (κ : Int))) ∧ Below W.heap.size W w') := Lib.hid (fun B cB lo hi W h c2 h2 => by
                    have h3 := l4Within_any B cB lo hi (some ⟨w.heap.size, 0, none⟩) c2 w.heap.size (w.heap.size + 1) k rd (rowK κ) W h (by rw [← HFR.out]; exact h2) (key_wide hkp (by rw [← HX.out]; exact hκt)) hκ8 hnt hrd
                    rw [← HX.out] at h3
                    exact h3)
                  have HYq : Hid (isF rd (κ : Int) = true → fTo rd t (q + 1) = fTo rd t q ++ [(κ : Int)] ∧ mTo rd t (q + 1) = mTo rd t q) := Lib.hid (fun h => by have h2 := HFy.out q hql (by rw [hκ]; exact h); rw [hκ] at h2; exact h2)
                  have HNq : Hid (isF rd (κ : Int) = false → fTo rd t (q + 1) = fTo rd t q ∧ mTo rd t (q + 1) = mTo rd t q ++ [(κ : Int)]) := Lib.hid (fun h => by have h2 := HFn.out q hql (by rw [hκ]; exact h); rw [hκ] at h2; exact h2)
                  have HLl := Lib.hid (fun W (h : Past w2.heap.size w2 W) => by have h2 := ownsRow_cell (ownsRow_past HLf.out h) hql; rw [hκ] at h2; exact h2)
                  generalize fTo rd t q = F at HFr hlen HYq HNq
                  generalize mTo rd t q = G at HMr hlen HYq HNq
                  clear HFy HFn HFl HLm hκ
                  go_wp2_with fail
                  refine (HC.out w3).mono ?_
                  rintro e w4 ⟨g4, rfl, hg4, ho4, hb4⟩
                  have HO4 := Lib.hid (Ins.mk ho4.ints (own_lt ho4))
                  have HN4 := Lib.hid (own_same HO3.out (hb4.block _ (own_lt HO3.out)))
                  have HP4 := Lib.hid (Past.of_below hb4 : Past w3.heap.size w3 w4)
                  have hs34 := hb4.size
                  clear ho4 hb4 HC HO3
                  go_wp2_with fail
                  refine (HWt.out (some ⟨g4, 0, none⟩) k g4 (g4 + 1) w4 HO4.out _ (Ins.mk HN4.out.ints (own_lt HN4.out))).mono ?_
                  rintro e w5 ⟨rfl, hb5⟩
                  have HP45 := Lib.hid (HP4.out.trans (past_base (Past.of_below hb5 : Past w4.heap.size w4 w5) hs34))
                  replace HFr := Lib.hid (ownsRow_past HFr.out HP45.out)
                  replace HMr := Lib.hid (ownsRow_past HMr.out HP45.out)
                  replace HAp := Lib.hid (HAp.out.size HP45.out.size)
                  replace HPq := Lib.hid (HPq.out.trans (past_base HP45.out hsz3))
                  have hsz5 := HPq.out.size
                  have hc5 := HLl.out w5 HPq.out
                  clear hb5 HWt HP4 HP45 hc3 HN4 HO4
                  cases hF : isF rd (κ : Int) with
                  | true =>
                    have HE := Lib.hid (HYq.out hF)
                    clear HYq HNq hF
                    go_wp2_with (at_builtin; refine wpList_append_lies _ rfl (.tmp 67) (.tmp 72) 22 rfl w2.heap.size 3 i0 (.int .i64 0) 1 8 Try.underlying22 hi0 hz0 hz1 hz2 rfl (by decide) u10 F.length (F.map (Value.int .i64)) rfl (HFr.out.alloc _) ⟨w5.heap.size, 0, none⟩ 1 1 [.int .i64 (κ : Int)] rfl rfl (cell_one_new _ _ _) (by simp [Value.oneCell']) (by decide) (by unfold maxLen; omega) (by omega) (by simp; omega) _ rfl ?_; intro ga ca wa hown ha hblk hlta; have HX5 := Lib.hid (show wa.ownsRow w2.heap.size 3 1 (.slice (some ⟨ga, 0, none⟩) (F.length + 1) ca) (F ++ [(κ : Int)]).length ((F ++ [(κ : Int)]).map (Value.int .i64)) from (by simpa using hown)); have HM5 := Lib.hid (ownsRow_other (HMr.out.alloc (.cells #[.int .i64 (κ : Int)] 3)) ha (fun e => HAp.out.ne e.symm)); have HA5 := Lib.hid (apart_next (n := F.length + 1) (c := ca) (HAp.out.size (Nat.le_of_lt (by simp) : w5.heap.size ≤ (w5.alloc (.cells #[.int .i64 (κ : Int)] 3)).heap.size)) hblk rfl hlta ha.size); have HP5 := Lib.hid (HPq.out.trans ((past_base (past_alloc (Past.refl w5.heap.size w5) (.cells #[.int .i64 (κ : Int)] 3)) hsz5).trans (Past.of_within (within_grown (HFr.out.alloc (.cells #[.int .i64 (κ : Int)] 3)) ha) (Nat.le_refl _)))); clear hown ha hblk hlta)
                    go_wp2
                    go_roundw
                    case rel => exact ⟨q + 1, by omega, by go_num, by rw [HE.out.1]; exact HX5, by rw [HE.out.2]; exact HM5, HA5, HP5⟩
                    case measure => simp [intOf]; omega
                  | false =>
                    have HE := Lib.hid (HNq.out hF)
                    clear HYq HNq hF
                    go_wp2_with (at_builtin; refine wpList_append_lies _ rfl (.tmp 74) (.tmp 79) 22 rfl w2.heap.size 3 i0 (.int .i64 0) 1 8 Try.underlying22 hi0 hz0 hz1 hz2 rfl (by decide) u11 G.length (G.map (Value.int .i64)) rfl (HMr.out.alloc _) ⟨w5.heap.size, 0, none⟩ 1 1 [.int .i64 (κ : Int)] rfl rfl (cell_one_new _ _ _) (by simp [Value.oneCell']) (by decide) (by unfold maxLen; omega) (by omega) (by simp; omega) _ rfl ?_; intro ga ca wa hown ha hblk hlta; have HX5 := Lib.hid (show wa.ownsRow w2.heap.size 3 1 (.slice (some ⟨ga, 0, none⟩) (G.length + 1) ca) (G ++ [(κ : Int)]).length ((G ++ [(κ : Int)]).map (Value.int .i64)) from (by simpa using hown)); have HM5 := Lib.hid (ownsRow_other (HFr.out.alloc (.cells #[.int .i64 (κ : Int)] 3)) ha HAp.out.ne); have HA5 := Lib.hid (apart_next (n := G.length + 1) (c := ca) (HAp.out.symm.size (Nat.le_of_lt (by simp) : w5.heap.size ≤ (w5.alloc (.cells #[.int .i64 (κ : Int)] 3)).heap.size)) hblk rfl hlta ha.size).symm; have HP5 := Lib.hid (HPq.out.trans ((past_base (past_alloc (Past.refl w5.heap.size w5) (.cells #[.int .i64 (κ : Int)] 3)) hsz5).trans (Past.of_within (within_grown (HMr.out.alloc (.cells #[.int .i64 (κ : Int)] 3)) ha) (Nat.le_refl _)))); clear hown ha hblk hlta)
                    go_wp2
                    go_roundw
                    case rel => exact ⟨q + 1, by omega, by go_num, by rw [HE.out.1]; exact HM5, by rw [HE.out.2]; exact HX5, HA5, HP5⟩
                    case measure => simp [intOf]; omega
                · obtain rfl : q = (leftK rd t).length := by omega
                  rw [HMa.out] at HMr
                  have HO3 := Lib.hid (own_same HO.out (HPq.out.block _ hg2 hg2))
                  rw [← HS0.out] at HO3
                  have hfl := (HFl.out (leftK rd t).length).1
                  generalize hFF : fTo rd t (leftK rd t).length = F at HFr HSs HSa HSm hfl
                  clear hFF
                  obtain ⟨Af, cf, rfl⟩ := ownsRow_slice HFr.out
                  go_wp2_with fail
                  go_loopw [13] (fun i wr => ∃ (y : Nat), y ≤ F.length ∧ i = .int .i64 y ∧ Hid (Own wr w.heap.size (w.heap.size + 1) (some ⟨w.heap.size, 0, none⟩) (sTo rd t y)) ∧ Hid (Within w.heap.size (w.heap.size + 1) w3 wr)) (fun i _ => F.length - (intOf i).toNat)
                  case atStart => exact ⟨0, Nat.zero_le _, rfl, HO3, Lib.hid (Within.refl _ _ _)⟩
                  case round =>
                    clear HO3
                    obtain ⟨y, hy, rfl, HO4, HW4⟩ := hrel
                    rename World => w4
                    by_cases hyl : y < F.length
                    · obtain ⟨gf, cf2, hvf, hgf, hcf⟩ := ownsRow_at (ownsRow_within HFr.out HW4.out (by omega)) hyl
                      injection hvf with hAf _ hcf2
                      subst hAf hcf2
                      obtain ⟨κ, hκ, hκt, _, _⟩ := HSm.out F[y] (List.getElem_mem hyl)
                      rw [hκ] at hcf
                      have hc0 := own_cell HO4.out (k := κ) (by rw [HSl.out]; exact hκt)
                      have hf0 := own_free HO4.out κ
                      have HO5 := Lib.hid (own_set HO4.out (k := κ) (by rw [HSl.out]; exact hκt) ((rd : Nat) : Int))
                      rw [HSs.out y κ hyl hκ] at HO5
                      have HW5 := Lib.hid (HW4.out.trans (within_set (Within.refl w.heap.size (w.heap.size + 1) w4) (Nat.le_refl _) (Nat.lt_succ_self _) κ (.int .i64 (rd : Int))))
                      generalize (sTo rd t y).getD κ 0 = z0 at hc0
                      go_wp2
                      go_roundw
                      case rel => exact ⟨y + 1, by omega, by go_num, HO5, HW5⟩
                      case measure => simp [intOf]; omega
                    · obtain rfl : y = F.length := by omega
                      rw [HSa.out] at HO4
                      have HMz := Lib.hid (own_base (ownsRow_within HMr.out HW4.out (by omega)) (Nat.succ_le_of_lt hg2))
                      have HBz := Lib.hid ((below_trans HB.out (HPq.out.below (Nat.le_refl _) (Nat.le_refl _))).trans (HW4.out.below (Nat.le_refl _) (Nat.le_trans HB.out.size hsz3)))
                      go_wp2
                      go_roundw
                      case rel => exact ⟨rd + 1, by omega, by omega, by go_num, HO4, HMz, HBz⟩
                      case measure => simp [intOf]; omega
            · have hnil : leftK rd t = [] := List.eq_nil_of_length_eq_zero (by omega)
              have HE := Lib.hid (fnd_done hnil hrd10)
              obtain ⟨Ao, co, rfl⟩ := ownsRow_slice HLf.out
              rw [HE.out, HFR.out] at HO
              have hl0 : (leftK rd t).length = 0 := by omega
              go_wp2
              go_ret
              exact ⟨_, t, by rw [← HX.out]; rfl, Nat.le_refl _, HO.out, HB.out⟩
end Go.Proofs.Ytdkffkgoalgjmab
namespace Go.Proofs.Ytdkffkgoalgjmab
open Go.RowKit Go.ChangeShapes Go.WideShapes
set_option linter.unusedVariables false

/-- The need of a split, -1 if it leads back. -/
def snR (r s : Row) : Int := if backR r s = true then -1 else ((valR r s : Nat) : Int)
theorem found_all {r : Row} (h8 : rsum r ≤ 8) : foundAt 10 (keyR r) = ((needR r : Nat) : Int) := by
  rw [found_key h8, if_pos (by have := need_le h8; omega)]
set_option maxRecDepth 100000 in
set_option maxHeartbeats 1000000 in
theorem l4SplitNeed_any (A : Option Addr) (c lo hi_ : Nat) (A2 : Option Addr) (c2 lo2 hi2 : Nat) (A3 : Option Addr) (c3 lo3 hi3 : Nat) (p : Nat) (r s : Row) (w : World) (hS : Ins w lo hi_ A (lstR p r)) (hS3 : Ins w lo3 hi3 A3 (lstR p s)) (hS2 : Ins w lo2 hi2 A2 (foundL p 10)) (hw : Wide p r) (h8 : rsum r ≤ 8) (hf : Fits s r) :
    Calls Try.prog 64 #[.slice A p c, .slice A3 p c3, .slice A2 (9 ^ p) c2] w fun e w' => e = .returned (.int .i64 (snR r s)) ∧ Below w.heap.size w w' := by
  have hp := hw.le
  have hp9 := pow9 hp
  have hyw := yes_wide hw hf
  have hy8 := yes_sum h8 hf
  have HS := Lib.hid hS
  have HS2 := Lib.hid hS2
  have HS3 := Lib.hid hS3
  have HY := Lib.hid (fun W h h2 => l4Yes_any A c lo hi_ A3 c3 lo3 hi3 p r s W h h2 hw h8 hf)
  have HN := Lib.hid (fun W h h2 => l4No_any A c lo hi_ A3 c3 lo3 hi3 p r s W h h2 hw h8 hf)
  have HYK := Lib.hid (fun B cB loB hiB W h => l4Key_any B cB loB hiB p (yesR r s) W h hyw.1 hy8.1)
  have HNK := Lib.hid (fun B cB loB hiB W h => l4Key_any B cB loB hiB p (noR r s) W h hyw.2 hy8.2)
  have HYS := Lib.hid (fun B cB loB hiB W h h2 => l1Same_any B cB loB hiB A c lo hi_ p (yesR r s) r W h h2 hyw.1 hw)
  have HNS := Lib.hid (fun B cB loB hiB W h h2 => l1Same_any B cB loB hiB A c lo hi_ p (noR r s) r W h h2 hyw.2 hw)
  have hky := key_lt hyw.1 hy8.1
  have hkn := key_lt hyw.2 hy8.2
  have HFY := Lib.hid (found_all hy8.1)
  have HFN := Lib.hid (found_all hy8.2)
  have hny := need_le hy8.1
  have hnn := need_le hy8.2
  have HFL := Lib.hid (foundL_len p 10)
  have HBK : Hid (backR r s = (decide (yesR r s = r) || decide (noR r s = r))) := Lib.hid (by unfold backR; rw [Bool.eq_iff_iff]; simp)
  have HV : Hid (valR r s = 1 + max (needR (yesR r s)) (needR (noR r s))) := Lib.hid rfl
  clear hS hS2 hS3 hw hyw hy8
  generalize hq1 : decide (yesR r s = r) = q1 at HYS HBK
  generalize hq2 : decide (noR r s = r) = q2 at HNS HBK
  clear hq1 hq2
  generalize keyR (yesR r s) = ky at HYK hky HFY
  generalize keyR (noR r s) = kn at HNK hkn HFN
  generalize needR (yesR r s) = ny at hny HFY HV
  generalize needR (noR r s) = nn at hnn HFN HV
  have hkyI : (ky : Int) < ((9 ^ p : Nat) : Int) := by omega
  have hknI : (kn : Int) < ((9 ^ p : Nat) : Int) := by omega
  go_enter Try.func64, Try.ntmps64
  go_wp2_with fail
  refine (HY.out w HS.out HS3.out).mono ?_
  rintro e w1 ⟨g1, c1, rfl, hg1, ho1, hb1⟩
  have HO1 := Lib.hid (Ins.mk ho1.ints (own_lt ho1))
  have HB := Lib.hid hb1
  replace HS := Lib.hid (HS.out.step hb1)
  replace HS2 := Lib.hid (HS2.out.step hb1)
  replace HS3 := Lib.hid (HS3.out.step hb1)
  clear ho1 hb1 HY
  go_wp2_with fail
  refine (HN.out w1 HS.out HS3.out).mono ?_
  rintro e w2 ⟨g2, c2', rfl, hg2, ho2, hb2⟩
  have HO2 := Lib.hid (Ins.mk ho2.ints (own_lt ho2))
  replace HB := Lib.hid (below_trans HB.out hb2)
  replace HS := Lib.hid (HS.out.step hb2)
  replace HS2 := Lib.hid (HS2.out.step hb2)
  replace HO1 := Lib.hid (HO1.out.step hb2)
  clear ho2 hb2 HN HS3
  go_wp2_with fail
  refine (HYS.out (some ⟨g1, 0, none⟩) c1 _ _ w2 HO1.out HS.out).mono ?_
  rintro e w3 ⟨rfl, hb3⟩
  replace HB := Lib.hid (below_trans HB.out hb3)
  replace HS := Lib.hid (HS.out.step hb3)
  replace HS2 := Lib.hid (HS2.out.step hb3)
  replace HO1 := Lib.hid (HO1.out.step hb3)
  replace HO2 := Lib.hid (HO2.out.step hb3)
  clear hb3 HYS
  cases q1 with
  | true =>
    have E : Hid (snR r s = -1) := Lib.hid (by unfold snR; rw [HBK.out]; rfl)
    go_wp2
    go_ret
    exact ⟨by rw [E.out]; rfl, HB.out⟩
  | false =>
    go_wp2_with fail
    refine (HNS.out (some ⟨g2, 0, none⟩) c2' _ _ w3 HO2.out HS.out).mono ?_
    rintro e w4 ⟨rfl, hb4⟩
    replace HB := Lib.hid (below_trans HB.out hb4)
    replace HS2 := Lib.hid (HS2.out.step hb4)
    replace HO1 := Lib.hid (HO1.out.step hb4)
    replace HO2 := Lib.hid (HO2.out.step hb4)
    clear hb4 HNS HS
    cases q2 with
    | true =>
      have E : Hid (snR r s = -1) := Lib.hid (by unfold snR; rw [HBK.out]; rfl)
      go_wp2
      go_ret
      exact ⟨by rw [E.out]; rfl, HB.out⟩
    | false =>
      obtain ⟨M, hM, hMl⟩ : ∃ M : Nat, M = max ny nn ∧ M ≤ 9 := ⟨_, rfl, by omega⟩
      have E : Hid (snR r s = 1 + (M : Int)) := Lib.hid (by unfold snR; rw [HBK.out, HV.out, hM]; simp)
      have HM : Hid (∀ W, Calls Try.prog 65 #[.int .i64 (ny : Int), .int .i64 (nn : Int)] W fun e w' => e = .returned (.int .i64 (M : Int)) ∧ w' = W) := Lib.hid (fun W => by
        have h := l1Most_any (ny : Int) (nn : Int) W
        have e : (if (nn : Int) ≤ (ny : Int) then (ny : Int) else (nn : Int)) = (M : Int) := by split <;> omega
        rwa [e] at h)
      obtain ⟨b2, o2, hA2, _, hbb, hc2⟩ := HS2.out.ints.at_ (k := ky) (by rw [HFL.out]; exact hky)
      subst hA2
      rw [foundL_at, HFY.out] at hc2
      obtain ⟨b2', o2', hA2', _, hbb', hc2b⟩ := HS2.out.ints.at_ (k := kn) (by rw [HFL.out]; exact hkn)
      injection hA2' with hA2'
      injection hA2' with e1 e2
      subst e1 e2
      rw [foundL_at, HFN.out] at hc2b
      have HK1 := Lib.hid (fun W (h : Below w4.heap.size w4 W) => HYK.out (some ⟨g1, 0, none⟩) c1 _ _ W (HO1.out.step h))
      have HK2 := Lib.hid (fun W (h : Below w4.heap.size w4 W) => HNK.out (some ⟨g2, 0, none⟩) c2' _ _ W (HO2.out.step h))
      clear hM HYK HNK HV
      go_wp2_with fail
      go_quiet (first
        | (go_at_call 59; with_reducible refine Calls.quiet_of_same (HK1.out _ (below_drewN (Below.refl _ _) _)))
        | (go_at_call 59; with_reducible refine Calls.quiet_of_same (HK2.out _ (below_drewN (Below.refl _ _) _)))
        | (go_at_call 65; refine Calls.quiet_of_same (HM.out _)))
      all_goals
        go_wp2
        go_ret
        exact ⟨by rw [E.out]; rfl, below_drewN HB.out _⟩
end Go.Proofs.Ytdkffkgoalgjmab
namespace Go.Proofs.Ytdkffkgoalgjmab
open Go.RowKit Go.ChangeShapes Go.WideShapes
set_option linter.unusedVariables false

theorem Laid3.drewN {w wa : World} {a b c x y z : Value} (h : Laid3 w wa a b c x y z) (n : Nat) : Laid3 w (wa.drewN n) a b c x y z := h.step (below_drewN (Below.refl _ wa) n)
theorem Laid3.set2 {w wa : World} {a b c x y z : Value} (h : Laid3 w wa a b c x y z) (i : Nat) (u : Value) (x' y' z' : Value) (ht : Three (wa.setCell ⟨w.heap.size + 1, i, none⟩ u) (w.heap.size + 1) x' y' z') : Laid3 w (wa.setCell ⟨w.heap.size + 1, i, none⟩ u) a b c x' y' z' :=
  ⟨h.t1.far (by omega) _ _, ht, h.t3.far (by omega) _ _, below_set h.bel (by omega) _ _⟩
set_option maxRecDepth 100000 in
set_option maxHeartbeats 4000000 in
theorem splitAfter_nat (a b c x y z : Nat) (w : World) (h8 : a + b + c ≤ 8) (hx : x ≤ a) (hy : y ≤ b) (hz : z ≤ c) (P : Row) (ok : Bool) (hP : nextR (a, b, c) (x, y, z) = if ok = true then some P else none) (hP0 : ok = false → P = (0, 0, 0)) :
    Calls Try.prog 129 #[.agg #[.int .i64 (a : Int), .int .i64 (b : Int), .int .i64 (c : Int)], .agg #[.int .i64 (x : Int), .int .i64 (y : Int), .int .i64 (z : Int)]] w fun e w' =>
      e = .returned (.tuple #[.agg #[.int .i64 (P.1 : Int), .int .i64 (P.2.1 : Int), .int .i64 (P.2.2 : Int)], .bool ok]) ∧ Below w.heap.size w w' := by
  have HL := Lib.hid (Laid3.new w (.int .i64 (a : Int)) (.int .i64 (b : Int)) (.int .i64 (c : Int)) (.int .i64 (x : Int)) (.int .i64 (y : Int)) (.int .i64 (z : Int)))
  have HN := Lib.hid hP
  have HN0 := Lib.hid hP0
  clear hP hP0
  go_enter Try.func129, Try.ntmps129
  go_wp2_with fail
  generalize ((w.alloc (.cells #[.int .i64 (a : Int), .int .i64 (b : Int), .int .i64 (c : Int)] 66)).alloc (.cells #[.int .i64 (x : Int), .int .i64 (y : Int), .int .i64 (z : Int)] 66)).alloc (.cells #[.int .i64 0, .int .i64 0, .int .i64 0] 66) = wa at HL ⊢
  go_loopw [6] (fun i wr => ∃ (k : Nat) (m : Int), k ≤ 3 ∧ i = .int .i64 m ∧ m = 2 - (k : Int) ∧ Hid (Laid3 w wr (.int .i64 (a : Int)) (.int .i64 (b : Int)) (.int .i64 (c : Int)) (.int .i64 (if k < 3 then (x : Int) else 0)) (.int .i64 (if k < 2 then (y : Int) else 0)) (.int .i64 (if k < 1 then (z : Int) else 0))) ∧ Hid (0 < k → z = c) ∧ Hid (1 < k → y = b) ∧ Hid (2 < k → x = a)) (fun i _ => (intOf i + 1).toNat)
  case atStart => exact ⟨0, 2, by omega, rfl, by simp, by simpa using HL, Lib.hid nofun, Lib.hid nofun, Lib.hid nofun⟩
  case round =>
    clear HL
    obtain ⟨k, m, hk, rfl, hm, HL, HC, HB, HA⟩ := hrel
    have q0 := HL.out.t1.c0
    have q1 := HL.out.t1.c1
    have q2 := HL.out.t1.c2
    by_cases k0 : k = 0
    · subst k0
      obtain rfl : m = 2 := by omega
      clear hm
      simp only [show (0 < 3) by decide, show (0 < 2) by decide, show (0 < 1) by decide, if_true] at HL
      have p0 := HL.out.t2.c0
      have p1 := HL.out.t2.c1
      have p2 := HL.out.t2.c2
      by_cases hlt : z < c
      · have E : Hid (P = (x, y, z + 1) ∧ ok = true) := Lib.hid (by
          have h := HN.out
          have hn : nextR (a, b, c) (x, y, z) = some (x, y, z + 1) := by
            have hkC : 0 < 0 → z = c := HC.out
            have hkB : 1 < 0 → y = b := HB.out
            simp only [nextR]
            rw [if_pos hlt]
          rw [hn] at h
          cases ok
          · cases h
          · exact ⟨(Option.some.inj h).symm, rfl⟩)
        have hltI : (z : Int) < (c : Int) := by omega
        go_wp2_with fail
        go_quiet (fail)
        have HM := Lib.hid (HL.out.drewN nq)
        generalize wr.drewN nq = wq at HM ⊢
        clear p0 p1 p2 q0 q1 q2 HL
        have p2' := HM.out.t2.c2
        have f2' := HM.out.t2.f 2
        have HS := Lib.hid (HM.out.set2 2 (.int .i64 ((z : Int) + 1)) (.int .i64 (x : Int)) (.int .i64 (y : Int)) (.int .i64 ((z : Int) + 1)) (HM.out.t2.set2 _))
        have p0 := HS.out.t2.c0
        have p1 := HS.out.t2.c1
        have p2 := HS.out.t2.c2
        have r0 := HS.out.t3.c0
        have r1 := HS.out.t3.c1
        have r2 := HS.out.t3.c2
        have f0 := HS.out.t3.f 0
        have f1 := HS.out.t3.f 1
        have f2 := HS.out.t3.f 2
        go_wp2
        have HR := HS.out.t3.set (.int .i64 (x : Int)) (.int .i64 (y : Int)) (.int .i64 ((z : Int) + 1))
        have HBf := below_set3 HS.out.bel (Nat.le_trans (Nat.le_succ _) (Nat.le_succ _) : w.heap.size ≤ w.heap.size + 1 + 1) (.int .i64 (x : Int)) (.int .i64 (y : Int)) (.int .i64 ((z : Int) + 1))
        generalize ((((wq.setCell ⟨w.heap.size + 1, 2, none⟩ (.int .i64 ((z : Int) + 1))).setCell ⟨w.heap.size + 1 + 1, 0, none⟩ (.int .i64 (x : Int))).setCell ⟨w.heap.size + 1 + 1, 1, none⟩ (.int .i64 (y : Int))).setCell ⟨w.heap.size + 1 + 1, 2, none⟩ (.int .i64 ((z : Int) + 1))) = wf at HR HBf ⊢
        have e0 := HR.c0
        have e1 := HR.c1
        have e2 := HR.c2
        refine bodyPost_ret (v := .tuple #[.agg #[.int .i64 (x : Int), .int .i64 (y : Int), .int .i64 ((z : Int) + 1)], .bool true]) (by simp [results, go_sem, e0, e1, e2]) rfl ?_
        obtain ⟨rfl, rfl⟩ := E.out
        exact ⟨by simp, HBf⟩
      · have hge : ¬ ((z : Int) < (c : Int)) := by omega
        have hd : decide ((z : Int) < (c : Int)) = false := decide_eq_false hge
        go_wp2_with fail
        go_quiet (fail)
        have HM := Lib.hid (HL.out.drewN nq)
        generalize wr.drewN nq = wq at HM ⊢
        clear p0 p1 p2 q0 q1 q2 HL
        have p2' := HM.out.t2.c2
        have f2' := HM.out.t2.f 2
        have HS := Lib.hid (HM.out.set2 2 (.int .i64 0) (.int .i64 (x : Int)) (.int .i64 (y : Int)) (.int .i64 0) (HM.out.t2.set2 _))
        go_wp2
        go_roundw
        case rel => exact ⟨1, 2 - 1, by omega, by first | rfl | simp, by simp, by simpa using HS, Lib.hid (fun h => by first | omega | (exact HC.out (by omega))), Lib.hid (fun h => by first | omega | (exact HB.out (by omega))), Lib.hid (fun h => by first | omega | (exact HA.out (by omega)))⟩
        case measure => simp [intOf]
    · by_cases k1 : k = 1
      · subst k1
        obtain rfl : m = 1 := by omega
        clear hm
        simp only [show  (1 < 3) by decide, show  (1 < 2) by decide, show ¬ (1 < 1) by decide, if_true, if_false] at HL
        have p0 := HL.out.t2.c0
        have p1 := HL.out.t2.c1
        have p2 := HL.out.t2.c2
        by_cases hlt : y < b
        · have E : Hid (P = (x, y + 1, 0) ∧ ok = true) := Lib.hid (by
            have h := HN.out
            have hn : nextR (a, b, c) (x, y, z) = some (x, y + 1, 0) := by
              have hkC : 0 < 1 → z = c := HC.out
              have hkB : 1 < 1 → y = b := HB.out
              simp only [nextR]
              rw [if_neg (by omega)]
              rw [if_pos hlt]
            rw [hn] at h
            cases ok
            · cases h
            · exact ⟨(Option.some.inj h).symm, rfl⟩)
          have hltI : (y : Int) < (b : Int) := by omega
          go_wp2_with fail
          go_quiet (fail)
          have HM := Lib.hid (HL.out.drewN nq)
          generalize wr.drewN nq = wq at HM ⊢
          clear p0 p1 p2 q0 q1 q2 HL
          have p1' := HM.out.t2.c1
          have f1' := HM.out.t2.f 1
          have HS := Lib.hid (HM.out.set2 1 (.int .i64 ((y : Int) + 1)) (.int .i64 (x : Int)) (.int .i64 ((y : Int) + 1)) (.int .i64 0) (HM.out.t2.set1 _))
          have p0 := HS.out.t2.c0
          have p1 := HS.out.t2.c1
          have p2 := HS.out.t2.c2
          have r0 := HS.out.t3.c0
          have r1 := HS.out.t3.c1
          have r2 := HS.out.t3.c2
          have f0 := HS.out.t3.f 0
          have f1 := HS.out.t3.f 1
          have f2 := HS.out.t3.f 2
          go_wp2
          have HR := HS.out.t3.set (.int .i64 (x : Int)) (.int .i64 ((y : Int) + 1)) (.int .i64 0)
          have HBf := below_set3 HS.out.bel (Nat.le_trans (Nat.le_succ _) (Nat.le_succ _) : w.heap.size ≤ w.heap.size + 1 + 1) (.int .i64 (x : Int)) (.int .i64 ((y : Int) + 1)) (.int .i64 0)
          generalize ((((wq.setCell ⟨w.heap.size + 1, 1, none⟩ (.int .i64 ((y : Int) + 1))).setCell ⟨w.heap.size + 1 + 1, 0, none⟩ (.int .i64 (x : Int))).setCell ⟨w.heap.size + 1 + 1, 1, none⟩ (.int .i64 ((y : Int) + 1))).setCell ⟨w.heap.size + 1 + 1, 2, none⟩ (.int .i64 0)) = wf at HR HBf ⊢
          have e0 := HR.c0
          have e1 := HR.c1
          have e2 := HR.c2
          refine bodyPost_ret (v := .tuple #[.agg #[.int .i64 (x : Int), .int .i64 ((y : Int) + 1), .int .i64 0], .bool true]) (by simp [results, go_sem, e0, e1, e2]) rfl ?_
          obtain ⟨rfl, rfl⟩ := E.out
          exact ⟨by simp, HBf⟩
        · have hge : ¬ ((y : Int) < (b : Int)) := by omega
          have hd : decide ((y : Int) < (b : Int)) = false := decide_eq_false hge
          go_wp2_with fail
          go_quiet (fail)
          have HM := Lib.hid (HL.out.drewN nq)
          generalize wr.drewN nq = wq at HM ⊢
          clear p0 p1 p2 q0 q1 q2 HL
          have p1' := HM.out.t2.c1
          have f1' := HM.out.t2.f 1
          have HS := Lib.hid (HM.out.set2 1 (.int .i64 0) (.int .i64 (x : Int)) (.int .i64 0) (.int .i64 0) (HM.out.t2.set1 _))
          go_wp2
          go_roundw
          case rel => exact ⟨2, 1 - 1, by omega, by first | rfl | simp, by simp, by simpa using HS, Lib.hid (fun h => by first | omega | (exact HC.out (by omega))), Lib.hid (fun h => by first | omega | (exact HB.out (by omega))), Lib.hid (fun h => by first | omega | (exact HA.out (by omega)))⟩
          case measure => simp [intOf]
      · by_cases k2 : k = 2
        · subst k2
          obtain rfl : m = 0 := by omega
          clear hm
          simp only [show  (2 < 3) by decide, show ¬ (2 < 2) by decide, show ¬ (2 < 1) by decide, if_true, if_false] at HL
          have p0 := HL.out.t2.c0
          have p1 := HL.out.t2.c1
          have p2 := HL.out.t2.c2
          by_cases hlt : x < a
          · have E : Hid (P = (x + 1, 0, 0) ∧ ok = true) := Lib.hid (by
              have h := HN.out
              have hn : nextR (a, b, c) (x, y, z) = some (x + 1, 0, 0) := by
                have hkC : 0 < 2 → z = c := HC.out
                have hkB : 1 < 2 → y = b := HB.out
                simp only [nextR]
                rw [if_neg (by omega)]
                rw [if_neg (by omega)]
                rw [if_pos hlt]
              rw [hn] at h
              cases ok
              · cases h
              · exact ⟨(Option.some.inj h).symm, rfl⟩)
            have hltI : (x : Int) < (a : Int) := by omega
            go_wp2_with fail
            go_quiet (fail)
            have HM := Lib.hid (HL.out.drewN nq)
            generalize wr.drewN nq = wq at HM ⊢
            clear p0 p1 p2 q0 q1 q2 HL
            have p0' := HM.out.t2.c0
            have f0' := HM.out.t2.f 0
            have HS := Lib.hid (HM.out.set2 0 (.int .i64 ((x : Int) + 1)) (.int .i64 ((x : Int) + 1)) (.int .i64 0) (.int .i64 0) (HM.out.t2.set0 _))
            have p0 := HS.out.t2.c0
            have p1 := HS.out.t2.c1
            have p2 := HS.out.t2.c2
            have r0 := HS.out.t3.c0
            have r1 := HS.out.t3.c1
            have r2 := HS.out.t3.c2
            have f0 := HS.out.t3.f 0
            have f1 := HS.out.t3.f 1
            have f2 := HS.out.t3.f 2
            go_wp2
            have HR := HS.out.t3.set (.int .i64 ((x : Int) + 1)) (.int .i64 0) (.int .i64 0)
            have HBf := below_set3 HS.out.bel (Nat.le_trans (Nat.le_succ _) (Nat.le_succ _) : w.heap.size ≤ w.heap.size + 1 + 1) (.int .i64 ((x : Int) + 1)) (.int .i64 0) (.int .i64 0)
            generalize ((((wq.setCell ⟨w.heap.size + 1, 0, none⟩ (.int .i64 ((x : Int) + 1))).setCell ⟨w.heap.size + 1 + 1, 0, none⟩ (.int .i64 ((x : Int) + 1))).setCell ⟨w.heap.size + 1 + 1, 1, none⟩ (.int .i64 0)).setCell ⟨w.heap.size + 1 + 1, 2, none⟩ (.int .i64 0)) = wf at HR HBf ⊢
            have e0 := HR.c0
            have e1 := HR.c1
            have e2 := HR.c2
            refine bodyPost_ret (v := .tuple #[.agg #[.int .i64 ((x : Int) + 1), .int .i64 0, .int .i64 0], .bool true]) (by simp [results, go_sem, e0, e1, e2]) rfl ?_
            obtain ⟨rfl, rfl⟩ := E.out
            exact ⟨by simp, HBf⟩
          · have hge : ¬ ((x : Int) < (a : Int)) := by omega
            have hd : decide ((x : Int) < (a : Int)) = false := decide_eq_false hge
            go_wp2_with fail
            go_quiet (fail)
            have HM := Lib.hid (HL.out.drewN nq)
            generalize wr.drewN nq = wq at HM ⊢
            clear p0 p1 p2 q0 q1 q2 HL
            have p0' := HM.out.t2.c0
            have f0' := HM.out.t2.f 0
            have HS := Lib.hid (HM.out.set2 0 (.int .i64 0) (.int .i64 0) (.int .i64 0) (.int .i64 0) (HM.out.t2.set0 _))
            go_wp2
            go_roundw
            case rel => exact ⟨3, 0 - 1, by omega, by first | rfl | simp, by simp, by simpa using HS, Lib.hid (fun h => by first | omega | (exact HC.out (by omega))), Lib.hid (fun h => by first | omega | (exact HB.out (by omega))), Lib.hid (fun h => by first | omega | (exact HA.out (by omega)))⟩
            case measure => simp [intOf]
        · obtain rfl : k = 3 := by omega
          have hm0 : m < 0 := by omega
          simp only [show ¬ (3 < 3) by decide, show ¬ (3 < 2) by decide, show ¬ (3 < 1) by decide, if_false] at HL
          have E : Hid (P = (0, 0, 0) ∧ ok = false) := Lib.hid (by
            have h1 := HC.out (by omega)
            have h2 := HB.out (by omega)
            have h3 := HA.out (by omega)
            have h := HN.out
            have hn : nextR (a, b, c) (x, y, z) = none := by
              simp only [nextR]
              rw [if_neg (by omega), if_neg (by omega), if_neg (by omega)]
            rw [hn] at h
            cases hok : ok
            · exact ⟨HN0.out hok, rfl⟩
            · rw [hok] at h; cases h)
          clear hm
          have r0 := HL.out.t3.c0
          have r1 := HL.out.t3.c1
          have r2 := HL.out.t3.c2
          have f0 := HL.out.t3.f 0
          have f1 := HL.out.t3.f 1
          have f2 := HL.out.t3.f 2
          go_wp2
          have HR := HL.out.t3.set (.int .i64 0) (.int .i64 0) (.int .i64 0)
          have HBf := below_set3 HL.out.bel (Nat.le_trans (Nat.le_succ _) (Nat.le_succ _) : w.heap.size ≤ w.heap.size + 1 + 1) (.int .i64 0) (.int .i64 0) (.int .i64 0)
          generalize (((wr.setCell ⟨w.heap.size + 1 + 1, 0, none⟩ (.int .i64 0)).setCell ⟨w.heap.size + 1 + 1, 1, none⟩ (.int .i64 0)).setCell ⟨w.heap.size + 1 + 1, 2, none⟩ (.int .i64 0)) = wf at HR HBf ⊢
          have e0 := HR.c0
          have e1 := HR.c1
          have e2 := HR.c2
          refine bodyPost_ret (v := .tuple #[.agg #[.int .i64 0, .int .i64 0, .int .i64 0], .bool false]) (by simp [results, go_sem, e0, e1, e2]) rfl ?_
          obtain ⟨rfl, rfl⟩ := E.out
          exact ⟨by simp, HBf⟩
/-- The split behind the i-th one. -/
theorem splitAfter_any (r : Row) (i : Nat) (w : World) (h8 : rsum r ≤ 8) (hi : i < cntR r) :
    Calls Try.prog 129 #[.agg #[.int .i64 (r.1 : Int), .int .i64 (r.2.1 : Int), .int .i64 (r.2.2 : Int)], .agg #[.int .i64 ((splitR r i).1 : Int), .int .i64 ((splitR r i).2.1 : Int), .int .i64 ((splitR r i).2.2 : Int)]] w fun e w' =>
      e = .returned (.tuple #[.agg #[.int .i64 ((if i + 1 < cntR r then splitR r (i + 1) else (0, 0, 0) : Row).1 : Int), .int .i64 ((if i + 1 < cntR r then splitR r (i + 1) else (0, 0, 0) : Row).2.1 : Int), .int .i64 ((if i + 1 < cntR r then splitR r (i + 1) else (0, 0, 0) : Row).2.2 : Int)], .bool (decide (i + 1 < cntR r))]) ∧ Below w.heap.size w w' := by
  have hf := split_fits h8 hi
  unfold Fits at hf
  refine splitAfter_nat r.1 r.2.1 r.2.2 _ _ _ w h8 hf.1 hf.2.1 hf.2.2 _ _ ?_ ?_
  · have h := split_next h8 hi
    show nextR r (splitR r i) = _
    rw [h]
    by_cases hc : i + 1 < cntR r
    · simp [hc]
    · simp [hc]
  · intro h
    rw [decide_eq_false_iff_not] at h
    rw [if_neg h]
end Go.Proofs.Ytdkffkgoalgjmab
namespace Go.Proofs.Ytdkffkgoalgjmab
open Go.RowKit Go.ChangeShapes Go.WideShapes
set_option linter.unusedVariables false

structure Five (w : World) (b : Nat) (x0 x1 x2 x3 x4 : Value) : Prop where
  row : w.heap[b]? = some (.cells #[x0, x1, x2, x3, x4] 76 (0, 0))
theorem Five.lt {w : World} {b : Nat} {x0 x1 x2 x3 x4 : Value} (h : Five w b x0 x1 x2 x3 x4) : b < w.heap.size := row_ltI h.row
theorem Five.step {w w' : World} {b : Nat} {x0 x1 x2 x3 x4 : Value} (h : Five w b x0 x1 x2 x3 x4) (hb : Below w.heap.size w w') : Five w' b x0 x1 x2 x3 x4 := ⟨(hb.block b h.lt).trans h.row⟩
theorem Five.keep {w w' : World} {b : Nat} {x0 x1 x2 x3 x4 : Value} (h : Five w b x0 x1 x2 x3 x4) (hb : w'.heap[b]? = w.heap[b]?) : Five w' b x0 x1 x2 x3 x4 := ⟨hb.trans h.row⟩
theorem Five.new (w : World) (x0 x1 x2 x3 x4 : Value) (b : Nat) (hb : b = w.heap.size) : Five (w.alloc (.cells #[x0, x1, x2, x3, x4] 76)) b x0 x1 x2 x3 x4 := ⟨alloc_row' _ _ _ _ hb⟩
theorem Five.c0 {w : World} {b : Nat} {x0 x1 x2 x3 x4 : Value} (h : Five w b x0 x1 x2 x3 x4) : w.cell? ⟨b, 0, none⟩ = some x0 := by rw [row_cellI h.row]; rfl
theorem Five.c1 {w : World} {b : Nat} {x0 x1 x2 x3 x4 : Value} (h : Five w b x0 x1 x2 x3 x4) : w.cell? ⟨b, 1, none⟩ = some x1 := by rw [row_cellI h.row]; rfl
theorem Five.c2 {w : World} {b : Nat} {x0 x1 x2 x3 x4 : Value} (h : Five w b x0 x1 x2 x3 x4) : w.cell? ⟨b, 2, none⟩ = some x2 := by rw [row_cellI h.row]; rfl
theorem Five.c3 {w : World} {b : Nat} {x0 x1 x2 x3 x4 : Value} (h : Five w b x0 x1 x2 x3 x4) : w.cell? ⟨b, 3, none⟩ = some x3 := by rw [row_cellI h.row]; rfl
theorem Five.c4 {w : World} {b : Nat} {x0 x1 x2 x3 x4 : Value} (h : Five w b x0 x1 x2 x3 x4) : w.cell? ⟨b, 4, none⟩ = some x4 := by rw [row_cellI h.row]; rfl
theorem Five.f {w : World} {b : Nat} {x0 x1 x2 x3 x4 : Value} (h : Five w b x0 x1 x2 x3 x4) (i : Nat) : w.frozen? ⟨b, i, none⟩ = false := row_freeI h.row i
theorem Five.far {w : World} {b g : Nat} {x0 x1 x2 x3 x4 : Value} (h : Five w b x0 x1 x2 x3 x4) (hne : b ≠ g) (i : Nat) (u : Value) : Five (w.setCell ⟨g, i, none⟩ u) b x0 x1 x2 x3 x4 := ⟨(Below.heap_setCell w ⟨g, i, none⟩ u b hne).trans h.row⟩
theorem Five.set4 {w : World} {b : Nat} {x0 x1 x2 x3 x4 : Value} (h : Five w b x0 x1 x2 x3 x4) (u : Value) : Five (w.setCell ⟨b, 4, none⟩ u) b x0 x1 x2 x3 u := ⟨by simpa using row_setI h.row 4 u⟩
def set5 (w : World) (b : Nat) (y0 y1 y2 y3 y4 : Value) : World := ((((w.setCell ⟨b, 0, none⟩ y0).setCell ⟨b, 1, none⟩ y1).setCell ⟨b, 2, none⟩ y2).setCell ⟨b, 3, none⟩ y3).setCell ⟨b, 4, none⟩ y4
theorem Five.set {w : World} {b : Nat} {x0 x1 x2 x3 x4 : Value} (h : Five w b x0 x1 x2 x3 x4) (y0 y1 y2 y3 y4 : Value) : Five (set5 w b y0 y1 y2 y3 y4) b y0 y1 y2 y3 y4 := ⟨by
  have h1 := row_setI (row_setI (row_setI (row_setI (row_setI h.row 0 y0) 1 y1) 2 y2) 3 y3) 4 y4
  simpa [set5] using h1⟩
theorem below_set5 {B g : Nat} {a w : World} (h : Below B a w) (hg : B ≤ g) (y0 y1 y2 y3 y4 : Value) : Below B a (set5 w g y0 y1 y2 y3 y4) := below_set (below_set (below_set (below_set (below_set h hg _ _) hg _ _) hg _ _) hg _ _) hg _ _
theorem block_set5 {b g : Nat} {w : World} (hne : b ≠ g) (y0 y1 y2 y3 y4 : Value) : (set5 w g y0 y1 y2 y3 y4).heap[b]? = w.heap[b]? := by
  unfold set5
  rw [Below.heap_setCell _ ⟨g, 4, none⟩ _ b hne, Below.heap_setCell _ ⟨g, 3, none⟩ _ b hne, Below.heap_setCell _ ⟨g, 2, none⟩ _ b hne, Below.heap_setCell _ ⟨g, 1, none⟩ _ b hne, Below.heap_setCell _ ⟨g, 0, none⟩ _ b hne]
structure LaidP (w wa : World) (p0 p1 p2 p3 p4 x y z : Value) : Prop where
  t1 : Five wa w.heap.size p0 p1 p2 p3 p4
  t2 : Three wa (w.heap.size + 1) x y z
  t3 : Five wa (w.heap.size + 1 + 1) (.int .i64 0) (.int .i64 0) (.int .i64 0) (.int .i64 0) (.int .i64 0)
  bel : Below w.heap.size w wa
theorem LaidP.new (w : World) (p0 p1 p2 p3 p4 x y z : Value) :
    LaidP w (((w.alloc (.cells #[p0, p1, p2, p3, p4] 76)).alloc (.cells #[x, y, z] 66)).alloc (.cells #[.int .i64 0, .int .i64 0, .int .i64 0, .int .i64 0, .int .i64 0] 76)) p0 p1 p2 p3 p4 x y z := by
  have B1 := (Below.refl w.heap.size w).alloc (Nat.le_refl _) (.cells #[p0, p1, p2, p3, p4] 76)
  have T1 := Five.new w p0 p1 p2 p3 p4 w.heap.size rfl
  have B2 := B1.alloc B1.size (.cells #[x, y, z] 66)
  have T2 := Three.new (w.alloc (.cells #[p0, p1, p2, p3, p4] 76)) x y z (w.heap.size + 1) (by simp)
  have S1 := (Below.refl _ (w.alloc (.cells #[p0, p1, p2, p3, p4] 76))).alloc (Nat.le_refl _) (.cells #[x, y, z] 66)
  have S2 := (Below.refl _ ((w.alloc (.cells #[p0, p1, p2, p3, p4] 76)).alloc (.cells #[x, y, z] 66))).alloc (Nat.le_refl _) (.cells #[.int .i64 0, .int .i64 0, .int .i64 0, .int .i64 0, .int .i64 0] 76)
  exact ⟨(T1.step S1).step S2, T2.step S2, Five.new _ _ _ _ _ _ _ (by simp), B2.alloc B2.size _⟩
set_option maxRecDepth 100000 in
set_option maxHeartbeats 4000000 in
theorem orSplit_int (nd f0 f1 f2 mn x y z v : Int) (w : World) (hn : 0 ≤ nd ∧ nd ≤ 20) (hm : 0 ≤ mn ∧ mn ≤ 1000) (hv : 0 ≤ v ∧ v ≤ 20) (R : Value)
    (hR : R = if mn = 0 ∨ v < nd then .agg #[.int .i64 v, .int .i64 x, .int .i64 y, .int .i64 z, .int .i64 1] else if v = nd then .agg #[.int .i64 nd, .int .i64 f0, .int .i64 f1, .int .i64 f2, .int .i64 (mn + 1)] else .agg #[.int .i64 nd, .int .i64 f0, .int .i64 f1, .int .i64 f2, .int .i64 mn]) :
    Calls Try.prog 130 #[.agg #[.int .i64 nd, .int .i64 f0, .int .i64 f1, .int .i64 f2, .int .i64 mn], .agg #[.int .i64 x, .int .i64 y, .int .i64 z], .int .i64 v] w fun e w' => e = .returned R ∧ Below w.heap.size w w' := by
  have HL := Lib.hid (LaidP.new w (.int .i64 nd) (.int .i64 f0) (.int .i64 f1) (.int .i64 f2) (.int .i64 mn) (.int .i64 x) (.int .i64 y) (.int .i64 z))
  have HR := Lib.hid hR
  clear hR
  go_enter Try.func130, Try.ntmps130
  go_upto_region 1 with fail
  generalize ((w.alloc (.cells #[.int .i64 nd, .int .i64 f0, .int .i64 f1, .int .i64 f2, .int .i64 mn] 76)).alloc (.cells #[.int .i64 x, .int .i64 y, .int .i64 z] 66)).alloc (.cells #[.int .i64 0, .int .i64 0, .int .i64 0, .int .i64 0, .int .i64 0] 76) = wa at HL ⊢
  have p0 := HL.out.t1.c0
  have p1 := HL.out.t1.c1
  have p2 := HL.out.t1.c2
  have p3 := HL.out.t1.c3
  have p4 := HL.out.t1.c4
  have q0 := HL.out.t2.c0
  have q1 := HL.out.t2.c1
  have q2 := HL.out.t2.c2
  have r0 := HL.out.t3.c0
  have r1 := HL.out.t3.c1
  have r2 := HL.out.t3.c2
  have r3 := HL.out.t3.c3
  have r4 := HL.out.t3.c4
  have g0 := HL.out.t3.f 0
  have g1 := HL.out.t3.f 1
  have g2 := HL.out.t3.f 2
  have g3 := HL.out.t3.f 3
  have g4 := HL.out.t3.f 4
  by_cases h0 : mn = 0
  · have E : Hid (R = .agg #[.int .i64 v, .int .i64 x, .int .i64 y, .int .i64 z, .int .i64 1]) := Lib.hid (by rw [HR.out, if_pos (.inl h0)])
    go_wp2
    have HF := HL.out.t3.set (.int .i64 v) (.int .i64 x) (.int .i64 y) (.int .i64 z) (.int .i64 1)
    have HBf := below_set5 HL.out.bel (Nat.le_trans (Nat.le_succ _) (Nat.le_succ _) : w.heap.size ≤ w.heap.size + 1 + 1) (.int .i64 v) (.int .i64 x) (.int .i64 y) (.int .i64 z) (.int .i64 1)
    unfold set5 at HF HBf
    generalize (((((wa.setCell ⟨w.heap.size + 1 + 1, 0, none⟩ (.int .i64 v)).setCell ⟨w.heap.size + 1 + 1, 1, none⟩ (.int .i64 x)).setCell ⟨w.heap.size + 1 + 1, 2, none⟩ (.int .i64 y)).setCell ⟨w.heap.size + 1 + 1, 3, none⟩ (.int .i64 z)).setCell ⟨w.heap.size + 1 + 1, 4, none⟩ (.int .i64 1)) = wf at HF HBf ⊢
    have e0 := HF.c0
    have e1 := HF.c1
    have e2 := HF.c2
    have e3 := HF.c3
    have e4 := HF.c4
    refine bodyPost_ret (v := .agg #[.int .i64 v, .int .i64 x, .int .i64 y, .int .i64 z, .int .i64 1]) (by simp [results, go_sem, e0, e1, e2, e3, e4]) rfl ?_
    exact ⟨by rw [E.out], HBf⟩
  · by_cases h1 : v < nd
    · have E : Hid (R = .agg #[.int .i64 v, .int .i64 x, .int .i64 y, .int .i64 z, .int .i64 1]) := Lib.hid (by rw [HR.out, if_pos (.inr h1)])
      go_wp2
      have HF := HL.out.t3.set (.int .i64 v) (.int .i64 x) (.int .i64 y) (.int .i64 z) (.int .i64 1)
      have HBf := below_set5 HL.out.bel (Nat.le_trans (Nat.le_succ _) (Nat.le_succ _) : w.heap.size ≤ w.heap.size + 1 + 1) (.int .i64 v) (.int .i64 x) (.int .i64 y) (.int .i64 z) (.int .i64 1)
      unfold set5 at HF HBf
      generalize (((((wa.setCell ⟨w.heap.size + 1 + 1, 0, none⟩ (.int .i64 v)).setCell ⟨w.heap.size + 1 + 1, 1, none⟩ (.int .i64 x)).setCell ⟨w.heap.size + 1 + 1, 2, none⟩ (.int .i64 y)).setCell ⟨w.heap.size + 1 + 1, 3, none⟩ (.int .i64 z)).setCell ⟨w.heap.size + 1 + 1, 4, none⟩ (.int .i64 1)) = wf at HF HBf ⊢
      have e0 := HF.c0
      have e1 := HF.c1
      have e2 := HF.c2
      have e3 := HF.c3
      have e4 := HF.c4
      refine bodyPost_ret (v := .agg #[.int .i64 v, .int .i64 x, .int .i64 y, .int .i64 z, .int .i64 1]) (by simp [results, go_sem, e0, e1, e2, e3, e4]) rfl ?_
      exact ⟨by rw [E.out], HBf⟩
    · by_cases h2 : v = nd
      · have E : Hid (R = .agg #[.int .i64 nd, .int .i64 f0, .int .i64 f1, .int .i64 f2, .int .i64 (mn + 1)]) := Lib.hid (by rw [HR.out, if_neg (by omega), if_pos h2])
        have gm := HL.out.t1.f 4
        have HS1 := Lib.hid (HL.out.t1.set4 (.int .i64 (mn + 1)))
        have HS3 := Lib.hid (HL.out.t3.far (b := w.heap.size + 1 + 1) (g := w.heap.size) (by omega) 4 (.int .i64 (mn + 1)))
        have HSB := Lib.hid (below_set HL.out.bel (Nat.le_refl _) 4 (.int .i64 (mn + 1)))
        have s0 := HS1.out.c0
        have s1 := HS1.out.c1
        have s2 := HS1.out.c2
        have s3 := HS1.out.c3
        have s4 := HS1.out.c4
        have t0 := HS3.out.c0
        have t1 := HS3.out.c1
        have t2 := HS3.out.c2
        have t3 := HS3.out.c3
        have t4 := HS3.out.c4
        have u0 := HS3.out.f 0
        have u1 := HS3.out.f 1
        have u2 := HS3.out.f 2
        have u3 := HS3.out.f 3
        have u4 := HS3.out.f 4
        go_wp2
        have HF := HS3.out.set (.int .i64 nd) (.int .i64 f0) (.int .i64 f1) (.int .i64 f2) (.int .i64 (mn + 1))
        have HBf := below_set5 HSB.out (Nat.le_trans (Nat.le_succ _) (Nat.le_succ _) : w.heap.size ≤ w.heap.size + 1 + 1) (.int .i64 nd) (.int .i64 f0) (.int .i64 f1) (.int .i64 f2) (.int .i64 (mn + 1))
        unfold set5 at HF HBf
        generalize ((((((wa.setCell ⟨w.heap.size, 4, none⟩ (.int .i64 (mn + 1))).setCell ⟨w.heap.size + 1 + 1, 0, none⟩ (.int .i64 nd)).setCell ⟨w.heap.size + 1 + 1, 1, none⟩ (.int .i64 f0)).setCell ⟨w.heap.size + 1 + 1, 2, none⟩ (.int .i64 f1)).setCell ⟨w.heap.size + 1 + 1, 3, none⟩ (.int .i64 f2)).setCell ⟨w.heap.size + 1 + 1, 4, none⟩ (.int .i64 (mn + 1))) = wf at HF HBf ⊢
        have e0 := HF.c0
        have e1 := HF.c1
        have e2 := HF.c2
        have e3 := HF.c3
        have e4 := HF.c4
        refine bodyPost_ret (v := .agg #[.int .i64 nd, .int .i64 f0, .int .i64 f1, .int .i64 f2, .int .i64 (mn + 1)]) (by simp [results, go_sem, e0, e1, e2, e3, e4]) rfl ?_
        exact ⟨by rw [E.out], HBf⟩
      · have E : Hid (R = .agg #[.int .i64 nd, .int .i64 f0, .int .i64 f1, .int .i64 f2, .int .i64 mn]) := Lib.hid (by rw [HR.out, if_neg (by omega), if_neg h2])
        go_wp2
        have HF := HL.out.t3.set (.int .i64 nd) (.int .i64 f0) (.int .i64 f1) (.int .i64 f2) (.int .i64 mn)
        have HBf := below_set5 HL.out.bel (Nat.le_trans (Nat.le_succ _) (Nat.le_succ _) : w.heap.size ≤ w.heap.size + 1 + 1) (.int .i64 nd) (.int .i64 f0) (.int .i64 f1) (.int .i64 f2) (.int .i64 mn)
        unfold set5 at HF HBf
        generalize (((((wa.setCell ⟨w.heap.size + 1 + 1, 0, none⟩ (.int .i64 nd)).setCell ⟨w.heap.size + 1 + 1, 1, none⟩ (.int .i64 f0)).setCell ⟨w.heap.size + 1 + 1, 2, none⟩ (.int .i64 f1)).setCell ⟨w.heap.size + 1 + 1, 3, none⟩ (.int .i64 f2)).setCell ⟨w.heap.size + 1 + 1, 4, none⟩ (.int .i64 mn)) = wf at HF HBf ⊢
        have e0 := HF.c0
        have e1 := HF.c1
        have e2 := HF.c2
        have e3 := HF.c3
        have e4 := HF.c4
        refine bodyPost_ret (v := .agg #[.int .i64 nd, .int .i64 f0, .int .i64 f1, .int .i64 f2, .int .i64 mn]) (by simp [results, go_sem, e0, e1, e2, e3, e4]) rfl ?_
        exact ⟨by rw [E.out], HBf⟩
theorem orSplit_any (p : Plan) (s : Row) (v : Nat) (w : World) (hn : p.need ≤ 20) (hm : p.many ≤ 1000) (hv : v ≤ 20) :
    Calls Try.prog 130 #[.agg #[.int .i64 (p.need : Int), .int .i64 (p.first.1 : Int), .int .i64 (p.first.2.1 : Int), .int .i64 (p.first.2.2 : Int), .int .i64 (p.many : Int)], .agg #[.int .i64 (s.1 : Int), .int .i64 (s.2.1 : Int), .int .i64 (s.2.2 : Int)], .int .i64 (v : Int)] w fun e w' =>
      e = .returned (.agg #[.int .i64 ((p.or s v).need : Int), .int .i64 ((p.or s v).first.1 : Int), .int .i64 ((p.or s v).first.2.1 : Int), .int .i64 ((p.or s v).first.2.2 : Int), .int .i64 ((p.or s v).many : Int)]) ∧ Below w.heap.size w w' := by
  refine orSplit_int _ _ _ _ _ _ _ _ _ w (by omega) (by omega) (by omega) _ ?_
  unfold Plan.or
  by_cases h0 : p.many = 0 ∨ v < p.need
  · have hI : (p.many : Int) = 0 ∨ (v : Int) < (p.need : Int) := by omega
    rw [if_pos h0, if_pos hI]
    rfl
  · have hI : ¬ ((p.many : Int) = 0 ∨ (v : Int) < (p.need : Int)) := by omega
    rw [if_neg h0, if_neg hI]
    by_cases h2 : v = p.need
    · have hJ : (v : Int) = (p.need : Int) := by omega
      rw [if_pos h2, if_pos hJ]
      simp
    · have hJ : ¬ ((v : Int) = (p.need : Int)) := by omega
      rw [if_neg h2, if_neg hJ]
end Go.Proofs.Ytdkffkgoalgjmab
namespace Go.Proofs.Ytdkffkgoalgjmab
open Go.RowKit Go.ChangeShapes Go.WideShapes
set_option linter.unusedVariables false

/-- planOf of counts of less than so much. -/
def PlanLess (m : Nat) : Prop := ∀ (r : Row), massR r < m → rsum r ≤ 8 → ∀ (w : World) (M : Nat), PlanM w M →
  Calls Try.prog 108 #[.map (some M), .agg #[.int .i64 (r.1 : Int), .int .i64 (r.2.1 : Int), .int .i64 (r.2.2 : Int)]] w fun e w' => e = .returned (planV (planR r)) ∧ PlanM w' M ∧ Within M (M + 1) w w'
structure SW (w0 : World) (M : Nat) (r s : Row) (W : World) : Prop where
  pm : PlanM W M
  t4 : Three W w0.heap.size (.int .i64 (r.1 : Int)) (.int .i64 (r.2.1 : Int)) (.int .i64 (r.2.2 : Int))
  t5 : Three W (w0.heap.size + 1) (.int .i64 (s.1 : Int)) (.int .i64 (s.2.1 : Int)) (.int .i64 (s.2.2 : Int))
  wi : Within M (M + 1) w0 W
theorem SW.step {w0 W W' : World} {M : Nat} {r s : Row} (h : SW w0 M r s W) (hM : M < w0.heap.size) (hw : Within M (M + 1) W W') (pm : PlanM W' M) : SW w0 M r s W' :=
  ⟨pm, h.t4.within hw (.inr (by omega)), h.t5.within hw (.inr (by omega)), h.wi.trans hw⟩
theorem SW.below {w0 W W' : World} {M : Nat} {r s : Row} (h : SW w0 M r s W) (hM : M < w0.heap.size) (hb : Below W.heap.size W W') : SW w0 M r s W' := h.step hM (Within.of_below hb) (h.pm.step hb)
theorem within_far {lo hi g : Nat} {a w : World} (h : Within lo hi a w) (hg : a.heap.size ≤ g) (i : Nat) (u : Value) : Within lo hi a (w.setCell ⟨g, i, none⟩ u) :=
  ⟨h.os, h.tape, h.output, by simpa [World.setCell] using h.size, fun j hj hn => (Below.heap_setCell w ⟨g, i, none⟩ u j (fun e => by have e' : j = g := e; omega)).trans (h.block j hj hn)⟩
theorem within_far5 {lo hi g : Nat} {a w : World} (h : Within lo hi a w) (hg : a.heap.size ≤ g) (y0 y1 y2 y3 y4 : Value) : Within lo hi a (set5 w g y0 y1 y2 y3 y4) :=
  within_far (within_far (within_far (within_far (within_far h hg _ _) hg _ _) hg _ _) hg _ _) hg _ _
theorem SW.far {w0 W : World} {M g : Nat} {r s : Row} (h : SW w0 M r s W) (hM : M < w0.heap.size) (hg : w0.heap.size + 1 < g) (y0 y1 y2 y3 y4 : Value) : SW w0 M r s (set5 W g y0 y1 y2 y3 y4) :=
  ⟨h.pm.heap (block_set5 (by omega) _ _ _ _ _), ⟨(block_set5 (by omega) _ _ _ _ _).trans h.t4.row⟩, ⟨(block_set5 (by omega) _ _ _ _ _).trans h.t5.row⟩, within_far5 h.wi (by omega) _ _ _ _ _⟩
theorem Five.within {w w' : World} {b lo hi : Nat} {x0 x1 x2 x3 x4 : Value} (h : Five w b x0 x1 x2 x3 x4) (hb : Within lo hi w w') (hd : b < lo ∨ hi ≤ b) : Five w' b x0 x1 x2 x3 x4 := ⟨(hb.block b h.lt hd).trans h.row⟩
theorem Five.far5 {w : World} {b g : Nat} {x0 x1 x2 x3 x4 : Value} (h : Five w b x0 x1 x2 x3 x4) (hne : b ≠ g) (y0 y1 y2 y3 y4 : Value) : Five (set5 w g y0 y1 y2 y3 y4) b x0 x1 x2 x3 x4 := ⟨(block_set5 hne _ _ _ _ _).trans h.row⟩
theorem field_need (x0 x1 x2 x3 x4 : Int) (w : World) : (Instr.field 76 (.agg #[.int .i64 x0, .int .i64 x1, .int .i64 x2, .int .i64 x3, .int .i64 x4]) 0).run Try.prog w = .ok (.int .i64 x0) w := by kernel_rfl
set_option maxRecDepth 100000 in
set_option maxHeartbeats 4000000 in
theorem needOf_of (m : Nat) (HP : PlanLess m) (r : Row) (w : World) (M : Nat) (hr : massR r < m) (h8 : rsum r ≤ 8) (hpm : PlanM w M) :
    Calls Try.prog 60 #[.map (some M), .agg #[.int .i64 (r.1 : Int), .int .i64 (r.2.1 : Int), .int .i64 (r.2.2 : Int)]] w fun e w' => e = .returned (.int .i64 ((needR r : Nat) : Int)) ∧ PlanM w' M ∧ Within M (M + 1) w w' := by
  have HPl := Lib.hid (fun W h => HP r hr h8 W M h)
  have HNe := Lib.hid (plan_need h8)
  have B1 := (Below.refl w.heap.size w).alloc (Nat.le_refl _) (.cells #[.int .i64 (r.1 : Int), .int .i64 (r.2.1 : Int), .int .i64 (r.2.2 : Int)] 66)
  have HT := Lib.hid (Three.new w (.int .i64 (r.1 : Int)) (.int .i64 (r.2.1 : Int)) (.int .i64 (r.2.2 : Int)) w.heap.size rfl)
  have HM := Lib.hid (hpm.step B1)
  have HW := Lib.hid (Within.of_below B1 : Within M (M + 1) w _)
  have hfd := field_need
  clear B1 hpm HP
  go_enter Try.func60, Try.ntmps60
  have h0 := HT.out.c0
  have h1 := HT.out.c1
  have h2 := HT.out.c2
  go_wp2_with fail
  generalize w.alloc (.cells #[.int .i64 (r.1 : Int), .int .i64 (r.2.1 : Int), .int .i64 (r.2.2 : Int)] 66) = wa at HT HM HW h0 h1 h2 ⊢
  refine (HPl.out wa HM.out).mono ?_
  rintro e w2 ⟨rfl, hpm2, hw2⟩
  have HM2 := Lib.hid hpm2
  have HW2 := Lib.hid (HW.out.trans hw2)
  clear hpm2 hw2 h0 h1 h2
  simp only [planV]
  rw [HNe.out]
  go_wp2
  go_ret
  exact ⟨rfl, HM2.out, HW2.out⟩
def sAct (n M : Nat) (r s : Row) (v7 v8 v9 v10 v11 v12 v13 v14 v15 v16 v17 v18 v6 : Value) : Act :=
  { tmps := #[.map (some M), rowV r, rowV s, undef, .pointer (some ⟨n, 0, none⟩), .pointer (some ⟨n + 1, 0, none⟩), v6, v7, v8, v9, v10, v11, v12, v13, v14, v15, v16, v17, v18], defers := [] }
structure SInv (w0 : World) (M : Nat) (r s : Row) (ny nn x y : Nat) (D : Nat → Bool) (v7 v8 v9 v10 v11 v12 v13 v14 v15 v16 v17 v18 v6 : Value) (W : World) : Prop where
  sw : SW w0 M r s W
  s7 : D 0 = true → v7 = .map (some M)
  s8 : D 1 = true → v8 = rowV r
  s9 : D 2 = true → v9 = rowV s
  s10 : D 3 = true → v10 = rowV (yesR r s)
  s11 : D 4 = true → v11 = .int .i64 (ny : Int)
  s12 : D 5 = true → v12 = .map (some M)
  s13 : D 6 = true → v13 = rowV r
  s14 : D 7 = true → v14 = rowV s
  s15 : D 8 = true → v15 = rowV (noR r s)
  s16 : D 9 = true → v16 = .int .i64 (nn : Int)
  s17 : D 10 = true → v17 = .int .i64 (x : Int)
  s18 : D 11 = true → v18 = .int .i64 (y : Int)
  s6 : D 12 = true → v6 = .int .i64 (y : Int)
set_option maxRecDepth 100000 in
set_option maxHeartbeats 8000000 in
theorem splitNeed_of (m : Nat) (HP : PlanLess m) (r s : Row) (w : World) (M : Nat) (h8 : rsum r ≤ 8) (hf : Fits s r) (hy : massR (yesR r s) < m) (hn : massR (noR r s) < m) (hpm : PlanM w M) :
    Calls Try.prog 69 #[.map (some M), .agg #[.int .i64 (r.1 : Int), .int .i64 (r.2.1 : Int), .int .i64 (r.2.2 : Int)], .agg #[.int .i64 (s.1 : Int), .int .i64 (s.2.1 : Int), .int .i64 (s.2.2 : Int)]] w fun e w' => e = .returned (.int .i64 ((valR r s : Nat) : Int)) ∧ PlanM w' M ∧ Within M (M + 1) w w' := by
  have hM := hpm.lt
  have h8s := yes_sum h8 hf
  have B1 := (Below.refl w.heap.size w).alloc (Nat.le_refl _) (.cells #[.int .i64 (r.1 : Int), .int .i64 (r.2.1 : Int), .int .i64 (r.2.2 : Int)] 66)
  have T1 := Three.new w (.int .i64 (r.1 : Int)) (.int .i64 (r.2.1 : Int)) (.int .i64 (r.2.2 : Int)) w.heap.size rfl
  have HB := Lib.hid (B1.alloc B1.size (.cells #[.int .i64 (s.1 : Int), .int .i64 (s.2.1 : Int), .int .i64 (s.2.2 : Int)] 66))
  have HT2 := Lib.hid (Three.new (w.alloc (.cells #[.int .i64 (r.1 : Int), .int .i64 (r.2.1 : Int), .int .i64 (r.2.2 : Int)] 66)) (.int .i64 (s.1 : Int)) (.int .i64 (s.2.1 : Int)) (.int .i64 (s.2.2 : Int)) (w.heap.size + 1) (by simp))
  have HT1 := Lib.hid (T1.step ((Below.refl _ (w.alloc (.cells #[.int .i64 (r.1 : Int), .int .i64 (r.2.1 : Int), .int .i64 (r.2.2 : Int)] 66))).alloc (Nat.le_refl _) (.cells #[.int .i64 (s.1 : Int), .int .i64 (s.2.1 : Int), .int .i64 (s.2.2 : Int)] 66)))
  have HCY := Lib.hid (fun W => yesRow_any r s W h8 hf)
  have HCN := Lib.hid (fun W => noRow_any r s W h8 hf)
  have HPY := Lib.hid (fun W h => needOf_of m HP (yesR r s) W M hy h8s.1 h)
  have HPN := Lib.hid (fun W h => needOf_of m HP (noR r s) W M hn h8s.2 h)
  have hny := need_le h8s.1
  have hnn := need_le h8s.2
  have HV : Hid (valR r s = 1 + max (needR (yesR r s)) (needR (noR r s))) := Lib.hid rfl
  have HSW : Hid (SW w M r s ((w.alloc (.cells #[.int .i64 (r.1 : Int), .int .i64 (r.2.1 : Int), .int .i64 (r.2.2 : Int)] 66)).alloc (.cells #[.int .i64 (s.1 : Int), .int .i64 (s.2.1 : Int), .int .i64 (s.2.2 : Int)] 66))) := Lib.hid ⟨hpm.below HB.out hM, HT1.out, HT2.out, Within.of_below HB.out⟩
  generalize valR r s = y at HV ⊢
  generalize needR (yesR r s) = ny at HPY hny HV
  generalize needR (noR r s) = nn at HPN hnn HV
  clear B1 T1 HB HT1 HT2 hpm HP
  obtain ⟨x, hx, hyx, hc⟩ : ∃ x : Nat, x = max ny nn ∧ y = 1 + x ∧ (¬ ny < nn ∧ x = ny ∨ ny < nn ∧ x = nn) := ⟨max ny nn, rfl, HV.out, by omega⟩
  have hwr : (1 + (x : Int)) = (y : Int) := by omega
  have hwy : IntKind.i64.wrap (y : Int) = (y : Int) := IntWalk.i64_in _ (by omega)
  clear HV hx hyx
  rcases hc with ⟨hle, rfl⟩ | ⟨hle, rfl⟩
  · go_enter Try.func69, Try.ntmps69
    go_upto_region 1 with fail
    generalize (w.alloc (.cells #[.int .i64 (r.1 : Int), .int .i64 (r.2.1 : Int), .int .i64 (r.2.2 : Int)] 66)).alloc (.cells #[.int .i64 (s.1 : Int), .int .i64 (s.2.1 : Int), .int .i64 (s.2.2 : Int)] 66) = wa at HSW ⊢
    refine wp_region_noPanic ?_
    refine wp_region_inv (by kernel_rfl) (by kernel_rfl) (fun D A W => ∃ v7 v8 v9 v10 v11 v12 v13 v14 v15 v16 v17 v18 v6, A = sAct w.heap.size M r s v7 v8 v9 v10 v11 v12 v13 v14 v15 v16 v17 v18 v6 ∧ SInv w M r s x nn x y D v7 v8 v9 v10 v11 v12 v13 v14 v15 v16 v17 v18 v6 W) ?h0 ?hs ?hd
    case h0 => exact ⟨undef, undef, undef, undef, undef, undef, undef, undef, undef, undef, undef, undef, .int .i64 0, rfl, ⟨HSW.out.below hM (Below.refl _ wa).drew, nofun, nofun, nofun, nofun, nofun, nofun, nofun, nofun, nofun, nofun, nofun, nofun, nofun⟩⟩
    case hs =>
      rintro D _ W ⟨v7, v8, v9, v10, v11, v12, v13, v14, v15, v16, v17, v18, v6, rfl, hI⟩ i o ho hD hA K hK
      have hi : i < 13 := (Array.getElem?_eq_some_iff.1 ho).1
      have HI := Lib.hid hI
      have HK := Lib.hid hK
      clear hI hK
      obtain rfl | rfl | rfl | rfl | rfl | rfl | rfl | rfl | rfl | rfl | rfl | rfl | rfl : i = 0 ∨ i = 1 ∨ i = 2 ∨ i = 3 ∨ i = 4 ∨ i = 5 ∨ i = 6 ∨ i = 7 ∨ i = 8 ∨ i = 9 ∨ i = 10 ∨ i = 11 ∨ i = 12 := by omega
      all_goals (obtain rfl := Option.some.inj ho; clear ho hi; simp [Region.binds] at hA; unfold sAct)
      · skip
        go_simp
        exact HK.out _ _ ⟨_, _, _, _, _, _, _, _, _, _, _, _, _, rfl, ⟨(HI.out.sw), (fun _ => rfl), (by first | exact fun _ => rfl | simpa using HI.out.s8), (by first | exact fun _ => rfl | simpa using HI.out.s9), (by first | exact fun _ => rfl | simpa using HI.out.s10), (by first | exact fun _ => rfl | simpa using HI.out.s11), (by first | exact fun _ => rfl | simpa using HI.out.s12), (by first | exact fun _ => rfl | simpa using HI.out.s13), (by first | exact fun _ => rfl | simpa using HI.out.s14), (by first | exact fun _ => rfl | simpa using HI.out.s15), (by first | exact fun _ => rfl | simpa using HI.out.s16), (by first | exact fun _ => rfl | simpa using HI.out.s17), (by first | exact fun _ => rfl | simpa using HI.out.s18), (by first | exact fun _ => rfl | simpa using HI.out.s6)⟩⟩
      · have h0 := HI.out.sw.t4.c0
        have h1 := HI.out.sw.t4.c1
        have h2 := HI.out.sw.t4.c2
        go_simp
        exact HK.out _ _ ⟨_, _, _, _, _, _, _, _, _, _, _, _, _, rfl, ⟨(HI.out.sw), (by first | exact fun _ => rfl | simpa using HI.out.s7), (fun _ => rfl), (by first | exact fun _ => rfl | simpa using HI.out.s9), (by first | exact fun _ => rfl | simpa using HI.out.s10), (by first | exact fun _ => rfl | simpa using HI.out.s11), (by first | exact fun _ => rfl | simpa using HI.out.s12), (by first | exact fun _ => rfl | simpa using HI.out.s13), (by first | exact fun _ => rfl | simpa using HI.out.s14), (by first | exact fun _ => rfl | simpa using HI.out.s15), (by first | exact fun _ => rfl | simpa using HI.out.s16), (by first | exact fun _ => rfl | simpa using HI.out.s17), (by first | exact fun _ => rfl | simpa using HI.out.s18), (by first | exact fun _ => rfl | simpa using HI.out.s6)⟩⟩
      · have h0 := HI.out.sw.t5.c0
        have h1 := HI.out.sw.t5.c1
        have h2 := HI.out.sw.t5.c2
        go_simp
        exact HK.out _ _ ⟨_, _, _, _, _, _, _, _, _, _, _, _, _, rfl, ⟨(HI.out.sw), (by first | exact fun _ => rfl | simpa using HI.out.s7), (by first | exact fun _ => rfl | simpa using HI.out.s8), (fun _ => rfl), (by first | exact fun _ => rfl | simpa using HI.out.s10), (by first | exact fun _ => rfl | simpa using HI.out.s11), (by first | exact fun _ => rfl | simpa using HI.out.s12), (by first | exact fun _ => rfl | simpa using HI.out.s13), (by first | exact fun _ => rfl | simpa using HI.out.s14), (by first | exact fun _ => rfl | simpa using HI.out.s15), (by first | exact fun _ => rfl | simpa using HI.out.s16), (by first | exact fun _ => rfl | simpa using HI.out.s17), (by first | exact fun _ => rfl | simpa using HI.out.s18), (by first | exact fun _ => rfl | simpa using HI.out.s6)⟩⟩
      · obtain rfl := HI.out.s8 (by simp_all)
        obtain rfl := HI.out.s9 (by simp_all)
        simp only [rowV]
        go_simp
        refine (HCY.out W).mono ?_
        rintro e w1 ⟨rfl, hb1⟩
        skip
        exact HK.out _ _ ⟨_, _, _, _, _, _, _, _, _, _, _, _, _, rfl, ⟨(HI.out.sw.below hM hb1), (by first | exact fun _ => rfl | simpa using HI.out.s7), (by first | exact fun _ => rfl | simpa using HI.out.s8), (by first | exact fun _ => rfl | simpa using HI.out.s9), (fun _ => rfl), (by first | exact fun _ => rfl | simpa using HI.out.s11), (by first | exact fun _ => rfl | simpa using HI.out.s12), (by first | exact fun _ => rfl | simpa using HI.out.s13), (by first | exact fun _ => rfl | simpa using HI.out.s14), (by first | exact fun _ => rfl | simpa using HI.out.s15), (by first | exact fun _ => rfl | simpa using HI.out.s16), (by first | exact fun _ => rfl | simpa using HI.out.s17), (by first | exact fun _ => rfl | simpa using HI.out.s18), (by first | exact fun _ => rfl | simpa using HI.out.s6)⟩⟩
      · obtain rfl := HI.out.s7 (by simp_all)
        obtain rfl := HI.out.s10 (by simp_all)
        simp only [rowV]
        go_simp
        refine (HPY.out W HI.out.sw.pm).mono ?_
        rintro e w1 ⟨rfl, hpm1, hw1⟩
        skip
        exact HK.out _ _ ⟨_, _, _, _, _, _, _, _, _, _, _, _, _, rfl, ⟨(HI.out.sw.step hM hw1 hpm1), (by first | exact fun _ => rfl | simpa using HI.out.s7), (by first | exact fun _ => rfl | simpa using HI.out.s8), (by first | exact fun _ => rfl | simpa using HI.out.s9), (by first | exact fun _ => rfl | simpa using HI.out.s10), (fun _ => rfl), (by first | exact fun _ => rfl | simpa using HI.out.s12), (by first | exact fun _ => rfl | simpa using HI.out.s13), (by first | exact fun _ => rfl | simpa using HI.out.s14), (by first | exact fun _ => rfl | simpa using HI.out.s15), (by first | exact fun _ => rfl | simpa using HI.out.s16), (by first | exact fun _ => rfl | simpa using HI.out.s17), (by first | exact fun _ => rfl | simpa using HI.out.s18), (by first | exact fun _ => rfl | simpa using HI.out.s6)⟩⟩
      · skip
        go_simp
        exact HK.out _ _ ⟨_, _, _, _, _, _, _, _, _, _, _, _, _, rfl, ⟨(HI.out.sw), (by first | exact fun _ => rfl | simpa using HI.out.s7), (by first | exact fun _ => rfl | simpa using HI.out.s8), (by first | exact fun _ => rfl | simpa using HI.out.s9), (by first | exact fun _ => rfl | simpa using HI.out.s10), (by first | exact fun _ => rfl | simpa using HI.out.s11), (fun _ => rfl), (by first | exact fun _ => rfl | simpa using HI.out.s13), (by first | exact fun _ => rfl | simpa using HI.out.s14), (by first | exact fun _ => rfl | simpa using HI.out.s15), (by first | exact fun _ => rfl | simpa using HI.out.s16), (by first | exact fun _ => rfl | simpa using HI.out.s17), (by first | exact fun _ => rfl | simpa using HI.out.s18), (by first | exact fun _ => rfl | simpa using HI.out.s6)⟩⟩
      · have h0 := HI.out.sw.t4.c0
        have h1 := HI.out.sw.t4.c1
        have h2 := HI.out.sw.t4.c2
        go_simp
        exact HK.out _ _ ⟨_, _, _, _, _, _, _, _, _, _, _, _, _, rfl, ⟨(HI.out.sw), (by first | exact fun _ => rfl | simpa using HI.out.s7), (by first | exact fun _ => rfl | simpa using HI.out.s8), (by first | exact fun _ => rfl | simpa using HI.out.s9), (by first | exact fun _ => rfl | simpa using HI.out.s10), (by first | exact fun _ => rfl | simpa using HI.out.s11), (by first | exact fun _ => rfl | simpa using HI.out.s12), (fun _ => rfl), (by first | exact fun _ => rfl | simpa using HI.out.s14), (by first | exact fun _ => rfl | simpa using HI.out.s15), (by first | exact fun _ => rfl | simpa using HI.out.s16), (by first | exact fun _ => rfl | simpa using HI.out.s17), (by first | exact fun _ => rfl | simpa using HI.out.s18), (by first | exact fun _ => rfl | simpa using HI.out.s6)⟩⟩
      · have h0 := HI.out.sw.t5.c0
        have h1 := HI.out.sw.t5.c1
        have h2 := HI.out.sw.t5.c2
        go_simp
        exact HK.out _ _ ⟨_, _, _, _, _, _, _, _, _, _, _, _, _, rfl, ⟨(HI.out.sw), (by first | exact fun _ => rfl | simpa using HI.out.s7), (by first | exact fun _ => rfl | simpa using HI.out.s8), (by first | exact fun _ => rfl | simpa using HI.out.s9), (by first | exact fun _ => rfl | simpa using HI.out.s10), (by first | exact fun _ => rfl | simpa using HI.out.s11), (by first | exact fun _ => rfl | simpa using HI.out.s12), (by first | exact fun _ => rfl | simpa using HI.out.s13), (fun _ => rfl), (by first | exact fun _ => rfl | simpa using HI.out.s15), (by first | exact fun _ => rfl | simpa using HI.out.s16), (by first | exact fun _ => rfl | simpa using HI.out.s17), (by first | exact fun _ => rfl | simpa using HI.out.s18), (by first | exact fun _ => rfl | simpa using HI.out.s6)⟩⟩
      · obtain rfl := HI.out.s13 (by simp_all)
        obtain rfl := HI.out.s14 (by simp_all)
        simp only [rowV]
        go_simp
        refine (HCN.out W).mono ?_
        rintro e w1 ⟨rfl, hb1⟩
        skip
        exact HK.out _ _ ⟨_, _, _, _, _, _, _, _, _, _, _, _, _, rfl, ⟨(HI.out.sw.below hM hb1), (by first | exact fun _ => rfl | simpa using HI.out.s7), (by first | exact fun _ => rfl | simpa using HI.out.s8), (by first | exact fun _ => rfl | simpa using HI.out.s9), (by first | exact fun _ => rfl | simpa using HI.out.s10), (by first | exact fun _ => rfl | simpa using HI.out.s11), (by first | exact fun _ => rfl | simpa using HI.out.s12), (by first | exact fun _ => rfl | simpa using HI.out.s13), (by first | exact fun _ => rfl | simpa using HI.out.s14), (fun _ => rfl), (by first | exact fun _ => rfl | simpa using HI.out.s16), (by first | exact fun _ => rfl | simpa using HI.out.s17), (by first | exact fun _ => rfl | simpa using HI.out.s18), (by first | exact fun _ => rfl | simpa using HI.out.s6)⟩⟩
      · obtain rfl := HI.out.s12 (by simp_all)
        obtain rfl := HI.out.s15 (by simp_all)
        simp only [rowV]
        go_simp
        refine (HPN.out W HI.out.sw.pm).mono ?_
        rintro e w1 ⟨rfl, hpm1, hw1⟩
        skip
        exact HK.out _ _ ⟨_, _, _, _, _, _, _, _, _, _, _, _, _, rfl, ⟨(HI.out.sw.step hM hw1 hpm1), (by first | exact fun _ => rfl | simpa using HI.out.s7), (by first | exact fun _ => rfl | simpa using HI.out.s8), (by first | exact fun _ => rfl | simpa using HI.out.s9), (by first | exact fun _ => rfl | simpa using HI.out.s10), (by first | exact fun _ => rfl | simpa using HI.out.s11), (by first | exact fun _ => rfl | simpa using HI.out.s12), (by first | exact fun _ => rfl | simpa using HI.out.s13), (by first | exact fun _ => rfl | simpa using HI.out.s14), (by first | exact fun _ => rfl | simpa using HI.out.s15), (fun _ => rfl), (by first | exact fun _ => rfl | simpa using HI.out.s17), (by first | exact fun _ => rfl | simpa using HI.out.s18), (by first | exact fun _ => rfl | simpa using HI.out.s6)⟩⟩
      · obtain rfl := HI.out.s11 (by simp_all)
        obtain rfl := HI.out.s16 (by simp_all)
        go_simp
        try simp only [if_neg hle]
        skip
        exact HK.out _ _ ⟨_, _, _, _, _, _, _, _, _, _, _, _, _, rfl, ⟨(HI.out.sw), (by first | exact fun _ => rfl | simpa using HI.out.s7), (by first | exact fun _ => rfl | simpa using HI.out.s8), (by first | exact fun _ => rfl | simpa using HI.out.s9), (by first | exact fun _ => rfl | simpa using HI.out.s10), (by first | exact fun _ => rfl | simpa using HI.out.s11), (by first | exact fun _ => rfl | simpa using HI.out.s12), (by first | exact fun _ => rfl | simpa using HI.out.s13), (by first | exact fun _ => rfl | simpa using HI.out.s14), (by first | exact fun _ => rfl | simpa using HI.out.s15), (by first | exact fun _ => rfl | simpa using HI.out.s16), (fun _ => rfl), (by first | exact fun _ => rfl | simpa using HI.out.s18), (by first | exact fun _ => rfl | simpa using HI.out.s6)⟩⟩
      · obtain rfl := HI.out.s17 (by simp_all)
        go_simp
        skip
        exact HK.out _ _ ⟨_, _, _, _, _, _, _, _, _, _, _, _, _, rfl, ⟨(HI.out.sw), (by first | exact fun _ => rfl | simpa using HI.out.s7), (by first | exact fun _ => rfl | simpa using HI.out.s8), (by first | exact fun _ => rfl | simpa using HI.out.s9), (by first | exact fun _ => rfl | simpa using HI.out.s10), (by first | exact fun _ => rfl | simpa using HI.out.s11), (by first | exact fun _ => rfl | simpa using HI.out.s12), (by first | exact fun _ => rfl | simpa using HI.out.s13), (by first | exact fun _ => rfl | simpa using HI.out.s14), (by first | exact fun _ => rfl | simpa using HI.out.s15), (by first | exact fun _ => rfl | simpa using HI.out.s16), (by first | exact fun _ => rfl | simpa using HI.out.s17), (fun _ => rfl), (by first | exact fun _ => rfl | simpa using HI.out.s6)⟩⟩
      · obtain rfl := HI.out.s18 (by simp_all)
        go_simp
        skip
        exact HK.out _ _ ⟨_, _, _, _, _, _, _, _, _, _, _, _, _, rfl, ⟨(HI.out.sw), (by first | exact fun _ => rfl | simpa using HI.out.s7), (by first | exact fun _ => rfl | simpa using HI.out.s8), (by first | exact fun _ => rfl | simpa using HI.out.s9), (by first | exact fun _ => rfl | simpa using HI.out.s10), (by first | exact fun _ => rfl | simpa using HI.out.s11), (by first | exact fun _ => rfl | simpa using HI.out.s12), (by first | exact fun _ => rfl | simpa using HI.out.s13), (by first | exact fun _ => rfl | simpa using HI.out.s14), (by first | exact fun _ => rfl | simpa using HI.out.s15), (by first | exact fun _ => rfl | simpa using HI.out.s16), (by first | exact fun _ => rfl | simpa using HI.out.s17), (by first | exact fun _ => rfl | simpa using HI.out.s18), (fun _ => rfl)⟩⟩
    case hd =>
      rintro D _ W ⟨v7, v8, v9, v10, v11, v12, v13, v14, v15, v16, v17, v18, v6, rfl, hI⟩ hall
      have hall : ∀ i, i < 13 → D i = true := hall
      obtain rfl := hI.s6 (hall 12 (by omega))
      have HS := Lib.hid hI.sw
      clear hI hall
      simp only [sAct, rowV]
      refine NoPanic.normal ?_
      go_wp2
      go_ret
      exact ⟨rfl, HS.out.pm, HS.out.wi⟩
  · go_enter Try.func69, Try.ntmps69
    go_upto_region 1 with fail
    generalize (w.alloc (.cells #[.int .i64 (r.1 : Int), .int .i64 (r.2.1 : Int), .int .i64 (r.2.2 : Int)] 66)).alloc (.cells #[.int .i64 (s.1 : Int), .int .i64 (s.2.1 : Int), .int .i64 (s.2.2 : Int)] 66) = wa at HSW ⊢
    refine wp_region_noPanic ?_
    refine wp_region_inv (by kernel_rfl) (by kernel_rfl) (fun D A W => ∃ v7 v8 v9 v10 v11 v12 v13 v14 v15 v16 v17 v18 v6, A = sAct w.heap.size M r s v7 v8 v9 v10 v11 v12 v13 v14 v15 v16 v17 v18 v6 ∧ SInv w M r s ny x x y D v7 v8 v9 v10 v11 v12 v13 v14 v15 v16 v17 v18 v6 W) ?h0 ?hs ?hd
    case h0 => exact ⟨undef, undef, undef, undef, undef, undef, undef, undef, undef, undef, undef, undef, .int .i64 0, rfl, ⟨HSW.out.below hM (Below.refl _ wa).drew, nofun, nofun, nofun, nofun, nofun, nofun, nofun, nofun, nofun, nofun, nofun, nofun, nofun⟩⟩
    case hs =>
      rintro D _ W ⟨v7, v8, v9, v10, v11, v12, v13, v14, v15, v16, v17, v18, v6, rfl, hI⟩ i o ho hD hA K hK
      have hi : i < 13 := (Array.getElem?_eq_some_iff.1 ho).1
      have HI := Lib.hid hI
      have HK := Lib.hid hK
      clear hI hK
      obtain rfl | rfl | rfl | rfl | rfl | rfl | rfl | rfl | rfl | rfl | rfl | rfl | rfl : i = 0 ∨ i = 1 ∨ i = 2 ∨ i = 3 ∨ i = 4 ∨ i = 5 ∨ i = 6 ∨ i = 7 ∨ i = 8 ∨ i = 9 ∨ i = 10 ∨ i = 11 ∨ i = 12 := by omega
      all_goals (obtain rfl := Option.some.inj ho; clear ho hi; simp [Region.binds] at hA; unfold sAct)
      · skip
        go_simp
        exact HK.out _ _ ⟨_, _, _, _, _, _, _, _, _, _, _, _, _, rfl, ⟨(HI.out.sw), (fun _ => rfl), (by first | exact fun _ => rfl | simpa using HI.out.s8), (by first | exact fun _ => rfl | simpa using HI.out.s9), (by first | exact fun _ => rfl | simpa using HI.out.s10), (by first | exact fun _ => rfl | simpa using HI.out.s11), (by first | exact fun _ => rfl | simpa using HI.out.s12), (by first | exact fun _ => rfl | simpa using HI.out.s13), (by first | exact fun _ => rfl | simpa using HI.out.s14), (by first | exact fun _ => rfl | simpa using HI.out.s15), (by first | exact fun _ => rfl | simpa using HI.out.s16), (by first | exact fun _ => rfl | simpa using HI.out.s17), (by first | exact fun _ => rfl | simpa using HI.out.s18), (by first | exact fun _ => rfl | simpa using HI.out.s6)⟩⟩
      · have h0 := HI.out.sw.t4.c0
        have h1 := HI.out.sw.t4.c1
        have h2 := HI.out.sw.t4.c2
        go_simp
        exact HK.out _ _ ⟨_, _, _, _, _, _, _, _, _, _, _, _, _, rfl, ⟨(HI.out.sw), (by first | exact fun _ => rfl | simpa using HI.out.s7), (fun _ => rfl), (by first | exact fun _ => rfl | simpa using HI.out.s9), (by first | exact fun _ => rfl | simpa using HI.out.s10), (by first | exact fun _ => rfl | simpa using HI.out.s11), (by first | exact fun _ => rfl | simpa using HI.out.s12), (by first | exact fun _ => rfl | simpa using HI.out.s13), (by first | exact fun _ => rfl | simpa using HI.out.s14), (by first | exact fun _ => rfl | simpa using HI.out.s15), (by first | exact fun _ => rfl | simpa using HI.out.s16), (by first | exact fun _ => rfl | simpa using HI.out.s17), (by first | exact fun _ => rfl | simpa using HI.out.s18), (by first | exact fun _ => rfl | simpa using HI.out.s6)⟩⟩
      · have h0 := HI.out.sw.t5.c0
        have h1 := HI.out.sw.t5.c1
        have h2 := HI.out.sw.t5.c2
        go_simp
        exact HK.out _ _ ⟨_, _, _, _, _, _, _, _, _, _, _, _, _, rfl, ⟨(HI.out.sw), (by first | exact fun _ => rfl | simpa using HI.out.s7), (by first | exact fun _ => rfl | simpa using HI.out.s8), (fun _ => rfl), (by first | exact fun _ => rfl | simpa using HI.out.s10), (by first | exact fun _ => rfl | simpa using HI.out.s11), (by first | exact fun _ => rfl | simpa using HI.out.s12), (by first | exact fun _ => rfl | simpa using HI.out.s13), (by first | exact fun _ => rfl | simpa using HI.out.s14), (by first | exact fun _ => rfl | simpa using HI.out.s15), (by first | exact fun _ => rfl | simpa using HI.out.s16), (by first | exact fun _ => rfl | simpa using HI.out.s17), (by first | exact fun _ => rfl | simpa using HI.out.s18), (by first | exact fun _ => rfl | simpa using HI.out.s6)⟩⟩
      · obtain rfl := HI.out.s8 (by simp_all)
        obtain rfl := HI.out.s9 (by simp_all)
        simp only [rowV]
        go_simp
        refine (HCY.out W).mono ?_
        rintro e w1 ⟨rfl, hb1⟩
        skip
        exact HK.out _ _ ⟨_, _, _, _, _, _, _, _, _, _, _, _, _, rfl, ⟨(HI.out.sw.below hM hb1), (by first | exact fun _ => rfl | simpa using HI.out.s7), (by first | exact fun _ => rfl | simpa using HI.out.s8), (by first | exact fun _ => rfl | simpa using HI.out.s9), (fun _ => rfl), (by first | exact fun _ => rfl | simpa using HI.out.s11), (by first | exact fun _ => rfl | simpa using HI.out.s12), (by first | exact fun _ => rfl | simpa using HI.out.s13), (by first | exact fun _ => rfl | simpa using HI.out.s14), (by first | exact fun _ => rfl | simpa using HI.out.s15), (by first | exact fun _ => rfl | simpa using HI.out.s16), (by first | exact fun _ => rfl | simpa using HI.out.s17), (by first | exact fun _ => rfl | simpa using HI.out.s18), (by first | exact fun _ => rfl | simpa using HI.out.s6)⟩⟩
      · obtain rfl := HI.out.s7 (by simp_all)
        obtain rfl := HI.out.s10 (by simp_all)
        simp only [rowV]
        go_simp
        refine (HPY.out W HI.out.sw.pm).mono ?_
        rintro e w1 ⟨rfl, hpm1, hw1⟩
        skip
        exact HK.out _ _ ⟨_, _, _, _, _, _, _, _, _, _, _, _, _, rfl, ⟨(HI.out.sw.step hM hw1 hpm1), (by first | exact fun _ => rfl | simpa using HI.out.s7), (by first | exact fun _ => rfl | simpa using HI.out.s8), (by first | exact fun _ => rfl | simpa using HI.out.s9), (by first | exact fun _ => rfl | simpa using HI.out.s10), (fun _ => rfl), (by first | exact fun _ => rfl | simpa using HI.out.s12), (by first | exact fun _ => rfl | simpa using HI.out.s13), (by first | exact fun _ => rfl | simpa using HI.out.s14), (by first | exact fun _ => rfl | simpa using HI.out.s15), (by first | exact fun _ => rfl | simpa using HI.out.s16), (by first | exact fun _ => rfl | simpa using HI.out.s17), (by first | exact fun _ => rfl | simpa using HI.out.s18), (by first | exact fun _ => rfl | simpa using HI.out.s6)⟩⟩
      · skip
        go_simp
        exact HK.out _ _ ⟨_, _, _, _, _, _, _, _, _, _, _, _, _, rfl, ⟨(HI.out.sw), (by first | exact fun _ => rfl | simpa using HI.out.s7), (by first | exact fun _ => rfl | simpa using HI.out.s8), (by first | exact fun _ => rfl | simpa using HI.out.s9), (by first | exact fun _ => rfl | simpa using HI.out.s10), (by first | exact fun _ => rfl | simpa using HI.out.s11), (fun _ => rfl), (by first | exact fun _ => rfl | simpa using HI.out.s13), (by first | exact fun _ => rfl | simpa using HI.out.s14), (by first | exact fun _ => rfl | simpa using HI.out.s15), (by first | exact fun _ => rfl | simpa using HI.out.s16), (by first | exact fun _ => rfl | simpa using HI.out.s17), (by first | exact fun _ => rfl | simpa using HI.out.s18), (by first | exact fun _ => rfl | simpa using HI.out.s6)⟩⟩
      · have h0 := HI.out.sw.t4.c0
        have h1 := HI.out.sw.t4.c1
        have h2 := HI.out.sw.t4.c2
        go_simp
        exact HK.out _ _ ⟨_, _, _, _, _, _, _, _, _, _, _, _, _, rfl, ⟨(HI.out.sw), (by first | exact fun _ => rfl | simpa using HI.out.s7), (by first | exact fun _ => rfl | simpa using HI.out.s8), (by first | exact fun _ => rfl | simpa using HI.out.s9), (by first | exact fun _ => rfl | simpa using HI.out.s10), (by first | exact fun _ => rfl | simpa using HI.out.s11), (by first | exact fun _ => rfl | simpa using HI.out.s12), (fun _ => rfl), (by first | exact fun _ => rfl | simpa using HI.out.s14), (by first | exact fun _ => rfl | simpa using HI.out.s15), (by first | exact fun _ => rfl | simpa using HI.out.s16), (by first | exact fun _ => rfl | simpa using HI.out.s17), (by first | exact fun _ => rfl | simpa using HI.out.s18), (by first | exact fun _ => rfl | simpa using HI.out.s6)⟩⟩
      · have h0 := HI.out.sw.t5.c0
        have h1 := HI.out.sw.t5.c1
        have h2 := HI.out.sw.t5.c2
        go_simp
        exact HK.out _ _ ⟨_, _, _, _, _, _, _, _, _, _, _, _, _, rfl, ⟨(HI.out.sw), (by first | exact fun _ => rfl | simpa using HI.out.s7), (by first | exact fun _ => rfl | simpa using HI.out.s8), (by first | exact fun _ => rfl | simpa using HI.out.s9), (by first | exact fun _ => rfl | simpa using HI.out.s10), (by first | exact fun _ => rfl | simpa using HI.out.s11), (by first | exact fun _ => rfl | simpa using HI.out.s12), (by first | exact fun _ => rfl | simpa using HI.out.s13), (fun _ => rfl), (by first | exact fun _ => rfl | simpa using HI.out.s15), (by first | exact fun _ => rfl | simpa using HI.out.s16), (by first | exact fun _ => rfl | simpa using HI.out.s17), (by first | exact fun _ => rfl | simpa using HI.out.s18), (by first | exact fun _ => rfl | simpa using HI.out.s6)⟩⟩
      · obtain rfl := HI.out.s13 (by simp_all)
        obtain rfl := HI.out.s14 (by simp_all)
        simp only [rowV]
        go_simp
        refine (HCN.out W).mono ?_
        rintro e w1 ⟨rfl, hb1⟩
        skip
        exact HK.out _ _ ⟨_, _, _, _, _, _, _, _, _, _, _, _, _, rfl, ⟨(HI.out.sw.below hM hb1), (by first | exact fun _ => rfl | simpa using HI.out.s7), (by first | exact fun _ => rfl | simpa using HI.out.s8), (by first | exact fun _ => rfl | simpa using HI.out.s9), (by first | exact fun _ => rfl | simpa using HI.out.s10), (by first | exact fun _ => rfl | simpa using HI.out.s11), (by first | exact fun _ => rfl | simpa using HI.out.s12), (by first | exact fun _ => rfl | simpa using HI.out.s13), (by first | exact fun _ => rfl | simpa using HI.out.s14), (fun _ => rfl), (by first | exact fun _ => rfl | simpa using HI.out.s16), (by first | exact fun _ => rfl | simpa using HI.out.s17), (by first | exact fun _ => rfl | simpa using HI.out.s18), (by first | exact fun _ => rfl | simpa using HI.out.s6)⟩⟩
      · obtain rfl := HI.out.s12 (by simp_all)
        obtain rfl := HI.out.s15 (by simp_all)
        simp only [rowV]
        go_simp
        refine (HPN.out W HI.out.sw.pm).mono ?_
        rintro e w1 ⟨rfl, hpm1, hw1⟩
        skip
        exact HK.out _ _ ⟨_, _, _, _, _, _, _, _, _, _, _, _, _, rfl, ⟨(HI.out.sw.step hM hw1 hpm1), (by first | exact fun _ => rfl | simpa using HI.out.s7), (by first | exact fun _ => rfl | simpa using HI.out.s8), (by first | exact fun _ => rfl | simpa using HI.out.s9), (by first | exact fun _ => rfl | simpa using HI.out.s10), (by first | exact fun _ => rfl | simpa using HI.out.s11), (by first | exact fun _ => rfl | simpa using HI.out.s12), (by first | exact fun _ => rfl | simpa using HI.out.s13), (by first | exact fun _ => rfl | simpa using HI.out.s14), (by first | exact fun _ => rfl | simpa using HI.out.s15), (fun _ => rfl), (by first | exact fun _ => rfl | simpa using HI.out.s17), (by first | exact fun _ => rfl | simpa using HI.out.s18), (by first | exact fun _ => rfl | simpa using HI.out.s6)⟩⟩
      · obtain rfl := HI.out.s11 (by simp_all)
        obtain rfl := HI.out.s16 (by simp_all)
        go_simp
        try simp only [if_neg hle]
        skip
        exact HK.out _ _ ⟨_, _, _, _, _, _, _, _, _, _, _, _, _, rfl, ⟨(HI.out.sw), (by first | exact fun _ => rfl | simpa using HI.out.s7), (by first | exact fun _ => rfl | simpa using HI.out.s8), (by first | exact fun _ => rfl | simpa using HI.out.s9), (by first | exact fun _ => rfl | simpa using HI.out.s10), (by first | exact fun _ => rfl | simpa using HI.out.s11), (by first | exact fun _ => rfl | simpa using HI.out.s12), (by first | exact fun _ => rfl | simpa using HI.out.s13), (by first | exact fun _ => rfl | simpa using HI.out.s14), (by first | exact fun _ => rfl | simpa using HI.out.s15), (by first | exact fun _ => rfl | simpa using HI.out.s16), (fun _ => rfl), (by first | exact fun _ => rfl | simpa using HI.out.s18), (by first | exact fun _ => rfl | simpa using HI.out.s6)⟩⟩
      · obtain rfl := HI.out.s17 (by simp_all)
        go_simp
        skip
        exact HK.out _ _ ⟨_, _, _, _, _, _, _, _, _, _, _, _, _, rfl, ⟨(HI.out.sw), (by first | exact fun _ => rfl | simpa using HI.out.s7), (by first | exact fun _ => rfl | simpa using HI.out.s8), (by first | exact fun _ => rfl | simpa using HI.out.s9), (by first | exact fun _ => rfl | simpa using HI.out.s10), (by first | exact fun _ => rfl | simpa using HI.out.s11), (by first | exact fun _ => rfl | simpa using HI.out.s12), (by first | exact fun _ => rfl | simpa using HI.out.s13), (by first | exact fun _ => rfl | simpa using HI.out.s14), (by first | exact fun _ => rfl | simpa using HI.out.s15), (by first | exact fun _ => rfl | simpa using HI.out.s16), (by first | exact fun _ => rfl | simpa using HI.out.s17), (fun _ => rfl), (by first | exact fun _ => rfl | simpa using HI.out.s6)⟩⟩
      · obtain rfl := HI.out.s18 (by simp_all)
        go_simp
        skip
        exact HK.out _ _ ⟨_, _, _, _, _, _, _, _, _, _, _, _, _, rfl, ⟨(HI.out.sw), (by first | exact fun _ => rfl | simpa using HI.out.s7), (by first | exact fun _ => rfl | simpa using HI.out.s8), (by first | exact fun _ => rfl | simpa using HI.out.s9), (by first | exact fun _ => rfl | simpa using HI.out.s10), (by first | exact fun _ => rfl | simpa using HI.out.s11), (by first | exact fun _ => rfl | simpa using HI.out.s12), (by first | exact fun _ => rfl | simpa using HI.out.s13), (by first | exact fun _ => rfl | simpa using HI.out.s14), (by first | exact fun _ => rfl | simpa using HI.out.s15), (by first | exact fun _ => rfl | simpa using HI.out.s16), (by first | exact fun _ => rfl | simpa using HI.out.s17), (by first | exact fun _ => rfl | simpa using HI.out.s18), (fun _ => rfl)⟩⟩
    case hd =>
      rintro D _ W ⟨v7, v8, v9, v10, v11, v12, v13, v14, v15, v16, v17, v18, v6, rfl, hI⟩ hall
      have hall : ∀ i, i < 13 → D i = true := hall
      obtain rfl := hI.s6 (hall 12 (by omega))
      have HS := Lib.hid hI.sw
      clear hI hall
      simp only [sAct, rowV]
      refine NoPanic.normal ?_
      go_wp2
      go_ret
      exact ⟨rfl, HS.out.pm, HS.out.wi⟩
end Go.Proofs.Ytdkffkgoalgjmab
namespace Go.Proofs.Ytdkffkgoalgjmab
open Go.RowKit Go.ChangeShapes Go.WideShapes Go.Maps
set_option linter.unusedVariables false

theorem planF_bd {r : Row} (h8 : rsum r ≤ 8) {i : Nat} (hi : i ≤ cntR r) : (planF r i).need ≤ 20 ∧ (planF r i).many ≤ 100 := by
  have : allR (fun r => (List.range (cntR r + 1)).all fun i => decide ((planF r i).need ≤ 20) && decide ((planF r i).many ≤ 100)) = true := by decide +kernel
  have := allR_at this h8
  simp only [List.all_eq_true, List.mem_range, Bool.and_eq_true, decide_eq_true_eq] at this
  exact this i (by omega)
theorem cnt_bd {r : Row} (h8 : rsum r ≤ 8) : cntR r ≤ 100 ∧ 0 < cntR r := by
  have : allR (fun r => decide (cntR r ≤ 100) && decide (0 < cntR r)) = true := by decide +kernel
  have := allR_at this h8
  simp only [Bool.and_eq_true, decide_eq_true_eq] at this
  exact this
/-- The split at hand: none behind the last. -/
def atR (r : Row) (i : Nat) : Row := if i < cntR r then splitR r i else (0, 0, 0)
theorem atR_zero {r : Row} : atR r 0 = (0, 0, 0) := by
  unfold atR
  split
  · simp [splitR]
  · rfl
/-- What the walk of the splits stands on. -/
structure LW (w0 : World) (M b7 b8 : Nat) (r s : Row) (p : Plan) (W : World) : Prop where
  pm : PlanM W M
  t3 : Three W w0.heap.size (.int .i64 (r.1 : Int)) (.int .i64 (r.2.1 : Int)) (.int .i64 (r.2.2 : Int))
  t4 : Five W (w0.heap.size + 1) (.int .i64 0) (.int .i64 0) (.int .i64 0) (.int .i64 0) (.int .i64 0)
  t7 : Five W b7 (.int .i64 (p.need : Int)) (.int .i64 (p.first.1 : Int)) (.int .i64 (p.first.2.1 : Int)) (.int .i64 (p.first.2.2 : Int)) (.int .i64 (p.many : Int))
  t8 : Three W b8 (.int .i64 (s.1 : Int)) (.int .i64 (s.2.1 : Int)) (.int .i64 (s.2.2 : Int))
  wi : Within M (M + 1) w0 W
theorem LW.step {w0 W W' : World} {M b7 b8 : Nat} {r s : Row} {p : Plan} (h : LW w0 M b7 b8 r s p W) (hM : M < w0.heap.size) (h7 : w0.heap.size + 1 < b7) (h8 : w0.heap.size + 1 < b8) (hw : Within M (M + 1) W W') (pm : PlanM W' M) : LW w0 M b7 b8 r s p W' :=
  ⟨pm, h.t3.within hw (.inr (by omega)), h.t4.within hw (.inr (by omega)), h.t7.within hw (.inr (by omega)), h.t8.within hw (.inr (by omega)), h.wi.trans hw⟩
theorem LW.below {w0 W W' : World} {M b7 b8 : Nat} {r s : Row} {p : Plan} (h : LW w0 M b7 b8 r s p W) (hM : M < w0.heap.size) (h7 : w0.heap.size + 1 < b7) (h8 : w0.heap.size + 1 < b8) (hb : Below W.heap.size W W') : LW w0 M b7 b8 r s p W' :=
  h.step hM h7 h8 (Within.of_below hb) (h.pm.step hb)
theorem Three.far5 {w : World} {b g : Nat} {x y z : Value} (h : Three w b x y z) (hne : b ≠ g) (y0 y1 y2 y3 y4 : Value) : Three (set5 w g y0 y1 y2 y3 y4) b x y z := ⟨(block_set5 hne _ _ _ _ _).trans h.row⟩
theorem LW.set7 {w0 W : World} {M b7 b8 : Nat} {r s : Row} {p : Plan} (h : LW w0 M b7 b8 r s p W) (hM : M < w0.heap.size) (h7 : w0.heap.size + 1 < b7) (h78 : b8 ≠ b7) (q : Plan) : LW w0 M b7 b8 r s q (set5 W b7 (.int .i64 (q.need : Int)) (.int .i64 (q.first.1 : Int)) (.int .i64 (q.first.2.1 : Int)) (.int .i64 (q.first.2.2 : Int)) (.int .i64 (q.many : Int))) :=
  ⟨h.pm.heap (block_set5 (by omega) _ _ _ _ _), h.t3.far5 (by omega) _ _ _ _ _, h.t4.far5 (by omega) _ _ _ _ _, h.t7.set _ _ _ _ _, h.t8.far5 h78 _ _ _ _ _, within_far5 h.wi (by omega) _ _ _ _ _⟩
theorem LW.new8 {w0 W : World} {M b7 b8 : Nat} {r s : Row} {p : Plan} (h : LW w0 M b7 b8 r s p W) (t : Row) : LW w0 M b7 W.heap.size r t p (W.alloc (.cells #[.int .i64 (t.1 : Int), .int .i64 (t.2.1 : Int), .int .i64 (t.2.2 : Int)] 66)) := by
  have hA := (Below.refl _ W).alloc (Nat.le_refl _) (.cells #[.int .i64 (t.1 : Int), .int .i64 (t.2.1 : Int), .int .i64 (t.2.2 : Int)] 66)
  exact ⟨h.pm.step hA, h.t3.step hA, h.t4.step hA, h.t7.step hA, Three.new W (.int .i64 (t.1 : Int)) (.int .i64 (t.2.1 : Int)) (.int .i64 (t.2.2 : Int)) W.heap.size rfl, h.wi.trans (Within.of_below hA)⟩
theorem LW.set8 {w0 W : World} {M b7 b8 : Nat} {r s : Row} {p : Plan} (h : LW w0 M b7 b8 r s p W) (hM : M < w0.heap.size) (h8 : w0.heap.size + 1 < b8) (h78 : b8 ≠ b7) (x y z : Value) (t : Row) (hx : x = .int .i64 (t.1 : Int)) (hy : y = .int .i64 (t.2.1 : Int)) (hz : z = .int .i64 (t.2.2 : Int)) : LW w0 M b7 b8 r t p (((W.setCell ⟨b8, 0, none⟩ x).setCell ⟨b8, 1, none⟩ y).setCell ⟨b8, 2, none⟩ z) := by
  subst hx hy hz
  have hk : ∀ b, b ≠ b8 → (((W.setCell ⟨b8, 0, none⟩ (.int .i64 (t.1 : Int))).setCell ⟨b8, 1, none⟩ (.int .i64 (t.2.1 : Int))).setCell ⟨b8, 2, none⟩ (.int .i64 (t.2.2 : Int))).heap[b]? = W.heap[b]? := fun b hb => by
    rw [Below.heap_setCell _ ⟨b8, 2, none⟩ _ b hb, Below.heap_setCell _ ⟨b8, 1, none⟩ _ b hb, Below.heap_setCell _ ⟨b8, 0, none⟩ _ b hb]
  exact ⟨h.pm.heap (hk _ (by omega)), ⟨(hk _ (by omega)).trans h.t3.row⟩, h.t4.keep (hk _ (by omega)), h.t7.keep (hk _ (fun e => h78 e.symm)), h.t8.set _ _ _, within_far (within_far (within_far h.wi (by omega) _ _) (by omega) _ _) (by omega) _ _⟩
theorem LW.S {w0 W : World} {M b7 b8 : Nat} {r s : Row} {p : Plan} (h : LW w0 M b7 b8 r s p W) :
    W.cell? ⟨w0.heap.size, 0, none⟩ = some (.int .i64 (r.1 : Int)) ∧ W.cell? ⟨w0.heap.size, 1, none⟩ = some (.int .i64 (r.2.1 : Int)) ∧ W.cell? ⟨w0.heap.size, 2, none⟩ = some (.int .i64 (r.2.2 : Int)) ∧
    W.cell? ⟨b8, 0, none⟩ = some (.int .i64 (s.1 : Int)) ∧ W.cell? ⟨b8, 1, none⟩ = some (.int .i64 (s.2.1 : Int)) ∧ W.cell? ⟨b8, 2, none⟩ = some (.int .i64 (s.2.2 : Int)) ∧
    W.cell? ⟨b7, 0, none⟩ = some (.int .i64 (p.need : Int)) ∧ W.cell? ⟨b7, 1, none⟩ = some (.int .i64 (p.first.1 : Int)) ∧ W.cell? ⟨b7, 2, none⟩ = some (.int .i64 (p.first.2.1 : Int)) ∧ W.cell? ⟨b7, 3, none⟩ = some (.int .i64 (p.first.2.2 : Int)) ∧ W.cell? ⟨b7, 4, none⟩ = some (.int .i64 (p.many : Int)) :=
  ⟨h.t3.c0, h.t3.c1, h.t3.c2, h.t8.c0, h.t8.c1, h.t8.c2, h.t7.c0, h.t7.c1, h.t7.c2, h.t7.c3, h.t7.c4⟩
theorem splitAfter_at (r : Row) (i : Nat) (W : World) (h8 : rsum r ≤ 8) (hi : i < cntR r) :
    Calls Try.prog 129 #[.agg #[.int .i64 (r.1 : Int), .int .i64 (r.2.1 : Int), .int .i64 (r.2.2 : Int)], .agg #[.int .i64 ((splitR r i).1 : Int), .int .i64 ((splitR r i).2.1 : Int), .int .i64 ((splitR r i).2.2 : Int)]] W fun e w' => e = .returned (.tuple #[.agg #[.int .i64 ((atR r (i + 1)).1 : Int), .int .i64 ((atR r (i + 1)).2.1 : Int), .int .i64 ((atR r (i + 1)).2.2 : Int)], .bool (decide (i + 1 < cntR r))]) ∧ Below W.heap.size W w' := splitAfter_any r i W h8 hi
theorem within_put {w w' : World} {M : Nat} (h : w.grownBy w' (some M)) : Within M (M + 1) w w' := ⟨h.os, h.tape, h.output, h.size, fun i hi hd => h.block i hi (fun e => by injection e with e; omega)⟩
theorem planF_back {r : Row} {i : Nat} (h : backR r (splitR r i) = true) : planF r (i + 1) = planF r i := by
  show (if backR r (splitR r i) = true then planF r i else (planF r i).or (splitR r i) (valR r (splitR r i))) = _
  rw [if_pos h]
theorem planF_more {r : Row} {i : Nat} (h : backR r (splitR r i) = false) : planF r (i + 1) = (planF r i).or (splitR r i) (valR r (splitR r i)) := by
  show (if backR r (splitR r i) = true then planF r i else (planF r i).or (splitR r i) (valR r (splitR r i))) = _
  rw [h]; rfl
/-- The slots of planOf's region that draws. -/
def pAct (n b5 M b8 : Nat) (r s : Row) (u23 u24 u25 u26 u27 u28 v33 v34 v35 v36 v37 v38 v39 u40 : Value) : Act :=
  { tmps := #[.map (some M), rowV r, undef, .pointer (some ⟨n, 0, none⟩), .pointer (some ⟨n + 1, 0, none⟩), .pointer (some ⟨b5, 0, none⟩), .bool false, .pointer (some ⟨b5 + 1, 0, none⟩), .pointer (some ⟨b8, 0, none⟩), .bool true, rowV r, .bool false, undef, .tuple #[zeroPlan, .bool false], .map (some M), rowV r, .tuple #[zeroPlan, .bool false], zeroPlan, .bool false, .bool false, undef, .agg #[.int .i64 0, .int .i64 0, .int .i64 0], .bool true, u23, u24, u25, u26, u27, u28, rowV r, rowV s, .bool false, .bool true, v33, v34, v35, v36, v37, v38, v39, u40, undef, undef, undef, undef], defers := [] }
structure PInv (w0 : World) (M b7 b8 : Nat) (r s : Row) (p q : Plan) (vv : Int) (D : Nat → Bool) (v33 v34 v35 v36 v37 v38 v39 : Value) (W : World) : Prop where
  lw : LW w0 M b7 b8 r s (if D 7 = true then q else p) W
  s33 : D 0 = true → v33 = planV p
  s34 : D 1 = true → v34 = rowV s
  s35 : D 2 = true → v35 = .map (some M)
  s36 : D 3 = true → v36 = rowV r
  s37 : D 4 = true → v37 = rowV s
  s38 : D 5 = true → v38 = .int .i64 vv
  s39 : D 6 = true → v39 = planV q
  o7 : D 7 = true → D 0 = true ∧ D 6 = true
set_option maxRecDepth 100000 in
set_option maxHeartbeats 16000000 in
theorem planOf_step (m : Nat) (HP : PlanLess m) (r : Row) (hr : massR r < m + 1) (h8 : rsum r ≤ 8) (w : World) (M : Nat) (hpm : PlanM w M) :
    Calls Try.prog 108 #[.map (some M), .agg #[.int .i64 (r.1 : Int), .int .i64 (r.2.1 : Int), .int .i64 (r.2.2 : Int)]] w fun e w' => e = .returned (planV (planR r)) ∧ PlanM w' M ∧ Within M (M + 1) w w' := by
  have hM := hpm.lt
  have B1 := (Below.refl w.heap.size w).alloc (Nat.le_refl _) (.cells #[.int .i64 (r.1 : Int), .int .i64 (r.2.1 : Int), .int .i64 (r.2.2 : Int)] 66)
  have T1 := Three.new w (.int .i64 (r.1 : Int)) (.int .i64 (r.2.1 : Int)) (.int .i64 (r.2.2 : Int)) w.heap.size rfl
  have B2 := B1.alloc B1.size (.cells #[.int .i64 0, .int .i64 0, .int .i64 0, .int .i64 0, .int .i64 0] 76)
  have S1 := (Below.refl _ (w.alloc (.cells #[.int .i64 (r.1 : Int), .int .i64 (r.2.1 : Int), .int .i64 (r.2.2 : Int)] 66))).alloc (Nat.le_refl _) (.cells #[.int .i64 0, .int .i64 0, .int .i64 0, .int .i64 0, .int .i64 0] 76)
  have HT3 := Lib.hid (T1.step S1)
  have HT4 := Lib.hid (Five.new (w.alloc (.cells #[.int .i64 (r.1 : Int), .int .i64 (r.2.1 : Int), .int .i64 (r.2.2 : Int)] 66)) (.int .i64 0) (.int .i64 0) (.int .i64 0) (.int .i64 0) (.int .i64 0) (w.heap.size + 1) (by simp))
  have HPM := Lib.hid (hpm.below B2 hM)
  have HWI := Lib.hid (Within.of_below B2 : Within M (M + 1) w _)
  have HC := Lib.hid (fun W => isTold_any r W h8)
  clear B1 T1 B2 S1 hpm
  go_enter Try.func108, Try.ntmps108
  go_upto_region 1 with fail
  generalize (w.alloc (.cells #[.int .i64 (r.1 : Int), .int .i64 (r.2.1 : Int), .int .i64 (r.2.2 : Int)] 66)).alloc (.cells #[.int .i64 0, .int .i64 0, .int .i64 0, .int .i64 0, .int .i64 0] 76) = wa at HT3 HT4 HPM HWI ⊢
  have q0 := HT3.out.c0
  have q1 := HT3.out.c1
  have q2 := HT3.out.c2
  go_wp2_with fail
  refine (HC.out wa).mono ?_
  rintro e w1 ⟨rfl, hb1⟩
  replace HT3 := Lib.hid (HT3.out.step hb1)
  replace HT4 := Lib.hid (HT4.out.step hb1)
  replace HPM := Lib.hid (HPM.out.step hb1)
  replace HWI := Lib.hid (HWI.out.trans (Within.of_below hb1))
  clear hb1 HC q0 q1 q2
  by_cases hT : rsum r ≤ 1
  · have E := Lib.hid (plan_told hT)
    rw [decide_eq_true hT]
    have c0 := HT4.out.c0
    have f0 := HT4.out.f 0
    have c1 := HT4.out.c1
    have f1 := HT4.out.f 1
    have c2 := HT4.out.c2
    have f2 := HT4.out.f 2
    have c3 := HT4.out.c3
    have f3 := HT4.out.f 3
    have c4 := HT4.out.c4
    have f4 := HT4.out.f 4
    go_wp2
    have HF := HT4.out.set (.int .i64 0) (.int .i64 0) (.int .i64 0) (.int .i64 0) (.int .i64 0)
    have HPf : PlanM (set5 w1 (w.heap.size + 1) (.int .i64 0) (.int .i64 0) (.int .i64 0) (.int .i64 0) (.int .i64 0)) M := HPM.out.heap (block_set5 (by omega) _ _ _ _ _)
    have HWf := within_far5 HWI.out (Nat.le_succ w.heap.size) (.int .i64 0) (.int .i64 0) (.int .i64 0) (.int .i64 0) (.int .i64 0)
    unfold set5 at HF HPf HWf
    generalize (((((w1.setCell ⟨w.heap.size + 1, 0, none⟩ (.int .i64 0)).setCell ⟨w.heap.size + 1, 1, none⟩ (.int .i64 0)).setCell ⟨w.heap.size + 1, 2, none⟩ (.int .i64 0)).setCell ⟨w.heap.size + 1, 3, none⟩ (.int .i64 0)).setCell ⟨w.heap.size + 1, 4, none⟩ (.int .i64 0)) = wf at HF HPf HWf ⊢
    have e0 := HF.c0
    have e1 := HF.c1
    have e2 := HF.c2
    have e3 := HF.c3
    have e4 := HF.c4
    refine bodyPost_ret (v := .agg #[.int .i64 0, .int .i64 0, .int .i64 0, .int .i64 0, .int .i64 0]) (by simp [results, go_sem, e0, e1, e2, e3, e4]) rfl ?_
    exact ⟨by rw [E.out]; rfl, HPf, HWf⟩
  · rw [decide_eq_false hT]
    obtain ⟨D, hD⟩ := HPM.out
    have HD := Lib.hid hD
    have q0 := HT3.out.c0
    have q1 := HT3.out.c1
    have q2 := HT3.out.c2
    rcases hD.look h8 with ⟨hh, hrun⟩ | ⟨hh, hrun⟩
    · simp only [planV] at hrun
      have S1 := (Below.refl _ w1).alloc (Nat.le_refl _) (.cells #[.int .i64 ((planR r).need : Int), .int .i64 ((planR r).first.1 : Int), .int .i64 ((planR r).first.2.1 : Int), .int .i64 ((planR r).first.2.2 : Int), .int .i64 ((planR r).many : Int)] 76)
      have HU4 := Lib.hid (HT4.out.step S1)
      have HPf0 := Lib.hid (HPM.out.step S1)
      have HWf0 := Lib.hid (HWI.out.trans (Within.of_below S1))
      have c0 := HU4.out.c0
      have f0 := HU4.out.f 0
      have c1 := HU4.out.c1
      have f1 := HU4.out.f 1
      have c2 := HU4.out.c2
      have f2 := HU4.out.f 2
      have c3 := HU4.out.c3
      have f3 := HU4.out.f 3
      have c4 := HU4.out.c4
      have f4 := HU4.out.f 4
      clear hD S1
      go_wp2
      have HF := HU4.out.set (.int .i64 ((planR r).need : Int)) (.int .i64 ((planR r).first.1 : Int)) (.int .i64 ((planR r).first.2.1 : Int)) (.int .i64 ((planR r).first.2.2 : Int)) (.int .i64 ((planR r).many : Int))
      have HPf : PlanM (set5 (w1.alloc (.cells #[.int .i64 ((planR r).need : Int), .int .i64 ((planR r).first.1 : Int), .int .i64 ((planR r).first.2.1 : Int), .int .i64 ((planR r).first.2.2 : Int), .int .i64 ((planR r).many : Int)] 76)) (w.heap.size + 1) (.int .i64 ((planR r).need : Int)) (.int .i64 ((planR r).first.1 : Int)) (.int .i64 ((planR r).first.2.1 : Int)) (.int .i64 ((planR r).first.2.2 : Int)) (.int .i64 ((planR r).many : Int))) M := HPf0.out.heap (block_set5 (by omega) _ _ _ _ _)
      have HWf := within_far5 HWf0.out (Nat.le_succ w.heap.size) (.int .i64 ((planR r).need : Int)) (.int .i64 ((planR r).first.1 : Int)) (.int .i64 ((planR r).first.2.1 : Int)) (.int .i64 ((planR r).first.2.2 : Int)) (.int .i64 ((planR r).many : Int))
      unfold set5 at HF HPf HWf
      generalize ((((((w1.alloc (.cells #[.int .i64 ((planR r).need : Int), .int .i64 ((planR r).first.1 : Int), .int .i64 ((planR r).first.2.1 : Int), .int .i64 ((planR r).first.2.2 : Int), .int .i64 ((planR r).many : Int)] 76)).setCell ⟨w.heap.size + 1, 0, none⟩ (.int .i64 ((planR r).need : Int))).setCell ⟨w.heap.size + 1, 1, none⟩ (.int .i64 ((planR r).first.1 : Int))).setCell ⟨w.heap.size + 1, 2, none⟩ (.int .i64 ((planR r).first.2.1 : Int))).setCell ⟨w.heap.size + 1, 3, none⟩ (.int .i64 ((planR r).first.2.2 : Int))).setCell ⟨w.heap.size + 1, 4, none⟩ (.int .i64 ((planR r).many : Int))) = wf at HF HPf HWf ⊢
      have e0 := HF.c0
      have e1 := HF.c1
      have e2 := HF.c2
      have e3 := HF.c3
      have e4 := HF.c4
      refine bodyPost_ret (v := .agg #[.int .i64 ((planR r).need : Int), .int .i64 ((planR r).first.1 : Int), .int .i64 ((planR r).first.2.1 : Int), .int .i64 ((planR r).first.2.2 : Int), .int .i64 ((planR r).many : Int)]) (by simp [results, go_sem, e0, e1, e2, e3, e4]) rfl ?_
      exact ⟨rfl, HPf, HWf⟩
    · simp only [zeroPlan] at hrun
      have htop : w.heap.size + 1 < w1.heap.size := HT4.out.lt
      have HLW0 : Hid (LW w M (w1.heap.size + 1) (w1.heap.size + 1 + 1) r (atR r 0) (planF r 0) (((w1.alloc (.cells #[.int .i64 0, .int .i64 0, .int .i64 0, .int .i64 0, .int .i64 0] 76)).alloc (.cells #[.int .i64 0, .int .i64 0, .int .i64 0, .int .i64 0, .int .i64 0] 76)).alloc (.cells #[.int .i64 0, .int .i64 0, .int .i64 0] 66))) := Lib.hid (by
        have S1 := (Below.refl _ w1).alloc (Nat.le_refl _) (.cells #[.int .i64 0, .int .i64 0, .int .i64 0, .int .i64 0, .int .i64 0] 76)
        have S2 := (Below.refl _ (w1.alloc (.cells #[.int .i64 0, .int .i64 0, .int .i64 0, .int .i64 0, .int .i64 0] 76))).alloc (Nat.le_refl _) (.cells #[.int .i64 0, .int .i64 0, .int .i64 0, .int .i64 0, .int .i64 0] 76)
        have S3 := (Below.refl _ ((w1.alloc (.cells #[.int .i64 0, .int .i64 0, .int .i64 0, .int .i64 0, .int .i64 0] 76)).alloc (.cells #[.int .i64 0, .int .i64 0, .int .i64 0, .int .i64 0, .int .i64 0] 76))).alloc (Nat.le_refl _) (.cells #[.int .i64 0, .int .i64 0, .int .i64 0] 66)
        rw [atR_zero]
        exact ⟨((HPM.out.step S1).step S2).step S3, ((HT3.out.step S1).step S2).step S3, ((HT4.out.step S1).step S2).step S3, (Five.new (w1.alloc (.cells #[.int .i64 0, .int .i64 0, .int .i64 0, .int .i64 0, .int .i64 0] 76)) (.int .i64 0) (.int .i64 0) (.int .i64 0) (.int .i64 0) (.int .i64 0) (w1.heap.size + 1) (by simp)).step S3, Three.new ((w1.alloc (.cells #[.int .i64 0, .int .i64 0, .int .i64 0, .int .i64 0, .int .i64 0] 76)).alloc (.cells #[.int .i64 0, .int .i64 0, .int .i64 0, .int .i64 0, .int .i64 0] 76)) (.int .i64 0) (.int .i64 0) (.int .i64 0) (w1.heap.size + 1 + 1) (by simp), ((HWI.out.trans (Within.of_below S1)).trans (Within.of_below S2)).trans (Within.of_below S3)⟩)
      have hcb := cnt_bd h8
      have HBD := Lib.hid (fun i (h : i ≤ cntR r) => planF_bd h8 h)
      have HF := Lib.hid (fun i (h : i < cntR r) => split_fits h8 h)
      have HCB := Lib.hid (fun i (h : i < cntR r) W => leadsBack_any r (splitR r i) W h8 (split_fits h8 h))
      have HCA := Lib.hid (fun i (h : i < cntR r) W => splitAfter_at r i W h8 h)
      have HCS := Lib.hid (fun i (h : i < cntR r) (hb : backR r (splitR r i) = false) W hp => splitNeed_of m HP r (splitR r i) W M h8 (split_fits h8 h) (by have := (mass_yes (split_fits h8 h) hb).1; omega) (by have := (mass_yes (split_fits h8 h) hb).2; omega) hp)
      have HVB := Lib.hid (fun i (h : i < cntR r) => show valR r (splitR r i) ≤ 20 by
        have h1 := need_le (yes_sum h8 (split_fits h8 h)).1
        have h2 := need_le (yes_sum h8 (split_fits h8 h)).2
        unfold valR
        omega)
      have HE := Lib.hid (plan_asks (r := r) (by omega))
      clear hD HT3 HT4 HPM HWI
      go_wp2_with fail
      clear hrun q0 q1 q2
      generalize ((w1.alloc (.cells #[.int .i64 0, .int .i64 0, .int .i64 0, .int .i64 0, .int .i64 0] 76)).alloc (.cells #[.int .i64 0, .int .i64 0, .int .i64 0, .int .i64 0, .int .i64 0] 76)).alloc (.cells #[.int .i64 0, .int .i64 0, .int .i64 0] 66) = wb at HLW0 ⊢
      go_loopg [8, 9] (cntR r + 1) (fun g p8 ok wr => ∃ (i b8 : Nat), g = cntR r + 1 - i ∧ i ≤ cntR r ∧ p8 = .pointer (some ⟨b8, 0, none⟩) ∧ ok = .bool (decide (i < cntR r)) ∧ w1.heap.size + 1 < b8 ∧ Hid (LW w M (w1.heap.size + 1) b8 r (atR r i) (planF r i) wr))
      case atStart => exact ⟨0, w1.heap.size + 1 + 1, by omega, Nat.zero_le _, rfl, by rw [decide_eq_true hcb.2], by omega, HLW0⟩
      case round =>
        clear HLW0
        obtain ⟨i, b8, hg, hi, rfl, rfl, hb8, HLW⟩ := hrel
        by_cases hlt : i < cntR r
        · have hbd := HBD.out i hi
          have HBi := Lib.hid (HCB.out i hlt)
          have HCAi := Lib.hid (HCA.out i hlt)
          have HCSi := Lib.hid (HCS.out i hlt)
          have hvb := HVB.out i hlt
          have HPb := Lib.hid (@planF_back r i)
          have HPm := Lib.hid (@planF_more r i)
          rw [show atR r i = splitR r i from if_pos hlt] at HLW
          have hlt' : decide (i < cntR r) = true := decide_eq_true hlt
          generalize splitR r i = s at HLW HBi HCAi HCSi hvb HPb HPm
          clear HBD HCB HCA HCS HVB HF HE
          generalize hp : planF r i = p at HLW HPb HPm hbd
          clear hp
          have HO : Hid (∀ W, Calls Try.prog 130 #[.agg #[.int .i64 (p.need : Int), .int .i64 (p.first.1 : Int), .int .i64 (p.first.2.1 : Int), .int .i64 (p.first.2.2 : Int), .int .i64 (p.many : Int)], .agg #[.int .i64 (s.1 : Int), .int .i64 (s.2.1 : Int), .int .i64 (s.2.2 : Int)], .int .i64 ((valR r s : Nat) : Int)] W fun e w' => e = .returned (.agg #[.int .i64 ((p.or s (valR r s)).need : Int), .int .i64 ((p.or s (valR r s)).first.1 : Int), .int .i64 ((p.or s (valR r s)).first.2.1 : Int), .int .i64 ((p.or s (valR r s)).first.2.2 : Int), .int .i64 ((p.or s (valR r s)).many : Int)]) ∧ Below W.heap.size W w') := Lib.hid (fun W => orSplit_any p s (valR r s) W hbd.1 (by omega) hvb)
          obtain ⟨q0, q1, q2, s0, s1, s2, t0, t1, t2, t3, t4⟩ := HLW.out.S
          go_wp2_with fail
          refine (HBi.out wr).mono ?_
          rintro e w3 ⟨rfl, hb3⟩
          have HL3 := Lib.hid (HLW.out.below hM (by omega) (by omega) hb3)
          clear hb3 HBi HLW q0 q1 q2 s0 s1 s2 t0 t1 t2 t3 t4
          cases hback : backR r s with
          | true =>
            have HEq := Lib.hid (HPb.out hback)
            clear HPm HCSi HO hback
            have S8 := HL3.out.t8
            have x0 := S8.c0
            have x1 := S8.c1
            have x2 := S8.c2
            have HN8 := Lib.hid (HL3.out.new8 s)
            have hbt : w1.heap.size + 1 < w3.heap.size := HL3.out.t7.lt
            have y0 := HN8.out.t3.c0
            have y1 := HN8.out.t3.c1
            have y2 := HN8.out.t3.c2
            have z0 := HN8.out.t8.c0
            have z1 := HN8.out.t8.c1
            have z2 := HN8.out.t8.c2
            clear S8
            go_wp2_with fail
            refine (HCAi.out _).mono ?_
            rintro e w8 ⟨rfl, hb8'⟩
            have HN9 := Lib.hid (HN8.out.below hM (by omega) (by omega) hb8')
            have HNS := Lib.hid (HN9.out.set8 hM (by omega) (by omega) _ _ _ (atR r (i + 1)) rfl rfl rfl)
            clear hb8' x0 x1 x2 y0 y1 y2 z0 z1 z2
            have z0 := HN9.out.t8.c0
            have z1 := HN9.out.t8.c1
            have z2 := HN9.out.t8.c2
            have z3 := HN9.out.t8.f 0
            have z4 := HN9.out.t8.f 1
            have z5 := HN9.out.t8.f 2
            go_wp2
            go_roundg (cntR r + 1 - (i + 1))
            case measure => omega
            case rel => exact ⟨i + 1, w3.heap.size, rfl, by omega, rfl, rfl, hbt, by rw [HEq.out]; exact HNS⟩

          | false =>
            have HEq := Lib.hid (HPm.out hback)
            have HSN := Lib.hid (HCSi.out hback)
            clear HPb HCSi hback
            have HL3d := Lib.hid (HL3.out.below hM (by omega) (by omega) (Below.refl _ w3).drew)
            generalize hq : p.or s (valR r s) = q at HO HEq
            clear hq
            have hne78 : b8 ≠ w1.heap.size + 1 := by omega
            go_wp2_with fail
            refine wp_region_noPanic ?_
            refine wp_region_inv (by kernel_rfl) (by kernel_rfl) (fun D A W => ∃ v33 v34 v35 v36 v37 v38 v39, A = pAct w.heap.size w1.heap.size M b8 r s u23 u24 u25 u26 u27 u28 v33 v34 v35 v36 v37 v38 v39 u40 ∧ PInv w M (w1.heap.size + 1) b8 r s p q ((valR r s : Nat) : Int) D v33 v34 v35 v36 v37 v38 v39 W) ?h0 ?hs ?hd
            case h0 => exact ⟨u33, u34, u35, u36, u37, u38, u39, rfl, ⟨HL3d.out, nofun, nofun, nofun, nofun, nofun, nofun, nofun, nofun⟩⟩
            case hs =>
              rintro D _ W ⟨v33, v34, v35, v36, v37, v38, v39, rfl, hI⟩ i' o ho hD hA K hK
              have hi' : i' < 8 := (Array.getElem?_eq_some_iff.1 ho).1
              have HI := Lib.hid hI
              have HK := Lib.hid hK
              clear hI hK
              obtain rfl | rfl | rfl | rfl | rfl | rfl | rfl | rfl : i' = 0 ∨ i' = 1 ∨ i' = 2 ∨ i' = 3 ∨ i' = 4 ∨ i' = 5 ∨ i' = 6 ∨ i' = 7 := by omega
              all_goals (obtain rfl := Option.some.inj ho; clear ho hi'; simp [Region.binds] at hA; unfold pAct)
              · have hn7 : D 7 = false := (by rcases Bool.eq_false_or_eq_true (D 7) with h | h; (rw [(HI.out.o7 h).1] at hD; cases hD); exact h)
                have hlw := HI.out.lw
                rw [hn7] at hlw
                simp only [Bool.false_eq_true, if_false] at hlw
                have k0 := hlw.t7.c0
                have k1 := hlw.t7.c1
                have k2 := hlw.t7.c2
                have k3 := hlw.t7.c3
                have k4 := hlw.t7.c4
                clear hlw
                go_simp
                exact HK.out _ _ ⟨_, _, _, _, _, _, _, rfl, ⟨(by simpa using HI.out.lw), (fun _ => rfl), (by first | exact fun _ => rfl | simpa using HI.out.s34), (by first | exact fun _ => rfl | simpa using HI.out.s35), (by first | exact fun _ => rfl | simpa using HI.out.s36), (by first | exact fun _ => rfl | simpa using HI.out.s37), (by first | exact fun _ => rfl | simpa using HI.out.s38), (by first | exact fun _ => rfl | simpa using HI.out.s39), (fun h => by simp [hn7] at h)⟩⟩
              · have k0 := HI.out.lw.t8.c0
                have k1 := HI.out.lw.t8.c1
                have k2 := HI.out.lw.t8.c2
                go_simp
                exact HK.out _ _ ⟨_, _, _, _, _, _, _, rfl, ⟨(by simpa using HI.out.lw), (by first | exact fun _ => rfl | simpa using HI.out.s33), (fun _ => rfl), (by first | exact fun _ => rfl | simpa using HI.out.s35), (by first | exact fun _ => rfl | simpa using HI.out.s36), (by first | exact fun _ => rfl | simpa using HI.out.s37), (by first | exact fun _ => rfl | simpa using HI.out.s38), (by first | exact fun _ => rfl | simpa using HI.out.s39), (by simpa using HI.out.o7)⟩⟩
              · go_simp
                exact HK.out _ _ ⟨_, _, _, _, _, _, _, rfl, ⟨(by simpa using HI.out.lw), (by first | exact fun _ => rfl | simpa using HI.out.s33), (by first | exact fun _ => rfl | simpa using HI.out.s34), (fun _ => rfl), (by first | exact fun _ => rfl | simpa using HI.out.s36), (by first | exact fun _ => rfl | simpa using HI.out.s37), (by first | exact fun _ => rfl | simpa using HI.out.s38), (by first | exact fun _ => rfl | simpa using HI.out.s39), (by simpa using HI.out.o7)⟩⟩
              · have k0 := HI.out.lw.t3.c0
                have k1 := HI.out.lw.t3.c1
                have k2 := HI.out.lw.t3.c2
                go_simp
                exact HK.out _ _ ⟨_, _, _, _, _, _, _, rfl, ⟨(by simpa using HI.out.lw), (by first | exact fun _ => rfl | simpa using HI.out.s33), (by first | exact fun _ => rfl | simpa using HI.out.s34), (by first | exact fun _ => rfl | simpa using HI.out.s35), (fun _ => rfl), (by first | exact fun _ => rfl | simpa using HI.out.s37), (by first | exact fun _ => rfl | simpa using HI.out.s38), (by first | exact fun _ => rfl | simpa using HI.out.s39), (by simpa using HI.out.o7)⟩⟩
              · have k0 := HI.out.lw.t8.c0
                have k1 := HI.out.lw.t8.c1
                have k2 := HI.out.lw.t8.c2
                go_simp
                exact HK.out _ _ ⟨_, _, _, _, _, _, _, rfl, ⟨(by simpa using HI.out.lw), (by first | exact fun _ => rfl | simpa using HI.out.s33), (by first | exact fun _ => rfl | simpa using HI.out.s34), (by first | exact fun _ => rfl | simpa using HI.out.s35), (by first | exact fun _ => rfl | simpa using HI.out.s36), (fun _ => rfl), (by first | exact fun _ => rfl | simpa using HI.out.s38), (by first | exact fun _ => rfl | simpa using HI.out.s39), (by simpa using HI.out.o7)⟩⟩
              · obtain rfl := HI.out.s35 (by simp_all)
                obtain rfl := HI.out.s36 (by simp_all)
                obtain rfl := HI.out.s37 (by simp_all)
                simp only [rowV]
                go_simp
                refine (HSN.out W HI.out.lw.pm).mono ?_
                rintro e w4 ⟨rfl, hpm4, hw4⟩
                exact HK.out _ _ ⟨_, _, _, _, _, _, _, rfl, ⟨(by simpa using HI.out.lw.step hM (by omega) (by omega) hw4 hpm4), (by first | exact fun _ => rfl | simpa using HI.out.s33), (by first | exact fun _ => rfl | simpa using HI.out.s34), (by first | exact fun _ => rfl | simpa using HI.out.s35), (by first | exact fun _ => rfl | simpa using HI.out.s36), (by first | exact fun _ => rfl | simpa using HI.out.s37), (fun _ => rfl), (by first | exact fun _ => rfl | simpa using HI.out.s39), (by simpa using HI.out.o7)⟩⟩
              · obtain rfl := HI.out.s33 (by simp_all)
                obtain rfl := HI.out.s34 (by simp_all)
                obtain rfl := HI.out.s38 (by simp_all)
                simp only [rowV, planV]
                go_simp
                refine (HO.out W).mono ?_
                rintro e w4 ⟨rfl, hb4⟩
                exact HK.out _ _ ⟨_, _, _, _, _, _, _, rfl, ⟨(by simpa using HI.out.lw.below hM (by omega) (by omega) hb4), (by first | exact fun _ => rfl | simpa using HI.out.s33), (by first | exact fun _ => rfl | simpa using HI.out.s34), (by first | exact fun _ => rfl | simpa using HI.out.s35), (by first | exact fun _ => rfl | simpa using HI.out.s36), (by first | exact fun _ => rfl | simpa using HI.out.s37), (by first | exact fun _ => rfl | simpa using HI.out.s38), (fun _ => rfl), (fun h => by have h7 := HI.out.o7 (by simpa using h); simp [h7.1])⟩⟩
              · obtain rfl := HI.out.s39 (by simp_all)
                have hlw := HI.out.lw
                rw [hD] at hlw
                simp only [Bool.false_eq_true, if_false] at hlw
                have c0 := hlw.t7.c0
                have c1 := hlw.t7.c1
                have c2 := hlw.t7.c2
                have c3 := hlw.t7.c3
                have c4 := hlw.t7.c4
                have g0 := hlw.t7.f 0
                have g1 := hlw.t7.f 1
                have g2 := hlw.t7.f 2
                have g3 := hlw.t7.f 3
                have g4 := hlw.t7.f 4
                have HLw := Lib.hid (hlw.set7 hM (by omega) hne78 q)
                clear hlw
                simp only [planV]
                go_simp
                exact HK.out _ (set5 W (w1.heap.size + 1) (.int .i64 (q.need : Int)) (.int .i64 (q.first.1 : Int)) (.int .i64 (q.first.2.1 : Int)) (.int .i64 (q.first.2.2 : Int)) (.int .i64 (q.many : Int))) ⟨_, _, _, _, _, _, _, rfl, ⟨(by simpa using HLw.out), (by first | exact fun _ => rfl | simpa using HI.out.s33), (by first | exact fun _ => rfl | simpa using HI.out.s34), (by first | exact fun _ => rfl | simpa using HI.out.s35), (by first | exact fun _ => rfl | simpa using HI.out.s36), (by first | exact fun _ => rfl | simpa using HI.out.s37), (by first | exact fun _ => rfl | simpa using HI.out.s38), (by first | exact fun _ => rfl | simpa using HI.out.s39), (fun _ => by simp_all)⟩⟩
            case hd =>
              rintro D _ W ⟨v33, v34, v35, v36, v37, v38, v39, rfl, hI⟩ hall
              have h7 : D 7 = true := hall 7 (by decide)
              have hlw := hI.lw
              rw [h7] at hlw
              simp only [if_true] at hlw
              have HL6 := Lib.hid hlw
              clear hI hall hlw h7 HO HSN HL3 HL3d
              simp only [pAct, rowV, zeroPlan]
              refine NoPanic.normal ?_
              have S8 := HL6.out.t8
              have x0 := S8.c0
              have x1 := S8.c1
              have x2 := S8.c2
              have HN8 := Lib.hid (HL6.out.new8 s)
              have hbt : w1.heap.size + 1 < W.heap.size := HL6.out.t7.lt
              have y0 := HN8.out.t3.c0
              have y1 := HN8.out.t3.c1
              have y2 := HN8.out.t3.c2
              have z0 := HN8.out.t8.c0
              have z1 := HN8.out.t8.c1
              have z2 := HN8.out.t8.c2
              clear S8
              go_wp2_with fail
              refine (HCAi.out _).mono ?_
              rintro e w8 ⟨rfl, hb8'⟩
              have HN9 := Lib.hid (HN8.out.below hM (by omega) (by omega) hb8')
              have HNS := Lib.hid (HN9.out.set8 hM (by omega) (by omega) _ _ _ (atR r (i + 1)) rfl rfl rfl)
              clear hb8' x0 x1 x2 y0 y1 y2 z0 z1 z2
              have z0 := HN9.out.t8.c0
              have z1 := HN9.out.t8.c1
              have z2 := HN9.out.t8.c2
              have z3 := HN9.out.t8.f 0
              have z4 := HN9.out.t8.f 1
              have z5 := HN9.out.t8.f 2
              go_wp2
              go_roundg (cntR r + 1 - (i + 1))
              case measure => omega
              case rel => exact ⟨i + 1, W.heap.size, rfl, by omega, rfl, rfl, hbt, by rw [HEq.out]; exact HNS⟩
        · obtain rfl : i = cntR r := by omega
          rw [HE.out.symm] at HLW
          have hlt' : decide (cntR r < cntR r) = false := by simp
          obtain ⟨q0, q1, q2, s0, s1, s2, t0, t1, t2, t3, t4⟩ := HLW.out.S
          obtain ⟨D', hD'⟩ := HLW.out.pm
          have HD' := Lib.hid hD'
          have hsz : Maps.size D' < maxLen := by
            have h1 := hD'.size
            have h2 := cntM_le D'
            unfold maxLen
            omega
          have hown := hD'.owns
          have hkey := keyRow h8
          clear hD' HCB HCA HCS HVB HF HE HBD
          go_wp2_with (first
            | (at_mapUpdate; refine wpList_mapUpdate_own _ rfl _ _ _ 63 rfl 66 76 keyedRow Try.underlying63 heldR M (Maps.size D') D' rfl hown hsz _ _ (klR r) rfl rfl hkey (.held (planV (planR r))) [] rfl ?_; intro w9 hown9 hg9; have HP9 := Lib.hid (HD'.out.put h8 hown9); have HW9 := Lib.hid (HLW.out.wi.trans (within_put hg9)); have HUV := Lib.hid (HLW.out.t4.within (within_put hg9) (.inr (by omega))); have HUW := Lib.hid (HLW.out.t7.within (within_put hg9) (.inr (by omega))); clear hown9 hg9 hown; have m0 := HUW.out.c0; have m1 := HUW.out.c1; have m2 := HUW.out.c2; have m3 := HUW.out.c3; have m4 := HUW.out.c4; have c0 := HUV.out.c0; have f0 := HUV.out.f 0; have c1 := HUV.out.c1; have f1 := HUV.out.f 1; have c2 := HUV.out.c2; have f2 := HUV.out.f 2; have c3 := HUV.out.c3; have f3 := HUV.out.f 3; have c4 := HUV.out.c4; have f4 := HUV.out.f 4))
          have HFn := HUV.out.set (.int .i64 ((planR r).need : Int)) (.int .i64 ((planR r).first.1 : Int)) (.int .i64 ((planR r).first.2.1 : Int)) (.int .i64 ((planR r).first.2.2 : Int)) (.int .i64 ((planR r).many : Int))
          have HPf : PlanM (set5 w9 (w.heap.size + 1) (.int .i64 ((planR r).need : Int)) (.int .i64 ((planR r).first.1 : Int)) (.int .i64 ((planR r).first.2.1 : Int)) (.int .i64 ((planR r).first.2.2 : Int)) (.int .i64 ((planR r).many : Int))) M := HP9.out.heap (block_set5 (by omega) _ _ _ _ _)
          have HWf := within_far5 HW9.out (Nat.le_succ w.heap.size) (.int .i64 ((planR r).need : Int)) (.int .i64 ((planR r).first.1 : Int)) (.int .i64 ((planR r).first.2.1 : Int)) (.int .i64 ((planR r).first.2.2 : Int)) (.int .i64 ((planR r).many : Int))
          unfold set5 at HFn HPf HWf
          generalize (((((w9.setCell ⟨w.heap.size + 1, 0, none⟩ (.int .i64 ((planR r).need : Int))).setCell ⟨w.heap.size + 1, 1, none⟩ (.int .i64 ((planR r).first.1 : Int))).setCell ⟨w.heap.size + 1, 2, none⟩ (.int .i64 ((planR r).first.2.1 : Int))).setCell ⟨w.heap.size + 1, 3, none⟩ (.int .i64 ((planR r).first.2.2 : Int))).setCell ⟨w.heap.size + 1, 4, none⟩ (.int .i64 ((planR r).many : Int))) = wf at HFn HPf HWf ⊢
          have e0 := HFn.c0
          have e1 := HFn.c1
          have e2 := HFn.c2
          have e3 := HFn.c3
          have e4 := HFn.c4
          refine bodyPost_ret (v := .agg #[.int .i64 ((planR r).need : Int), .int .i64 ((planR r).first.1 : Int), .int .i64 ((planR r).first.2.1 : Int), .int .i64 ((planR r).first.2.2 : Int), .int .i64 ((planR r).many : Int)]) (by simp [results, go_sem, e0, e1, e2, e3, e4]) rfl ?_
          exact ⟨rfl, HPf, HWf⟩
theorem planLess : ∀ m, PlanLess m
  | 0 => fun r h => absurd h (by omega)
  | m + 1 => fun r h h8 w M hp => planOf_step m (planLess m) r h h8 w M hp
theorem planOf_any (r : Row) (h8 : rsum r ≤ 8) (w : World) (M : Nat) (hp : PlanM w M) :
    Calls Try.prog 108 #[.map (some M), .agg #[.int .i64 (r.1 : Int), .int .i64 (r.2.1 : Int), .int .i64 (r.2.2 : Int)]] w fun e w' => e = .returned (planV (planR r)) ∧ PlanM w' M ∧ Within M (M + 1) w w' :=
  planLess (massR r + 1) r (Nat.lt_succ_self _) h8 w M hp
theorem needOf_any (r : Row) (h8 : rsum r ≤ 8) (w : World) (M : Nat) (hp : PlanM w M) :
    Calls Try.prog 60 #[.map (some M), .agg #[.int .i64 (r.1 : Int), .int .i64 (r.2.1 : Int), .int .i64 (r.2.2 : Int)]] w fun e w' => e = .returned (.int .i64 ((needR r : Nat) : Int)) ∧ PlanM w' M ∧ Within M (M + 1) w w' :=
  needOf_of (massR r + 1) (planLess _) r w M (Nat.lt_succ_self _) h8 hp
end Go.Proofs.Ytdkffkgoalgjmab
namespace Go.Proofs.Ytdkffkgoalgjmab
open Go.RowKit Go.ChangeShapes Go.WideShapes
set_option linter.unusedVariables false

set_option maxRecDepth 100000 in
set_option maxHeartbeats 4000000 in
theorem needOf_impl (A : Option Addr) (c lo hi : Nat) (zs : List Int) (w : World) (hS : Ins w lo hi A zs) (hn : zs.length ≤ 1048576) :
    Calls Try.prog 17 #[.slice A zs.length c] w fun e w' => e = .returned (.tuple #[.int .i64 (if cOK zs then ((needR (rowL zs) : Nat) : Int) else 0), .bool (cOK zs)]) ∧ Below w.heap.size w w' := by
  have HC := Lib.hid (fun W h => areCounts_impl A c lo hi zs W h hn)
  have HS := Lib.hid hS
  clear hS
  cases hok : cOK zs with
  | false =>
    rw [hok] at HC
    go_enter Try.func17, Try.ntmps17
    go_wp2_with fail
    refine (HC.out w HS.out).mono ?_
    rintro e w1 ⟨rfl, rfl⟩
    go_wp2
    go_ret2
    exact ⟨rfl, Below.refl _ _⟩
  | true =>
    rw [hok] at HC
    obtain ⟨r, hr, hw, h8⟩ := cOK_row hok
    rw [if_pos rfl, rowL_eq hr hw]
    have hp := hw.le
    generalize zs.length = p at *
    have HR := Lib.hid (fun W h => rowOf_any A c lo hi p r W h hw)
    rw [← hr] at HR
    have HPl := Lib.hid (fun W M h => needOf_any r h8 W M h)
    have hmk := makePlans
    have B1 := (Below.refl w.heap.size w).alloc (Nat.le_refl _) (.map #[] 0)
    have HB1 := Lib.hid B1
    have HS1 := Lib.hid (HS.out.step B1)
    have HM1 := Lib.hid (PlanM.made w)
    clear hok hr B1
    go_enter Try.func17, Try.ntmps17
    go_wp2_with fail
    refine (HC.out w HS.out).mono ?_
    rintro e w1 ⟨rfl, rfl⟩
    clear HC
    go_wp2_with fail
    clear hmk
    generalize hwa : w1.alloc (.map #[] 0) = wa at HB1 HS1 HM1 ⊢
    clear hwa
    refine (HR.out wa HS1.out).mono ?_
    rintro e w2 ⟨rfl, hb2⟩
    have HM2 := Lib.hid (HM1.out.step hb2)
    have HB2 := Lib.hid (below_trans HB1.out hb2)
    clear hb2
    go_wp2_with fail
    refine (HPl.out w2 w1.heap.size HM2.out).mono ?_
    rintro e w3 ⟨rfl, hpm3, hw3⟩
    have HB3 := Lib.hid (HB2.out.trans (hw3.below (Nat.le_refl _) HB2.out.size))
    clear hpm3 hw3
    go_wp2
    go_ret2
    exact ⟨rfl, HB3.out⟩
set_option maxRecDepth 100000 in
set_option maxHeartbeats 4000000 in
theorem needOf_spec (A : Option Addr) (c lo hi : Nat) (zs : List Int) (w : World) (hS : Ins w lo hi A zs) (hn : zs.length ≤ 1048576) :
    Calls Try.prog 15 #[.slice A zs.length c] w fun e w' => e = .returned (.tuple #[.int .i64 (if cOK zs then ((needR (rowL zs) : Nat) : Int) else 0), .bool (cOK zs)]) ∧ Below w.heap.size w w' := by
  have HC := Lib.hid (fun W h => l4Counts_any A c lo hi zs W h hn)
  have HS := Lib.hid hS
  clear hS
  cases hok : cOK zs with
  | false =>
    rw [hok] at HC
    go_enter Try.func15, Try.ntmps15
    go_wp2_with fail
    refine (HC.out w HS.out).mono ?_
    rintro e w1 ⟨rfl, rfl⟩
    go_wp2
    go_ret2
    exact ⟨rfl, Below.refl _ _⟩
  | true =>
    rw [hok] at HC
    obtain ⟨r, hr, hw, h8⟩ := cOK_row hok
    rw [if_pos rfl, rowL_eq hr hw]
    have hp := hw.le
    generalize zs.length = p at *
    have HNs := Lib.hid (fun W => l4Needs_any p W hp)
    have HK := Lib.hid (fun W h => l4Key_any A c lo hi p r W h hw h8)
    rw [← hr] at HK
    have hkl := key_lt hw h8
    have HFA := Lib.hid (found_all h8)
    have HFL := Lib.hid (foundL_len p 10)
    clear hok hr
    generalize keyR r = ky at HK hkl HFA
    have hkyI : (ky : Int) < ((9 ^ p : Nat) : Int) := by omega
    go_enter Try.func15, Try.ntmps15
    go_wp2_with fail
    refine (HC.out w HS.out).mono ?_
    rintro e w1 ⟨rfl, rfl⟩
    clear HC
    go_wp2_with fail
    refine (HNs.out w1).mono ?_
    rintro e w2 ⟨g, cg, rfl, hg, ho, hb⟩
    have HB := Lib.hid hb
    have HS2 := Lib.hid (HS.out.step hb)
    have hcell := own_cell ho (k := ky) (by rw [HFL.out]; exact hkl)
    rw [show (foundL p 10).getD ky 0 = ((needR r : Nat) : Int) from by rw [← HFA.out]; simp [foundL, List.getD, hkl]] at hcell
    clear hb ho HNs
    go_wp2_with fail
    refine (HK.out w2 HS2.out).mono ?_
    rintro e w3 ⟨rfl, rfl⟩
    go_wp2
    go_ret2
    exact ⟨rfl, HB.out⟩
theorem needOf_both (zs : List Int) (h : zs.length ≤ 1048576) : ∃ (r0 : Int) (r1 : Bool),
    (∀ (w : World) (B : Option Addr) (c lo hi : Nat), Ins w lo hi B zs → Calls Try.prog 17 #[.slice B zs.length c] w fun e w' => e = .returned (.tuple #[.int .i64 r0, .bool r1]) ∧ Below w.heap.size w w') ∧
    (∀ (w : World) (B : Option Addr) (c lo hi : Nat), Ins w lo hi B zs → Calls Try.prog 15 #[.slice B zs.length c] w fun e w' => e = .returned (.tuple #[.int .i64 r0, .bool r1]) ∧ Below w.heap.size w w') :=
  ⟨_, _, fun w B c lo hi hS => needOf_impl B c lo hi zs w hS h, fun w B c lo hi hS => needOf_spec B c lo hi zs w hS h⟩
end Go.Proofs.Ytdkffkgoalgjmab
namespace Go.Proofs.Ytdkffkgoalgjmab
open Go.RowKit Go.ChangeShapes Go.WideShapes
set_option linter.unusedVariables false

def selStep (q : Int) (k : Nat) (l : List Int) (z : Int) : List Int := if inQ q k = true then cntStep l z else l
def selTo (zs : List Int) (q : Int) (n : Nat) : Nat → List Int
  | 0 => List.replicate n 0
  | k + 1 => selStep q k (selTo zs q n k) (zs.getD k (-1))
theorem selStep_len (q : Int) (k : Nat) (l : List Int) (z : Int) : (selStep q k l z).length = l.length := by
  unfold selStep; split <;> simp [cntStep_len]
theorem selTo_len (zs : List Int) (q : Int) (n : Nat) : ∀ k, (selTo zs q n k).length = n
  | 0 => by simp [selTo]
  | k + 1 => by rw [selTo, selStep_len, selTo_len zs q n k]
theorem bump_bd {l : List Int} {k : Nat} (ih : ∀ x ∈ l, 0 ≤ x ∧ x ≤ (k : Int)) (z : Int) : ∀ x ∈ cntStep l z, 0 ≤ x ∧ x ≤ ((k + 1 : Nat) : Int) := fun x hx => by
  unfold cntStep at hx
  split at hx
  · rcases List.mem_or_eq_of_mem_set hx with h | h
    · have := ih x h; omega
    · have := getD_bd ih (by omega) z.toNat
      omega
  · have := ih x hx; omega
theorem selTo_bd (zs : List Int) (q : Int) (n : Nat) : ∀ k, ∀ x ∈ selTo zs q n k, 0 ≤ x ∧ x ≤ (k : Int)
  | 0 => fun x hx => by
    have := List.eq_of_mem_replicate hx
    omega
  | k + 1 => fun x hx => by
    have ih := selTo_bd zs q n k
    unfold selTo selStep at hx
    split at hx
    · exact bump_bd ih _ x hx
    · have := ih x hx; omega
theorem selTo_nil (zs : List Int) (q : Int) (n : Nat) : ((selTo zs q n 0).map (Value.int .i64)).toArray = Array.replicate n (Value.int .i64 0) := by simp [selTo]
theorem sum_bump : ∀ (l : List Int) (i : Nat), i < l.length → sumI (l.set i (l.getD i 0 + 1)) = sumI l + 1
  | [], i, h => by simp at h
  | x :: l, 0, h => by simp [sumI]; omega
  | x :: l, i + 1, h => by
    have := sum_bump l i (by simpa using h)
    simp [sumI] at this ⊢
    omega
theorem fit_same : ∀ {l m : List Int}, fitL l m = true → ∀ i, fitL l (m.set i (m.getD i 0 + 1)) = true
  | [], [], _, i => by simp [fitL]
  | x :: l, y :: m, h, 0 => by simp [fitL] at h ⊢; exact ⟨by omega, h.2⟩
  | x :: l, y :: m, h, i + 1 => by
    simp only [fitL, Bool.and_eq_true] at h
    have := fit_same h.2 i
    simp [fitL] at h this ⊢
    exact ⟨h.1, this⟩
  | [], y :: m, h, i => by simp [fitL] at h
  | x :: l, [], h, i => by simp [fitL] at h
theorem fit_bump : ∀ {l m : List Int}, fitL l m = true → ∀ i, fitL (l.set i (l.getD i 0 + 1)) (m.set i (m.getD i 0 + 1)) = true
  | [], [], _, i => by simp [fitL]
  | x :: l, y :: m, h, 0 => by simp [fitL] at h ⊢; exact ⟨by omega, h.2⟩
  | x :: l, y :: m, h, i + 1 => by
    simp only [fitL, Bool.and_eq_true] at h
    have := fit_bump h.2 i
    simp [fitL] at h this ⊢
    exact ⟨h.1, this⟩
  | [], y :: m, h, i => by simp [fitL] at h
  | x :: l, [], h, i => by simp [fitL] at h
theorem fit_zero : ∀ n, fitL (List.replicate n 0) (List.replicate n 0) = true
  | 0 => rfl
  | n + 1 => by simp only [List.replicate_succ, fitL, fit_zero n]; rfl
theorem sel_fit (zs : List Int) (q : Int) (n : Nat) : ∀ k, fitL (selTo zs q n k) (cntTo zs n k) = true
  | 0 => fit_zero n
  | k + 1 => by
    have ih := sel_fit zs q n k
    unfold selTo cntTo selStep cntStep
    split
    · split
      · exact fit_bump ih _
      · exact ih
    · split
      · exact fit_same ih _
      · exact ih
theorem sum_zero : ∀ n, sumI (List.replicate n 0) = 0
  | 0 => rfl
  | n + 1 => by simp [List.replicate_succ, sumI, sum_zero n]
/-- The counts tell how many are open. -/
theorem cnt_sum (zs : List Int) (n : Nat) (h : ∀ k (hk : k < zs.length), zs[k] < (n : Int)) : ∀ k, k ≤ zs.length → sumI (cntTo zs n k) = ((filt (fun k => decide (0 ≤ zs.getD k (-1))) k).length : Int)
  | 0, _ => sum_zero n
  | k + 1, hk => by
    have ih := cnt_sum zs n h k (by omega)
    have hz := h k (by omega)
    have hgd := getD_at (zs := zs) (k := k) (by omega)
    unfold cntTo cntStep
    rw [hgd]
    split
    · rename_i h0
      rw [sum_bump _ _ (by rw [cntTo_len]; omega), ih, filt_yes (by show decide (0 ≤ zs.getD k (-1)) = true; rw [hgd]; exact decide_eq_true h0)]
      simp
    · rename_i h0
      rw [ih, filt_no (by show decide (0 ≤ zs.getD k (-1)) = false; rw [hgd]; exact decide_eq_false h0)]

set_option maxRecDepth 100000 in
set_option maxHeartbeats 4000000 in
theorem l4Of_any (A : Option Addr) (c lo hi : Nat) (zs : List Int) (M : Nat) (q : Int) (w : World) (hS : Ins w lo hi A zs) (hst : isSt zs (M : Int) = true) :
    Calls Try.prog 81 #[.agg #[.slice A zs.length c, .int .i64 (M : Int)], .int .i64 q] w fun e w' => ∃ g, e = .returned (.slice (some ⟨g, 0, none⟩) (M + 1) (M + 1)) ∧ w.heap.size ≤ g ∧ w'.heap[g]? = some (.cells ((selTo zs q (M + 1) zs.length).map (Value.int .i64)).toArray 3 (0, 0)) ∧ Below w.heap.size w w' := by
  have hl := isSt_len hst
  have hn12 : zs.length ≤ 12 := hl.2.1
  have hM : M ≤ 2 := by omega
  have hmk := makeInts1 M (by omega)
  have hh := hS.top
  have HA := Lib.hid (fun k (h : k < zs.length) => isSt_at hst h)
  have HX0 := Lib.hid (Arg.next (Below.refl w.heap.size w) (.slice A zs.length c) (.int .i64 (M : Int)) 36 w.heap.size rfl)
  have HI0 := Lib.hid (hS.step HX0.out.below)
  have hs0 : (w.alloc (.cells #[.slice A zs.length c, .int .i64 (M : Int)] 36)).heap.size = w.heap.size + 1 := by simp
  clear hS hst hl
  go_enter Try.func81, Try.ntmps81
  go_wp2_with fail
  clear hmk
  generalize w.alloc (.cells #[.slice A zs.length c, .int .i64 (M : Int)] 36) = wa at HX0 HI0 hs0 ⊢
  go_loopw [6] (fun i wr => ∃ (k : Nat), k ≤ zs.length ∧ i = .int .i64 k ∧ Hid (wr.heap[w.heap.size + 1]? = some (.cells ((selTo zs q (M + 1) k).map (Value.int .i64)).toArray 3 (0, 0))) ∧ Hid (Past (w.heap.size + 1) wa wr)) (fun i _ => zs.length - (intOf i).toNat)
  case atStart => exact ⟨0, Nat.zero_le _, rfl, Lib.hid (by rw [selTo_nil, ← hs0]; exact alloc_row wa _ _), Past.of_below ((Below.refl _ _).alloc (Nat.le_refl _) _)⟩
  case round =>
    obtain ⟨k, hk, rfl, HO, HP⟩ := hrel
    have hc0 := cell_past HP.out HX0.out.c0 (Nat.lt_succ_self _)
    by_cases hlt : k < zs.length
    · obtain ⟨b, o, rfl, _, hb, hc⟩ := (HI0.out.past HP.out (by omega)).ints.at_ hlt
      have hgd := getD_at hlt
      have hat := HA.out k hlt
      have HL := Lib.hid (selTo_len zs q (M + 1) k)
      have HD := Lib.hid (selTo_bd zs q (M + 1) k)
      by_cases hx : 0 ≤ zs[k]
      · cases hQ : inQ q k with
        | true =>
          have HF : Hid (selTo zs q (M + 1) (k + 1) = (selTo zs q (M + 1) k).set zs[k].toNat ((selTo zs q (M + 1) k).getD zs[k].toNat 0 + 1)) := by
            show selStep q k _ _ = _
            rw [hgd]
            unfold selStep
            rw [if_pos hQ]
            exact if_pos hx
          obtain ⟨i, hi⟩ : ∃ i : Nat, zs[k] = (i : Int) := ⟨zs[k].toNat, by omega⟩
          rw [hi] at hc hat HF
          rw [Int.toNat_natCast] at HF
          clear hx hi hgd
          have hiM : i < M + 1 := by omega
          have hne : ¬ (i : Int) = -1 := by omega
          have hbd := getD_bd HD.out (by omega) i
          have hrow := HO.out
          have hcell := getD_cell hrow (i := i) (by rw [HL.out]; exact hiM)
          have hfr := row_freeI hrow i
          have HO2 := Lib.hid (row_setI hrow i (.int .i64 ((selTo zs q (M + 1) k).getD i 0 + 1)))
          rw [map_set] at HO2
          have HP2 := Lib.hid (HP.out.trans (Past.of_within (within_set (Within.refl (w.heap.size + 1) (w.heap.size + 2) wr) (g := w.heap.size + 1) (Nat.le_refl _) (by omega) i (.int .i64 ((selTo zs q (M + 1) k).getD i 0 + 1))) (Nat.le_refl _)))
          clear hrow HL HD
          generalize (selTo zs q (M + 1) k).getD i 0 = z at hcell hbd HF HO2 HP2
          rw [show inQ q k = (bits .and .i64 (q / 2 ^ k) 1 == 1) from rfl] at hQ
          go_wp2
          go_roundw
          case rel => exact ⟨k + 1, by omega, by go_num, by rw [HF.out]; exact HO2.out, HP2.out⟩
          case measure => simp [intOf]; omega
        | false =>
          have HF : Hid (selTo zs q (M + 1) (k + 1) = selTo zs q (M + 1) k) := by
            show selStep q k _ _ = _
            unfold selStep
            rw [hQ]
            rfl
          have hne : ¬ zs[k] = -1 := by omega
          clear hgd
          rw [show inQ q k = (bits .and .i64 (q / 2 ^ k) 1 == 1) from rfl] at hQ
          go_wp2
          go_roundw
          case rel => exact ⟨k + 1, by omega, by go_num, by rw [HF.out]; exact HO.out, HP.out⟩
          case measure => simp [intOf]; omega
      · have HF : Hid (selTo zs q (M + 1) (k + 1) = selTo zs q (M + 1) k) := by
          show selStep q k _ _ = _
          rw [hgd]
          unfold selStep
          cases inQ q k
          · rfl
          · exact if_neg hx
        have hne : zs[k] = -1 := by omega
        rw [hne] at hc
        clear hgd
        go_wp2
        go_roundw
        case rel => exact ⟨k + 1, by omega, by go_num, by rw [HF.out]; exact HO.out, HP.out⟩
        case measure => simp [intOf]; omega
    · obtain rfl : k = zs.length := by omega
      go_wp2
      go_ret
      exact ⟨_, rfl, by omega, HO.out, HX0.out.below.trans (HP.out.below (by omega) (by omega))⟩

set_option maxRecDepth 100000 in
set_option maxHeartbeats 4000000 in
theorem splitBy_any (A : Option Addr) (c lo hi : Nat) (zs : List Int) (M : Nat) (q : Int) (w : World) (hS : Ins w lo hi A zs) (hst : isSt zs (M : Int) = true) :
    Calls Try.prog 83 #[.agg #[.slice A zs.length c, .int .i64 (M : Int)], .int .i64 q] w fun e w' => ∃ g, e = .returned (.slice (some ⟨g, 0, none⟩) (M + 1) (M + 1)) ∧ w.heap.size ≤ g ∧ w'.heap[g]? = some (.cells ((selTo zs q (M + 1) zs.length).map (Value.int .i64)).toArray 3 (0, 0)) ∧ Below w.heap.size w w' := by
  have hl := isSt_len hst
  have hn12 : zs.length ≤ 12 := hl.2.1
  have hM : M ≤ 2 := by omega
  have hmk := makeInts1 M (by omega)
  have hh := hS.top
  have HA := Lib.hid (fun k (h : k < zs.length) => isSt_at hst h)
  have HX0 := Lib.hid (Arg.next (Below.refl w.heap.size w) (.slice A zs.length c) (.int .i64 (M : Int)) 36 w.heap.size rfl)
  have HI0 := Lib.hid (hS.step HX0.out.below)
  have hs0 : (w.alloc (.cells #[.slice A zs.length c, .int .i64 (M : Int)] 36)).heap.size = w.heap.size + 1 := by simp
  clear hS hst hl
  go_enter Try.func83, Try.ntmps83
  go_wp2_with fail
  clear hmk
  generalize w.alloc (.cells #[.slice A zs.length c, .int .i64 (M : Int)] 36) = wa at HX0 HI0 hs0 ⊢
  go_loopw [15] (fun i wr => ∃ (k : Nat), k ≤ zs.length ∧ i = .int .i64 k ∧ Hid (wr.heap[w.heap.size + 1]? = some (.cells ((selTo zs q (M + 1) k).map (Value.int .i64)).toArray 3 (0, 0))) ∧ Hid (Past (w.heap.size + 1) wa wr)) (fun i _ => zs.length - (intOf i).toNat)
  case atStart => exact ⟨0, Nat.zero_le _, rfl, Lib.hid (by rw [selTo_nil, ← hs0]; exact alloc_row wa _ _), Past.of_below ((Below.refl _ _).alloc (Nat.le_refl _) _)⟩
  case round =>
    obtain ⟨k, hk, rfl, HO, HP⟩ := hrel
    have hc0 := cell_past HP.out HX0.out.c0 (Nat.lt_succ_self _)
    by_cases hlt : k < zs.length
    · obtain ⟨b, o, rfl, _, hb, hc⟩ := (HI0.out.past HP.out (by omega)).ints.at_ hlt
      have hgd := getD_at hlt
      have hat := HA.out k hlt
      have HL := Lib.hid (selTo_len zs q (M + 1) k)
      have HD := Lib.hid (selTo_bd zs q (M + 1) k)
      by_cases hx : 0 ≤ zs[k]
      · cases hQ : inQ q k with
        | true =>
          have HF : Hid (selTo zs q (M + 1) (k + 1) = (selTo zs q (M + 1) k).set zs[k].toNat ((selTo zs q (M + 1) k).getD zs[k].toNat 0 + 1)) := by
            show selStep q k _ _ = _
            rw [hgd]
            unfold selStep
            rw [if_pos hQ]
            exact if_pos hx
          obtain ⟨i, hi⟩ : ∃ i : Nat, zs[k] = (i : Int) := ⟨zs[k].toNat, by omega⟩
          rw [hi] at hc hat HF
          rw [Int.toNat_natCast] at HF
          clear hx hi hgd
          have hiM : i < M + 1 := by omega
          have hne : ¬ (i : Int) = -1 := by omega
          have hbd := getD_bd HD.out (by omega) i
          have hrow := HO.out
          have hcell := getD_cell hrow (i := i) (by rw [HL.out]; exact hiM)
          have hfr := row_freeI hrow i
          have HO2 := Lib.hid (row_setI hrow i (.int .i64 ((selTo zs q (M + 1) k).getD i 0 + 1)))
          rw [map_set] at HO2
          have HP2 := Lib.hid (HP.out.trans (Past.of_within (within_set (Within.refl (w.heap.size + 1) (w.heap.size + 2) wr) (g := w.heap.size + 1) (Nat.le_refl _) (by omega) i (.int .i64 ((selTo zs q (M + 1) k).getD i 0 + 1))) (Nat.le_refl _)))
          clear hrow HL HD
          generalize (selTo zs q (M + 1) k).getD i 0 = z at hcell hbd HF HO2 HP2
          have HQ := Lib.hid (fun W => inQuestion_any q k W (by omega))
          rw [hQ] at HQ
          go_wp2_with fail
          refine (HQ.out _).mono ?_
          rintro e w9 ⟨rfl, rfl⟩
          go_wp2
          go_roundw
          case rel => exact ⟨k + 1, by omega, by go_num, by rw [HF.out]; exact HO2.out, HP2.out⟩
          case measure => simp [intOf]; omega
        | false =>
          have HF : Hid (selTo zs q (M + 1) (k + 1) = selTo zs q (M + 1) k) := by
            show selStep q k _ _ = _
            unfold selStep
            rw [hQ]
            rfl
          have hne : ¬ zs[k] = -1 := by omega
          clear hgd
          have HQ := Lib.hid (fun W => inQuestion_any q k W (by omega))
          rw [hQ] at HQ
          go_wp2_with fail
          refine (HQ.out _).mono ?_
          rintro e w9 ⟨rfl, rfl⟩
          go_wp2
          go_roundw
          case rel => exact ⟨k + 1, by omega, by go_num, by rw [HF.out]; exact HO.out, HP.out⟩
          case measure => simp [intOf]; omega
      · have HF : Hid (selTo zs q (M + 1) (k + 1) = selTo zs q (M + 1) k) := by
          show selStep q k _ _ = _
          rw [hgd]
          unfold selStep
          cases inQ q k
          · rfl
          · exact if_neg hx
        have hne : zs[k] = -1 := by omega
        rw [hne] at hc
        clear hgd
        go_wp2
        go_roundw
        case rel => exact ⟨k + 1, by omega, by go_num, by rw [HF.out]; exact HO.out, HP.out⟩
        case measure => simp [intOf]; omega
    · obtain rfl : k = zs.length := by omega
      go_wp2
      go_ret
      exact ⟨_, rfl, by omega, HO.out, HX0.out.below.trans (HP.out.below (by omega) (by omega))⟩

end Go.Proofs.Ytdkffkgoalgjmab
namespace Go.Proofs.Ytdkffkgoalgjmab
set_option linter.unusedVariables false

theorem bump_get (l : List Int) (z : Int) (i : Nat) (hi : i < l.length) : (cntStep l z).getD i 0 = l.getD i 0 + if z = (i : Int) then 1 else 0 := by
  unfold cntStep
  by_cases h0 : 0 ≤ z
  · rw [if_pos h0]
    by_cases e : z = (i : Int)
    · subst e
      rw [if_pos rfl, Int.toNat_natCast, List.getD, List.getElem?_set_self hi]
      rfl
    · rw [if_neg e, List.getD, List.getElem?_set_ne (by omega), List.getD]
      omega
  · rw [if_neg h0, if_neg (by omega)]
    omega
theorem selStep_get (q : Int) (k : Nat) (l : List Int) (z : Int) (i : Nat) (hi : i < l.length) : (selStep q k l z).getD i 0 = l.getD i 0 + if inQ q k = true ∧ z = (i : Int) then 1 else 0 := by
  unfold selStep
  cases inQ q k
  · simp
  · simp only [if_pos, true_and]
    exact bump_get l z i hi
/-- Those for which an answer is true. -/
def trueFor (y : Bool) (c s : Int) : Int := if y = true then s else c - s
theorem afters_get {zs : List Int} {m q : Int} {y : Bool} {k : Nat} (hk : k < zs.length) : (afters zs m q y).getD k (-1) = aft1 m (y != inQ q k) (zs.getD k (-1)) := by
  rw [afters, List.getD, aftTo_lt zs m q y zs.length k hk hk]; rfl
theorem step0 (M z C S F : Int) (y p : Bool) (hz : -1 ≤ z ∧ z ≤ M) (hM : 0 ≤ M) (h : F = trueFor y C S) :
    F + (if aft1 M (y != p) z = 0 then 1 else 0) = trueFor y (C + if z = 0 then 1 else 0) (S + if p = true ∧ z = 0 then 1 else 0) := by
  subst h
  by_cases h0 : z = 0
  · subst h0
    by_cases hm : (0 : Int) = M
    · subst hm
      cases y <;> cases p <;> simp [trueFor, aft1] <;> omega
    · cases y <;> cases p <;> simp [trueFor, aft1, hm] <;> omega
  · by_cases hn : 0 ≤ z
    · by_cases hm : z = M
      · subst hm
        cases y <;> cases p <;> simp [trueFor, aft1, hn, h0] <;> omega
      · have h1 : ¬ z + 1 = 0 := by omega
        cases y <;> cases p <;> simp [trueFor, aft1, hn, h0, hm, h1]
    · cases y <;> cases p <;> simp [trueFor, aft1, hn, h0]
theorem stepS (M z C S F C' S' : Int) (j : Nat) (y p : Bool) (hz : -1 ≤ z ∧ z ≤ M) (hj : (j : Int) < M) (h : F = trueFor y C S + trueFor (!y) C' S') :
    F + (if aft1 M (y != p) z = ((j + 1 : Nat) : Int) then 1 else 0) = trueFor y (C + if z = ((j + 1 : Nat) : Int) then 1 else 0) (S + if p = true ∧ z = ((j + 1 : Nat) : Int) then 1 else 0) + trueFor (!y) (C' + if z = (j : Int) then 1 else 0) (S' + if p = true ∧ z = (j : Int) then 1 else 0) := by
  subst h
  have e : ((j + 1 : Nat) : Int) = (j : Int) + 1 := by omega
  rw [e]
  have hj0 : (0 : Int) ≤ (j : Int) := by omega
  generalize (j : Int) = J at hj hj0 ⊢
  by_cases h0 : z = J
  · subst h0
    have hm : ¬ z = M := by omega
    have h1 : ¬ z = z + 1 := by omega
    cases y <;> cases p <;> simp [trueFor, aft1, hm, hj0, h1] <;> omega
  · by_cases h2 : z = J + 1
    · subst h2
      have hn : 0 ≤ J + 1 := by omega
      have h3 : ¬ J + 1 + 1 = J + 1 := by omega
      have h4 : ¬ J + 1 = J := by omega
      have h5 : ¬ (-1 : Int) = J + 1 := by omega
      by_cases hm : J + 1 = M
      · cases y <;> cases p <;> simp [trueFor, aft1, hm] <;> omega
      · cases y <;> cases p <;> simp [trueFor, aft1, hm, hn, h3, h4] <;> omega
    · by_cases hn : 0 ≤ z
      · by_cases hm : z = M
        · subst hm
          have h5 : ¬ (-1 : Int) = J + 1 := by omega
          cases y <;> cases p <;> simp [trueFor, aft1, hn, h0, h2, h5]
        · have h6 : ¬ z + 1 = J + 1 := by omega
          cases y <;> cases p <;> simp [trueFor, aft1, hn, h0, h2, hm, h6]
      · cases y <;> cases p <;> simp [trueFor, aft1, hn, h0, h2]

theorem cnt_aft {zs : List Int} {M : Nat} (q : Int) (y : Bool) (hst : isSt zs (M : Int) = true) : ∀ k, k ≤ zs.length →
    (cntTo (afters zs (M : Int) q y) (M + 1) k).getD 0 0 = trueFor y ((cntTo zs (M + 1) k).getD 0 0) ((selTo zs q (M + 1) k).getD 0 0) ∧
    ∀ j, j < M → (cntTo (afters zs (M : Int) q y) (M + 1) k).getD (j + 1) 0 = trueFor y ((cntTo zs (M + 1) k).getD (j + 1) 0) ((selTo zs q (M + 1) k).getD (j + 1) 0) + trueFor (!y) ((cntTo zs (M + 1) k).getD j 0) ((selTo zs q (M + 1) k).getD j 0)
  | 0, _ => by
    have h : ∀ i, (List.replicate (M + 1) (0 : Int)).getD i 0 = 0 := fun i => by
      rw [List.getD, List.getElem?_replicate]
      split <;> rfl
    simp only [cntTo, selTo, h]
    cases y <;> simp [trueFor]
  | k + 1, hk => by
    obtain ⟨ih0, ih⟩ := cnt_aft q y hst k (by omega)
    have hz := isSt_at hst (show k < zs.length by omega)
    have hg : zs.getD k (-1) = zs[k] := getD_at (show k < zs.length by omega)
    have l1 : (cntTo (afters zs (M : Int) q y) (M + 1) k).length = M + 1 := cntTo_len _ _ _
    have l2 : (cntTo zs (M + 1) k).length = M + 1 := cntTo_len _ _ _
    have l3 : (selTo zs q (M + 1) k).length = M + 1 := selTo_len _ _ _ _
    simp only [cntTo, selTo]
    rw [afters_get (show k < zs.length by omega), hg]
    rw [bump_get _ _ 0 (by omega), bump_get _ _ 0 (by omega), selStep_get _ _ _ _ 0 (by omega)]
    refine ⟨?_, fun j hj => ?_⟩
    · have := step0 (M : Int) zs[k] _ _ _ y (inQ q k) hz (by omega) ih0
      simpa using this
    · rw [bump_get _ _ (j + 1) (by omega), bump_get _ _ (j + 1) (by omega), selStep_get _ _ _ _ (j + 1) (by omega), bump_get _ _ j (by omega), selStep_get _ _ _ _ j (by omega)]
      exact stepS (M : Int) zs[k] _ _ _ _ _ j y (inQ q k) hz (by omega) (ih j hj)
theorem lst_ext {p : Nat} {l : List Int} {r : Row} (hw : Wide p r) (hl : l.length = p) (h : ∀ i, i < p → l.getD i 0 = (lstR p r).getD i 0) : l = lstR p r := by
  apply List.ext_getElem?
  intro i
  by_cases hi : i < p
  · have := h i hi
    rw [List.getD, List.getD, List.getElem?_eq_getElem (by omega), List.getElem?_eq_getElem (by rw [lstR_len hw]; exact hi)] at this
    rw [List.getElem?_eq_getElem (by omega), List.getElem?_eq_getElem (by rw [lstR_len hw]; exact hi)]
    simpa using this
  · rw [List.getElem?_eq_none (by omega), List.getElem?_eq_none (by rw [lstR_len hw]; omega)]
theorem behind_row {zs : List Int} {M : Nat} {q : Int} {r s : Row} (hst : isSt zs (M : Int) = true) (hr : cntTo zs (M + 1) zs.length = lstR (M + 1) r) (hs : selTo zs q (M + 1) zs.length = lstR (M + 1) s) (hw : Wide (M + 1) r) (hws : Wide (M + 1) s) (hf : Fits s r) (y : Bool) :
    cntTo (afters zs (M : Int) q y) (M + 1) (afters zs (M : Int) q y).length = lstR (M + 1) (if y = true then yesR r s else noR r s) := by
  have hl := isSt_len hst
  obtain ⟨c0, cj⟩ := cnt_aft q y hst zs.length (Nat.le_refl _)
  rw [hr, hs] at c0
  rw [hr, hs] at cj
  rw [afters_len]
  obtain ⟨a, b, c⟩ := r
  obtain ⟨x, y1, z⟩ := s
  obtain ⟨f1, f2, f3⟩ := hf
  simp only at f1 f2 f3
  have hM : M = 0 ∨ M = 1 ∨ M = 2 := by omega
  have hwb : Wide (M + 1) (if y = true then yesR (a, b, c) (x, y1, z) else noR (a, b, c) (x, y1, z)) := by
    rcases hw with ⟨h1, h2, h3⟩ | ⟨h1, h2⟩ | h1
    · simp only at h2 h3
      refine .inl ⟨h1, ?_, ?_⟩ <;> cases y <;> simp [yesR, noR, leftR] <;> omega
    · simp only at h2
      refine .inr (.inl ⟨h1, ?_⟩)
      cases y <;> simp [yesR, noR, leftR] <;> omega
    · exact .inr (.inr h1)
  refine lst_ext hwb (by rw [cntTo_len]) fun i hi => ?_
  rcases hM with rfl | rfl | rfl
  · rcases hw with ⟨_, h2, h3⟩ | ⟨h1, _⟩ | h1
    · simp only at h2 h3
      obtain rfl : i = 0 := by omega
      rw [c0]
      cases y <;> simp [lstR, trueFor, yesR, noR, leftR] <;> omega
    · omega
    · omega
  · rcases hw with ⟨h1, _⟩ | ⟨_, h2⟩ | h1
    · omega
    · simp only at h2
      match i, hi with
      | 0, _ =>
        rw [c0]
        cases y <;> simp [lstR, trueFor, yesR, noR, leftR] <;> omega
      | 1, _ =>
        rw [cj 0 (by omega)]
        cases y <;> simp [lstR, trueFor, yesR, noR, leftR] <;> omega
    · omega
  · match i, hi with
    | 0, _ =>
      rw [c0]
      cases y <;> simp [lstR, trueFor, yesR, noR, leftR] <;> omega
    | 1, _ =>
      rw [cj 0 (by omega)]
      cases y <;> simp [lstR, trueFor, yesR, noR, leftR] <;> omega
    | 2, _ =>
      rw [cj 1 (by omega)]
      cases y <;> simp [lstR, trueFor, yesR, noR, leftR] <;> omega
theorem behind_sum {r s : Row} (hf : Fits s r) (y : Bool) : rsum (if y = true then yesR r s else noR r s) ≤ rsum r := by
  obtain ⟨a, b, c⟩ := r
  obtain ⟨x, z, u⟩ := s
  obtain ⟨f1, f2, f3⟩ := hf
  simp only at f1 f2 f3
  cases y <;> simp [yesR, noR, leftR, rsum] <;> omega
end Go.Proofs.Ytdkffkgoalgjmab
namespace Go.Proofs.Ytdkffkgoalgjmab
open Go.RowKit Go.ChangeShapes Go.WideShapes Go.Maps
set_option linter.unusedVariables false

theorem sum_lst8 {p : Nat} {r : Row} (hw : Wide p r) : sumI (lstR p r) = ((rsum r : Nat) : Int) := by
  obtain ⟨a, b, c⟩ := r
  rcases hw with ⟨h1, h2, h3⟩ | ⟨h1, h2⟩ | h1
  · simp only at h2 h3
    subst h1 h2 h3
    simp [lstR, sumI, rsum]
  · simp only at h2
    subst h1 h2
    simp [lstR, sumI, rsum]
  · subst h1
    simp [lstR, sumI, rsum]
    omega
theorem cs_sum8 {zs : List Int} {M : Nat} (hst : isSt zs (M : Int) = true) : sumI (cntTo zs (M + 1) zs.length) = ((opens zs).length : Int) :=
  cnt_sum zs (M + 1) (fun k hk => by have := isSt_at hst hk; omega) zs.length (Nat.le_refl _)
theorem cs_ok8 {zs : List Int} {M : Nat} (hst : isSt zs (M : Int) = true) : cOK (cntTo zs (M + 1) zs.length) = decide ((opens zs).length ≤ 8) := by
  have hl := isSt_len hst
  have hs := cs_sum8 hst
  by_cases h8 : (opens zs).length ≤ 8
  · rw [decide_eq_true h8]
    simp only [cOK, Bool.and_eq_true, decide_eq_true_eq, List.all_eq_true, cntTo_len]
    exact ⟨⟨⟨by omega, by omega⟩, fun x hx => (cntTo_bd zs (M + 1) zs.length x hx).1⟩, by omega⟩
  · rw [decide_eq_false h8]
    have : ¬ sumI (cntTo zs (M + 1) zs.length) ≤ 8 := by omega
    unfold cOK
    rw [decide_eq_false this, Bool.and_false]
/-- The rows of a state and of a question. -/
structure RowsOf (zs : List Int) (M : Nat) (q : Int) (r s : Row) : Prop where
  c : cntTo zs (M + 1) zs.length = lstR (M + 1) r
  w : Wide (M + 1) r
  h8 : rsum r ≤ 8
  sel : selTo zs q (M + 1) zs.length = lstR (M + 1) s
  ws : Wide (M + 1) s
  fit : Fits s r
theorem rows_of {zs : List Int} {M : Nat} (q : Int) (hst : isSt zs (M : Int) = true) (h8 : (opens zs).length ≤ 8) : ∃ r s, RowsOf zs M q r s := by
  have hck := cs_ok8 hst
  rw [decide_eq_true h8] at hck
  obtain ⟨r, hr, hw, h8⟩ := cOK_row hck
  rw [cntTo_len] at hr hw
  have hfit := sel_fit zs q (M + 1) zs.length
  rw [hr] at hfit
  obtain ⟨s, hs, hws, hfs⟩ := fit_row hw hfit
  exact ⟨r, s, hr, hw, h8, hs, hws, hfs⟩
/-- Whether the need behind yes is greater. -/
def holdB (zs : List Int) (M : Nat) (q : Int) : Bool := decide (needR (rowL (cntTo (afters zs (M : Int) q false) (M + 1) zs.length)) < needR (rowL (cntTo (afters zs (M : Int) q true) (M + 1) zs.length)))
theorem RowsOf.wide {zs : List Int} {M : Nat} {q : Int} {r s : Row} (h : RowsOf zs M q r s) (y : Bool) : Wide (M + 1) (if y = true then yesR r s else noR r s) := by
  obtain ⟨a, b, c⟩ := r
  obtain ⟨x, y1, z⟩ := s
  obtain ⟨f1, f2, f3⟩ := h.fit
  simp only at f1 f2 f3
  rcases h.w with ⟨h1, h2, h3⟩ | ⟨h1, h2⟩ | h1
  · simp only at h2 h3
    refine .inl ⟨h1, ?_, ?_⟩ <;> cases y <;> simp [yesR, noR, leftR] <;> omega
  · simp only at h2
    refine .inr (.inl ⟨h1, ?_⟩)
    cases y <;> simp [yesR, noR, leftR] <;> omega
  · exact .inr (.inr h1)
theorem RowsOf.behind {zs : List Int} {M : Nat} {q : Int} {r s : Row} (h : RowsOf zs M q r s) (hst : isSt zs (M : Int) = true) (y : Bool) :
    cntTo (afters zs (M : Int) q y) (M + 1) zs.length = lstR (M + 1) (if y = true then yesR r s else noR r s) := by
  have := behind_row hst h.c h.sel h.w h.ws h.fit y
  rwa [afters_len] at this
theorem RowsOf.hold {zs : List Int} {M : Nat} {q : Int} {r s : Row} (h : RowsOf zs M q r s) (hst : isSt zs (M : Int) = true) : holdB zs M q = decide (needR (noR r s) < needR (yesR r s)) := by
  unfold holdB
  rw [rowL_eq (h.behind hst false) (h.wide false), rowL_eq (h.behind hst true) (h.wide true)]
  rfl
/-- A block of three cells. -/
structure Tri8 (w : World) (b : Nat) (x y z : Value) (t : TypeId) : Prop where
  row : w.heap[b]? = some (.cells #[x, y, z] t (0, 0))
theorem Tri8.lt {w : World} {b : Nat} {x y z : Value} {t : TypeId} (h : Tri8 w b x y z t) : b < w.heap.size := row_ltI h.row
theorem Tri8.step {w w' : World} {b : Nat} {x y z : Value} {t : TypeId} (h : Tri8 w b x y z t) (hb : Below w.heap.size w w') : Tri8 w' b x y z t := ⟨(hb.block b h.lt).trans h.row⟩
theorem Tri8.within {w w' : World} {b lo hi : Nat} {x y z : Value} {t : TypeId} (h : Tri8 w b x y z t) (hb : Within lo hi w w') (hd : b < lo ∨ hi ≤ b) : Tri8 w' b x y z t := ⟨(hb.block b h.lt hd).trans h.row⟩
theorem Tri8.new (w : World) (x y z : Value) (t : TypeId) : Tri8 (w.alloc (.cells #[x, y, z] t)) w.heap.size x y z t := ⟨alloc_row w _ _⟩
theorem Tri8.c0 {w : World} {b : Nat} {x y z : Value} {t : TypeId} (h : Tri8 w b x y z t) : w.cell? ⟨b, 0, none⟩ = some x := by rw [row_cellI h.row]; rfl
theorem Tri8.c1 {w : World} {b : Nat} {x y z : Value} {t : TypeId} (h : Tri8 w b x y z t) : w.cell? ⟨b, 1, none⟩ = some y := by rw [row_cellI h.row]; rfl
theorem Tri8.c2 {w : World} {b : Nat} {x y z : Value} {t : TypeId} (h : Tri8 w b x y z t) : w.cell? ⟨b, 2, none⟩ = some z := by rw [row_cellI h.row]; rfl
theorem Tri8.f {w : World} {b : Nat} {x y z : Value} {t : TypeId} (h : Tri8 w b x y z t) (i : Nat) : w.frozen? ⟨b, i, none⟩ = false := row_freeI h.row i
theorem stored3_8 {w : World} {b : Nat} {x0 y0 z0 : Value} {t : TypeId} (h : Tri8 w b x0 y0 z0 t) (x y z : Value) :
    Tri8 (((w.setCell ⟨b, 0, none⟩ x).setCell ⟨b, 1, none⟩ y).setCell ⟨b, 2, none⟩ z) b x y z t ∧ Within b (b + 1) w (((w.setCell ⟨b, 0, none⟩ x).setCell ⟨b, 1, none⟩ y).setCell ⟨b, 2, none⟩ z) := by
  refine ⟨⟨?_⟩, within_set (within_set (within_set (Within.refl _ _ w) (Nat.le_refl _) (Nat.lt_succ_self _) 0 x) (Nat.le_refl _) (Nat.lt_succ_self _) 1 y) (Nat.le_refl _) (Nat.lt_succ_self _) 2 z⟩
  have := row_setI (row_setI (row_setI h.row 0 x) 1 y) 2 z
  simpa using this
def rowV8 (r : Row) : Value := .agg #[.int .i64 (r.1 : Int), .int .i64 (r.2.1 : Int), .int .i64 (r.2.2 : Int)]
def hAct8 (B n len : Nat) (A : Option Addr) (c M : Nat) (q : Int) (g : Nat) (v9 v10 v16 v17 v18 v19 v20 v21 : Value) : Act :=
  { tmps := #[.map (some B), .agg #[.slice A len c, .int .i64 (M : Int)], .int .i64 q, undef, .pointer (some ⟨n, 0, none⟩), undef, .bool false, .slice (some ⟨g, 0, none⟩) (M + 1) (M + 1), .bool true, v9, v10, .tuple #[.slice (some ⟨g, 0, none⟩) (M + 1) (M + 1), .bool true], .agg #[.slice A len c, .int .i64 (M : Int)], .tuple #[.slice (some ⟨g, 0, none⟩) (M + 1) (M + 1), .bool true], .slice (some ⟨g, 0, none⟩) (M + 1) (M + 1), .bool true, v16, v17, v18, v19, v20, v21, undef, undef, undef, undef, undef, undef, undef, undef, undef, undef, undef], defers := [] }
structure HInv8 (w1 : World) (len : Nat) (A : Option Addr) (c M : Nat) (q : Int) (g : Nat) (r s : Row) (D : Nat → Bool) (v9 v10 v16 v17 v18 v19 v20 v21 : Value) (W : World) : Prop where
  bl : Below w1.heap.size w1 W
  s16 : D 0 = true → v16 = .slice (some ⟨g, 0, none⟩) (M + 1) (M + 1)
  s17 : D 1 = true → v17 = rowV8 r
  s18 : D 2 = true → v18 = .agg #[.slice A len c, .int .i64 (M : Int)]
  s19 : D 3 = true → v19 = .int .i64 q
  s20 : D 4 = true → ∃ g2, v20 = .slice (some ⟨g2, 0, none⟩) (M + 1) (M + 1) ∧ w1.heap.size ≤ g2 ∧ W.heap[g2]? = some (.cells ((lstR (M + 1) s).map (Value.int .i64)).toArray 3 (0, 0))
  s21 : D 5 = true → v21 = rowV8 s
  s9 : D 6 = true → ∃ b x y z, v9 = .pointer (some ⟨b, 0, none⟩) ∧ w1.heap.size ≤ b ∧ Tri8 W b x y z 66 ∧ (D 8 = true → .agg #[x, y, z] = rowV8 r)
  s10 : D 7 = true → ∃ b x y z, v10 = .pointer (some ⟨b, 0, none⟩) ∧ w1.heap.size ≤ b ∧ Tri8 W b x y z 66 ∧ (D 9 = true → .agg #[x, y, z] = rowV8 s)
  ne : D 6 = true → D 7 = true → v9 ≠ v10
  o8 : D 8 = true → D 6 = true
  o9 : D 9 = true → D 7 = true
theorem row_ins8 {w : World} {g : Nat} {l : List Int} (h : w.heap[g]? = some (.cells (l.map (Value.int .i64)).toArray 3 (0, 0))) : Ins w g (g + 1) (some ⟨g, 0, none⟩) l := ints_of_row8 h fun j x hx => by simp [hx]
theorem notD8 {D : Nat → Bool} {i j : Nat} (h : D i = true → D j = true) (hj : D j = false) : D i = false := by
  cases hi : D i with
  | false => rfl
  | true => rw [h hi] at hj; cases hj
theorem Below.inner8 {a w w' : World} (h : Below a.heap.size a w) (hb : Below w.heap.size w w') : Below a.heap.size a w' := h.trans (hb.mono h.size)
set_option maxRecDepth 100000 in
set_option maxHeartbeats 8000000 in
theorem holdsByYes_any (A : Option Addr) (c lo hi : Nat) (zs : List Int) (M : Nat) (q : Int) (r s : Row) (B : Nat) (w : World) (hS : Ins w lo hi A zs) (hst : isSt zs (M : Int) = true) (hr : RowsOf zs M q r s) (hpm : PlanM w B) :
    Calls Try.prog 100 #[.map (some B), .agg #[.slice A zs.length c, .int .i64 (M : Int)], .int .i64 q] w fun e w' => e = .returned (.bool (holdB zs M q)) ∧ PlanM w' B ∧ Within B (B + 1) w w' := by
  have HT := Lib.hid (Two.new w (.slice A zs.length c) (.int .i64 (M : Int)) 36 (w.heap.size) rfl)
  have HB := Lib.hid ((Below.refl w.heap.size w).alloc (Nat.le_refl _) (.cells #[.slice A zs.length c, .int .i64 (M : Int)] 36))
  have hl := isSt_len hst
  have htop := hS.top
  have hBl := hpm.lt
  have HC := Lib.hid (fun W h => countsOf_impl A c lo hi zs M W h hst)
  have HSp := Lib.hid (fun W h => splitBy_any A c lo hi zs M q W h hst)
  rw [hr.hold hst]
  rw [hr.c] at HC
  rw [hr.sel] at HSp
  have HRo := Lib.hid (fun A1 c1 lo1 hi1 W h => rowOf_any A1 c1 lo1 hi1 (M + 1) r W h hr.w)
  have HRs := Lib.hid (fun A1 c1 lo1 hi1 W h => rowOf_any A1 c1 lo1 hi1 (M + 1) s W h hr.ws)
  have HY := Lib.hid (fun W => yesRow_any r s W hr.h8 hr.fit)
  have HN := Lib.hid (fun W => noRow_any r s W hr.h8 hr.fit)
  have HPy := Lib.hid (fun W h => needOf_any (yesR r s) (Nat.le_trans (behind_sum hr.fit true) hr.h8) W B h)
  have HPn := Lib.hid (fun W h => needOf_any (noR r s) (Nat.le_trans (behind_sum hr.fit false) hr.h8) W B h)
  have HPM := Lib.hid (hpm.heap ((HB.out.block B hBl)))
  have HI := Lib.hid (hS.step HB.out)
  clear hS hpm hst
  go_enter Try.func100, Try.ntmps100
  go_wp2_with fail
  generalize w.alloc (.cells #[.slice A zs.length c, .int .i64 (M : Int)] 36) = w0 at HT HB HI HPM ⊢
  have h0 := HT.out.c0
  have h1 := HT.out.c1
  with_reducible refine (HC.out _ HI.out).mono ?_
  rintro e w1 ⟨g, rfl, hg, hrow, hb⟩
  replace HT := Lib.hid (HT.out.step hb)
  replace HB := Lib.hid (below_trans HB.out hb)
  replace HI := Lib.hid (HI.out.step hb)
  replace HPM := Lib.hid (HPM.out.heap (hb.block B (PlanM.lt HPM.out)))
  replace h0 := HT.out.c0
  replace h1 := HT.out.c1
  have HR := Lib.hid hrow
  clear hrow
  clear hb
  clear h0 h1
  have h0 := HT.out.c0
  have h1 := HT.out.c1
  have hBw1 : B + 1 ≤ w1.heap.size := HPM.out.lt
  go_wp2_with fail
  refine wp_region_noPanic ?_
  refine wp_region_inv5 (by kernel_rfl) (by kernel_rfl) (fun D A' W => ∃ v9 v10 v16 v17 v18 v19 v20 v21, A' = hAct8 B w.heap.size zs.length A c M q g v9 v10 v16 v17 v18 v19 v20 v21 ∧ HInv8 w1 zs.length A c M q g r s D v9 v10 v16 v17 v18 v19 v20 v21 W) ?h0 ?hs ?hd
  case h0 => exact ⟨undef, undef, undef, undef, undef, undef, undef, undef, rfl, ⟨(Below.refl _ _).drew, nofun, nofun, nofun, nofun, nofun, nofun, nofun, nofun, nofun, nofun, nofun⟩⟩
  case hs =>
    rintro D _ W ⟨v9, v10, v16, v17, v18, v19, v20, v21, rfl, hI⟩ i o ho hD hA K hK
    have hi : i < 10 := (Array.getElem?_eq_some_iff.1 ho).1
    have HIa := HI
    clear HI
    have HI := Lib.hid hI
    have HK := Lib.hid hK
    clear hI hK
    obtain rfl | rfl | rfl | rfl | rfl | rfl | rfl | rfl | rfl | rfl : i = 0 ∨ i = 1 ∨ i = 2 ∨ i = 3 ∨ i = 4 ∨ i = 5 ∨ i = 6 ∨ i = 7 ∨ i = 8 ∨ i = 9 := by omega
    all_goals (obtain rfl := Option.some.inj ho; clear ho hi; simp [Region.binds] at hA; unfold hAct8)
    · go_simp
      exact HK.out _ _ ⟨_, _, _, _, _, _, _, _, rfl, ⟨(by simpa using HI.out.bl), (fun _ => rfl), (by simpa using HI.out.s17), (by simpa using HI.out.s18), (by simpa using HI.out.s19), (by simpa using HI.out.s20), (by simpa using HI.out.s21), (by simpa using HI.out.s9), (by simpa using HI.out.s10), (by simpa using HI.out.ne), (fun h => by have h2 := HI.out.o8 (by simpa using h); simp [h2]), (fun h => by have h2 := HI.out.o9 (by simpa using h); simp [h2])⟩⟩
    · obtain rfl := HI.out.s16 (by simp_all)
      go_simp
      refine (HRo.out _ _ _ _ W (row_ins8 ((HI.out.bl.block g (row_ltI HR.out)).trans HR.out))).mono ?_
      rintro e W' ⟨rfl, hb⟩
      exact HK.out _ _ ⟨_, _, _, _, _, _, _, _, rfl, ⟨(Below.inner8 HI.out.bl hb), (fun _ => rfl), (fun _ => rfl), (by simpa using HI.out.s18), (by simpa using HI.out.s19), (fun h => by obtain ⟨g2, e, hl, hr⟩ := HI.out.s20 (by simpa using h); exact ⟨g2, e, hl, (hb.block _ (row_ltI hr)).trans hr⟩), (by simpa using HI.out.s21), (fun h => by obtain ⟨b, x, y, z, e, hl, ht, h2⟩ := HI.out.s9 (by simpa using h); exact ⟨b, x, y, z, e, hl, ht.step hb, fun h3 => h2 (by simpa using h3)⟩), (fun h => by obtain ⟨b, x, y, z, e, hl, ht, h2⟩ := HI.out.s10 (by simpa using h); exact ⟨b, x, y, z, e, hl, ht.step hb, fun h3 => h2 (by simpa using h3)⟩), (by simpa using HI.out.ne), (fun h => by have h2 := HI.out.o8 (by simpa using h); simp [h2]), (fun h => by have h2 := HI.out.o9 (by simpa using h); simp [h2])⟩⟩
    · have x0 := (HT.out.step HI.out.bl).c0
      have x1 := (HT.out.step HI.out.bl).c1
      go_simp
      exact HK.out _ _ ⟨_, _, _, _, _, _, _, _, rfl, ⟨(by simpa using HI.out.bl), (by simpa using HI.out.s16), (by simpa using HI.out.s17), (fun _ => rfl), (by simpa using HI.out.s19), (by simpa using HI.out.s20), (by simpa using HI.out.s21), (by simpa using HI.out.s9), (by simpa using HI.out.s10), (by simpa using HI.out.ne), (fun h => by have h2 := HI.out.o8 (by simpa using h); simp [h2]), (fun h => by have h2 := HI.out.o9 (by simpa using h); simp [h2])⟩⟩
    · go_simp
      exact HK.out _ _ ⟨_, _, _, _, _, _, _, _, rfl, ⟨(by simpa using HI.out.bl), (by simpa using HI.out.s16), (by simpa using HI.out.s17), (by simpa using HI.out.s18), (fun _ => rfl), (by simpa using HI.out.s20), (by simpa using HI.out.s21), (by simpa using HI.out.s9), (by simpa using HI.out.s10), (by simpa using HI.out.ne), (fun h => by have h2 := HI.out.o8 (by simpa using h); simp [h2]), (fun h => by have h2 := HI.out.o9 (by simpa using h); simp [h2])⟩⟩
    · obtain rfl := HI.out.s18 (by simp_all)
      obtain rfl := HI.out.s19 (by simp_all)
      go_simp
      refine (HSp.out W (HIa.out.step HI.out.bl)).mono ?_
      rintro e W' ⟨g2, rfl, hg2, hr2, hb⟩
      exact HK.out _ _ ⟨_, _, _, _, _, _, _, _, rfl, ⟨(Below.inner8 HI.out.bl hb), (by simpa using HI.out.s16), (by simpa using HI.out.s17), (fun _ => rfl), (fun _ => rfl), (fun _ => ⟨g2, rfl, Nat.le_trans HI.out.bl.size hg2, hr2⟩), (by simpa using HI.out.s21), (fun h => by obtain ⟨b, x, y, z, e, hl, ht, h2⟩ := HI.out.s9 (by simpa using h); exact ⟨b, x, y, z, e, hl, ht.step hb, fun h3 => h2 (by simpa using h3)⟩), (fun h => by obtain ⟨b, x, y, z, e, hl, ht, h2⟩ := HI.out.s10 (by simpa using h); exact ⟨b, x, y, z, e, hl, ht.step hb, fun h3 => h2 (by simpa using h3)⟩), (by simpa using HI.out.ne), (fun h => by have h2 := HI.out.o8 (by simpa using h); simp [h2]), (fun h => by have h2 := HI.out.o9 (by simpa using h); simp [h2])⟩⟩
    · obtain ⟨g2, rfl, hg2, hr2⟩ := HI.out.s20 (by simp_all)
      go_simp
      refine (HRs.out _ _ _ _ W (row_ins8 hr2)).mono ?_
      rintro e W' ⟨rfl, hb⟩
      exact HK.out _ _ ⟨_, _, _, _, _, _, _, _, rfl, ⟨(Below.inner8 HI.out.bl hb), (by simpa using HI.out.s16), (by simpa using HI.out.s17), (by simpa using HI.out.s18), (by simpa using HI.out.s19), (fun h => by obtain ⟨g2, e, hl, hr⟩ := HI.out.s20 (by simpa using h); exact ⟨g2, e, hl, (hb.block _ (row_ltI hr)).trans hr⟩), (fun _ => rfl), (fun h => by obtain ⟨b, x, y, z, e, hl, ht, h2⟩ := HI.out.s9 (by simpa using h); exact ⟨b, x, y, z, e, hl, ht.step hb, fun h3 => h2 (by simpa using h3)⟩), (fun h => by obtain ⟨b, x, y, z, e, hl, ht, h2⟩ := HI.out.s10 (by simpa using h); exact ⟨b, x, y, z, e, hl, ht.step hb, fun h3 => h2 (by simpa using h3)⟩), (by simpa using HI.out.ne), (fun h => by have h2 := HI.out.o8 (by simpa using h); simp [h2]), (fun h => by have h2 := HI.out.o9 (by simpa using h); simp [h2])⟩⟩
    · have h8 := notD8 (fun h => HI.out.o8 h) hD
      have hb : Below W.heap.size W (W.alloc (.cells #[.int .i64 0, .int .i64 0, .int .i64 0] 66)) := (Below.refl _ _).alloc (Nat.le_refl _) _
      go_simp
      exact HK.out _ _ ⟨_, _, _, _, _, _, _, _, rfl, ⟨(Below.inner8 HI.out.bl hb), (by simpa using HI.out.s16), (by simpa using HI.out.s17), (by simpa using HI.out.s18), (by simpa using HI.out.s19), (fun h => by obtain ⟨g2, e, hl, hr⟩ := HI.out.s20 (by simpa using h); exact ⟨g2, e, hl, (hb.block _ (row_ltI hr)).trans hr⟩), (by simpa using HI.out.s21), (fun _ => ⟨W.heap.size, _, _, _, rfl, HI.out.bl.size, Tri8.new W _ _ _ _, fun h3 => by simp [h8] at h3⟩), (fun h => by obtain ⟨b, x, y, z, e, hl, ht, h2⟩ := HI.out.s10 (by simpa using h); exact ⟨b, x, y, z, e, hl, ht.step hb, fun h3 => h2 (by simpa using h3)⟩), (fun _ h7 => by obtain ⟨b, x, y, z, e, hl, ht, h2⟩ := HI.out.s10 (by simpa using h7); rw [e]; intro h9; have h5 := ht.lt; injection h9 with h9; injection h9 with h9; injection h9 with h9 _; omega), (fun h => by have h2 := HI.out.o8 (by simpa using h); simp [h2]), (fun h => by have h2 := HI.out.o9 (by simpa using h); simp [h2])⟩⟩
    · have h9' := notD8 (fun h => HI.out.o9 h) hD
      have hb : Below W.heap.size W (W.alloc (.cells #[.int .i64 0, .int .i64 0, .int .i64 0] 66)) := (Below.refl _ _).alloc (Nat.le_refl _) _
      go_simp
      exact HK.out _ _ ⟨_, _, _, _, _, _, _, _, rfl, ⟨(Below.inner8 HI.out.bl hb), (by simpa using HI.out.s16), (by simpa using HI.out.s17), (by simpa using HI.out.s18), (by simpa using HI.out.s19), (fun h => by obtain ⟨g2, e, hl, hr⟩ := HI.out.s20 (by simpa using h); exact ⟨g2, e, hl, (hb.block _ (row_ltI hr)).trans hr⟩), (by simpa using HI.out.s21), (fun h => by obtain ⟨b, x, y, z, e, hl, ht, h2⟩ := HI.out.s9 (by simpa using h); exact ⟨b, x, y, z, e, hl, ht.step hb, fun h3 => h2 (by simpa using h3)⟩), (fun _ => ⟨W.heap.size, _, _, _, rfl, HI.out.bl.size, Tri8.new W _ _ _ _, fun h3 => by simp [h9'] at h3⟩), (fun h6 _ => by obtain ⟨b, x, y, z, e, hl, ht, h2⟩ := HI.out.s9 (by simpa using h6); rw [e]; intro h9; have h5 := ht.lt; injection h9 with h9; injection h9 with h9; injection h9 with h9 _; omega), (fun h => by have h2 := HI.out.o8 (by simpa using h); simp [h2]), (fun h => by have h2 := HI.out.o9 (by simpa using h); simp [h2])⟩⟩
    · have q1 : D 6 = true := by simp_all
      obtain ⟨b, x, y, z, e9, hl, ht, _⟩ := HI.out.s9 q1
      have hne := fun h => HI.out.ne q1 h
      obtain rfl := HI.out.s17 (by simp_all)
      have c0 := ht.c0
      have c1 := ht.c1
      have c2 := ht.c2
      have f0 := ht.f 0
      have f1 := ht.f 1
      have f2 := ht.f 2
      obtain ⟨hs', hw'⟩ := stored3_8 ht (.int .i64 (r.1 : Int)) (.int .i64 (r.2.1 : Int)) (.int .i64 (r.2.2 : Int))
      have HS' := Lib.hid hs'
      have HW' := Lib.hid hw'
      have HNE := Lib.hid hne
      have E9 := Lib.hid e9
      clear hs' hw' hne
      subst e9
      unfold rowV8
      go_simp
      exact HK.out _ _ ⟨_, _, _, _, _, _, _, _, rfl, ⟨(HI.out.bl.trans (HW'.out.below hl HI.out.bl.size)), (by simpa using HI.out.s16), (fun _ => rfl), (by simpa using HI.out.s18), (by simpa using HI.out.s19), (fun h => by obtain ⟨g2, e, hl2, hr⟩ := HI.out.s20 (by simpa using h); exact ⟨g2, e, hl2, (HW'.out.block g2 (row_ltI hr) (by have h5 : g2 ≠ b := (fun e5 => by subst e5; have e6 := hr.symm.trans ht.row; injection e6 with e6; injection e6 with _ e7; exact absurd e7 (by decide)); omega)).trans hr⟩), (by simpa using HI.out.s21), (fun _ => ⟨b, _, _, _, rfl, hl, HS'.out, fun _ => rfl⟩), (fun h => by obtain ⟨b', x', y', z', e', hl', ht', h2⟩ := HI.out.s10 (by simpa using h); exact ⟨b', x', y', z', e', hl', ht'.within HW'.out (by have h5 : b' ≠ b := (fun e5 => by subst e5; exact HNE.out (by simpa using h) (by rw [e'])); omega), fun h3 => h2 (by simpa using h3)⟩), (by simpa using HI.out.ne), (fun _ => by simp [q1]), (fun h => by have h2 := HI.out.o9 (by simpa using h); simp [h2])⟩⟩
    · have q1 : D 7 = true := by simp_all
      obtain ⟨b, x, y, z, e9, hl, ht, _⟩ := HI.out.s10 q1
      have hne := fun h => HI.out.ne h q1
      obtain rfl := HI.out.s21 (by simp_all)
      have c0 := ht.c0
      have c1 := ht.c1
      have c2 := ht.c2
      have f0 := ht.f 0
      have f1 := ht.f 1
      have f2 := ht.f 2
      obtain ⟨hs', hw'⟩ := stored3_8 ht (.int .i64 (s.1 : Int)) (.int .i64 (s.2.1 : Int)) (.int .i64 (s.2.2 : Int))
      have HS' := Lib.hid hs'
      have HW' := Lib.hid hw'
      have HNE := Lib.hid hne
      have E9 := Lib.hid e9
      clear hs' hw' hne
      subst e9
      unfold rowV8
      go_simp
      exact HK.out _ _ ⟨_, _, _, _, _, _, _, _, rfl, ⟨(HI.out.bl.trans (HW'.out.below hl HI.out.bl.size)), (by simpa using HI.out.s16), (by simpa using HI.out.s17), (by simpa using HI.out.s18), (by simpa using HI.out.s19), (fun h => by obtain ⟨g2, e, hl2, hr⟩ := HI.out.s20 (by simpa using h); exact ⟨g2, e, hl2, (HW'.out.block g2 (row_ltI hr) (by have h5 : g2 ≠ b := (fun e5 => by subst e5; have e6 := hr.symm.trans ht.row; injection e6 with e6; injection e6 with _ e7; exact absurd e7 (by decide)); omega)).trans hr⟩), (fun _ => rfl), (fun h => by obtain ⟨b', x', y', z', e', hl', ht', h2⟩ := HI.out.s9 (by simpa using h); exact ⟨b', x', y', z', e', hl', ht'.within HW'.out (by have h5 : b' ≠ b := (fun e5 => by subst e5; exact HNE.out (by simpa using h) (by rw [e'])); omega), fun h3 => h2 (by simpa using h3)⟩), (fun _ => ⟨b, _, _, _, rfl, hl, HS'.out, fun _ => rfl⟩), (by simpa using HI.out.ne), (fun h => by have h2 := HI.out.o8 (by simpa using h); simp [h2]), (fun _ => by simp [q1])⟩⟩
  case hd =>
    rintro D _ W ⟨v9, v10, v16, v17, v18, v19, v20, v21, rfl, hI⟩ hall
    obtain ⟨b9, x9, y9, z9, rfl, hl9, ht9, h9⟩ := hI.s9 (hall 6 (by decide))
    obtain ⟨b10, x10, y10, z10, rfl, hl10, ht10, h10⟩ := hI.s10 (hall 7 (by decide))
    obtain ⟨g2, rfl, _, _⟩ := hI.s20 (hall 4 (by decide))
    have e9 := h9 (hall 8 (by decide))
    have e10 := h10 (hall 9 (by decide))
    unfold rowV8 at e9 e10
    simp at e9 e10
    obtain ⟨rfl, rfl, rfl⟩ := e9
    obtain ⟨rfl, rfl, rfl⟩ := e10
    have hbl := hI.bl
    obtain rfl := hI.s16 (hall 0 (by decide))
    obtain rfl := hI.s17 (hall 1 (by decide))
    obtain rfl := hI.s18 (hall 2 (by decide))
    obtain rfl := hI.s19 (hall 3 (by decide))
    obtain rfl := hI.s21 (hall 5 (by decide))
    have H9 := Lib.hid ht9
    have H10 := Lib.hid ht10
    have HW1 := Lib.hid ((Within.of_below (lo := B) (hi := B + 1) HB.out).trans (Within.of_below hbl))
    replace HPM := Lib.hid (HPM.out.heap (hbl.block B HPM.out.lt))
    have hB9 : B + 1 ≤ b9 := Nat.le_trans hBw1 hl9
    have hB10 : B + 1 ≤ b10 := Nat.le_trans hBw1 hl10
    clear hI hall ht9 ht10 h9 h10 hbl HT HI HR HC HRo HRs HSp HB hl9 hl10 h0 h1
    unfold hAct8 rowV8
    refine NoPanic.normal ?_
    go_wp2_with fail
    go_region_held3 (fun w' => w'.cell? ⟨b9, 0, none⟩ = some (.int .i64 (r.1 : Int)) ∧ w'.cell? ⟨b9, 1, none⟩ = some (.int .i64 (r.2.1 : Int)) ∧ w'.cell? ⟨b9, 2, none⟩ = some (.int .i64 (r.2.2 : Int)) ∧ w'.cell? ⟨b10, 0, none⟩ = some (.int .i64 (s.1 : Int)) ∧ w'.cell? ⟨b10, 1, none⟩ = some (.int .i64 (s.2.1 : Int)) ∧ w'.cell? ⟨b10, 2, none⟩ = some (.int .i64 (s.2.2 : Int)))
      (first
       | exact ⟨(H9.out.step (Below.refl _ W).drew).c0, (H9.out.step (Below.refl _ W).drew).c1, (H9.out.step (Below.refl _ W).drew).c2, (H10.out.step (Below.refl _ W).drew).c0, (H10.out.step (Below.refl _ W).drew).c1, (H10.out.step (Below.refl _ W).drew).c2⟩
       | exact ⟨(H9_1.out).c0, (H9_1.out).c1, (H9_1.out).c2, (H10_1.out).c0, (H10_1.out).c1, (H10_1.out).c2⟩
       | exact ⟨(H9_2.out).c0, (H9_2.out).c1, (H9_2.out).c2, (H10_2.out).c0, (H10_2.out).c1, (H10_2.out).c2⟩
       | exact ⟨(H9_3.out).c0, (H9_3.out).c1, (H9_3.out).c2, (H10_3.out).c0, (H10_3.out).c1, (H10_3.out).c2⟩
       | exact ⟨(H9_4.out).c0, (H9_4.out).c1, (H9_4.out).c2, (H10_4.out).c0, (H10_4.out).c1, (H10_4.out).c2⟩)
      (first
       | (go_at_call 60; (with_reducible refine (HPn.out v3 HPM_3.out).mono ?_); rintro e v4 ⟨rfl, hpm, hw⟩; have H9_4 := Lib.hid (H9_3.out.within hw (.inr hB9)); have H10_4 := Lib.hid (H10_3.out.within hw (.inr hB10)); have HPM_4 := Lib.hid hpm; have HW_4 := Lib.hid (HW_3.out.trans hw); clear hpm hw)
       | (go_at_call 90; (with_reducible refine (HN.out v2).mono ?_); rintro e v3 ⟨rfl, hb⟩; have H9_3 := Lib.hid (H9_2.out.step hb); have H10_3 := Lib.hid (H10_2.out.step hb); have HPM_3 := Lib.hid (HPM_2.out.heap (hb.block B HPM_2.out.lt)); have HW_3 := Lib.hid (HW_2.out.trans (Within.of_below hb)); clear hb)
       | (go_at_call 60; (with_reducible refine (HPy.out v1 HPM_1.out).mono ?_); rintro e v2 ⟨rfl, hpm, hw⟩; have H9_2 := Lib.hid (H9_1.out.within hw (.inr hB9)); have H10_2 := Lib.hid (H10_1.out.within hw (.inr hB10)); have HPM_2 := Lib.hid hpm; have HW_2 := Lib.hid (HW_1.out.trans hw); clear hpm hw)
       | (go_at_call 88; (with_reducible refine (HY.out W.drew).mono ?_); rintro e v1 ⟨rfl, hb⟩; have HZ1 := Lib.hid (below_trans (Below.refl _ W).drew hb); have H9_1 := Lib.hid (H9.out.step HZ1.out); have H10_1 := Lib.hid (H10.out.step HZ1.out); have HPM_1 := Lib.hid (HPM.out.heap (HZ1.out.block B HPM.out.lt)); have HW_1 := Lib.hid (HW1.out.trans (Within.of_below HZ1.out)); clear hb))
    all_goals
      clear H9 H10 HPM HW1 H9_1 H10_1 HPM_1 HW_1 H9_2 H10_2 HPM_2 HW_2 H9_3 H10_3 HPM_3 HW_3 HPy HPn HY HN
      go_wp2
      go_ret
      exact ⟨by first | rfl | (congr 2 <;> exact decide_eq_decide.2 (by omega)) | simp, HPM_4.out, HW_4.out⟩
end Go.Proofs.Ytdkffkgoalgjmab
namespace Go.Proofs.Ytdkffkgoalgjmab
open Go.RowKit Go.ChangeShapes Go.WideShapes Go.Maps
set_option linter.unusedVariables false

set_option maxRecDepth 100000 in
set_option maxHeartbeats 8000000 in
theorem countsOf_no8 (A : Option Addr) (c lo hi : Nat) (zs : List Int) (m : Int) (w : World) (hS : Ins w lo hi A zs) (hn : zs.length ≤ 1048576) (hst : isSt zs m = false) :
    Calls Try.prog 79 #[.agg #[.slice A zs.length c, .int .i64 m]] w fun e w' => ∃ B c', e = .returned (.tuple #[.slice B 0 c', .bool false]) ∧ Below w.heap.size w w' := by
  have HT := Lib.hid (Two.new w (.slice A zs.length c) (.int .i64 m) 36 (w.heap.size) rfl)
  have HB := Lib.hid ((Below.refl w.heap.size w).alloc (Nat.le_refl _) (.cells #[.slice A zs.length c, .int .i64 m] 36))
  have HI := Lib.hid (hS.step HB.out)
  have HC := Lib.hid (fun W h' => isState_impl A c lo hi zs m W h' hn)
  rw [hst] at HC
  clear hS hst
  go_enter Try.func79, Try.ntmps79
  go_wp2_with fail
  generalize w.alloc (.cells #[.slice A zs.length c, .int .i64 m] 36) = w0 at HT HB HI ⊢
  have h0 := HT.out.c0
  have h1 := HT.out.c1
  with_reducible refine (HC.out _ HI.out).mono ?_
  rintro e w1 ⟨rfl, hb⟩
  replace HT := Lib.hid (HT.out.step hb)
  replace HB := Lib.hid (below_trans HB.out hb)
  replace HI := Lib.hid (HI.out.step hb)
  replace h0 := HT.out.c0
  replace h1 := HT.out.c1
  clear hb
  clear h0 h1
  go_wp2
  go_ret2
  exact ⟨_, 0, rfl, HB.out.alloc HB.out.size _⟩
def canB (zs : List Int) (m : Int) : Bool := isSt zs m && decide ((opens zs).length ≤ 8)
set_option maxRecDepth 100000 in
set_option maxHeartbeats 8000000 in
theorem canHold_any (A : Option Addr) (c lo hi : Nat) (zs : List Int) (m : Int) (w : World) (hS : Ins w lo hi A zs) (hn : zs.length ≤ 1048576) :
    Calls Try.prog 99 #[.agg #[.slice A zs.length c, .int .i64 m]] w fun e w' => e = .returned (.bool (canB zs m)) ∧ Below w.heap.size w w' := by
  have HT := Lib.hid (Two.new w (.slice A zs.length c) (.int .i64 m) 36 (w.heap.size) rfl)
  have HB := Lib.hid ((Below.refl w.heap.size w).alloc (Nat.le_refl _) (.cells #[.slice A zs.length c, .int .i64 m] 36))
  have HI := Lib.hid (hS.step HB.out)
  unfold canB
  cases hst : isSt zs m with
  | false =>
    have HC := Lib.hid (fun W h => countsOf_no8 A c lo hi zs m W h hn hst)
    clear hS hst
    go_enter Try.func99, Try.ntmps99
    go_wp2_with fail
    generalize w.alloc (.cells #[.slice A zs.length c, .int .i64 m] 36) = w0 at HT HB HI ⊢
    have h0 := HT.out.c0
    have h1 := HT.out.c1
    with_reducible refine (HC.out _ HI.out).mono ?_
    rintro e w1 ⟨Bc, cc, rfl, hb⟩
    replace HT := Lib.hid (HT.out.step hb)
    replace HB := Lib.hid (below_trans HB.out hb)
    replace HI := Lib.hid (HI.out.step hb)
    replace h0 := HT.out.c0
    replace h1 := HT.out.c1
    clear hb
    clear h0 h1
    go_wp2
    go_ret
    exact ⟨rfl, HB.out⟩
  | true =>
    have hl := isSt_len hst
    obtain ⟨M, rfl⟩ : ∃ M : Nat, m = (M : Int) := ⟨m.toNat, by omega⟩
    have HC := Lib.hid (fun W h => countsOf_impl A c lo hi zs M W h hst)
    have HAr := Lib.hid (fun A1 c1 lo1 hi1 W h => areCounts_impl A1 c1 lo1 hi1 (cntTo zs (M + 1) zs.length) W h (by rw [cntTo_len]; omega))
    rw [cntTo_len, cs_ok8 hst] at HAr
    generalize decide ((opens zs).length ≤ 8) = d at HAr ⊢
    clear hS hst
    go_enter Try.func99, Try.ntmps99
    go_wp2_with fail
    generalize w.alloc (.cells #[.slice A zs.length c, .int .i64 (M : Int)] 36) = w0 at HT HB HI ⊢
    have h0 := HT.out.c0
    have h1 := HT.out.c1
    with_reducible refine (HC.out _ HI.out).mono ?_
    rintro e w1 ⟨g, rfl, hg, hrow, hb⟩
    replace HT := Lib.hid (HT.out.step hb)
    replace HB := Lib.hid (below_trans HB.out hb)
    replace HI := Lib.hid (HI.out.step hb)
    replace h0 := HT.out.c0
    replace h1 := HT.out.c1
    have HR := Lib.hid (row_ins8 hrow)
    clear hrow
    clear hb
    go_wp2_with fail
    with_reducible refine (HAr.out _ _ _ _ w1 HR.out).mono ?_
    rintro e wX ⟨rfl, hw⟩
    have hw := hw.symm
    subst hw
    clear h0 h1
    go_wp2
    go_ret
    exact ⟨by simp, HB.out⟩
theorem below_map8 {w w' : World} {B : Nat} (hB : w.heap.size ≤ B) (h : Below w.heap.size w w') {w'' : World} (hw : Within B (B + 1) w' w'') : Below w.heap.size w w'' := h.trans (hw.below hB h.size)
set_option maxRecDepth 100000 in
set_option maxHeartbeats 8000000 in
theorem holdAnswer_impl_no1 (A : Option Addr) (c lo hi : Nat) (zs : List Int) (m : Int) (q : Int) (w : World) (hS : Ins w lo hi A zs) (hn : zs.length ≤ 1048576) (hc : canB zs m = false) :
    Calls Try.prog 49 #[.agg #[.slice A zs.length c, .int .i64 m], .int .i64 q] w fun e w' => e = .returned (.tuple #[.bool false, .bool false]) ∧ Below w.heap.size w w' := by
  have HT := Lib.hid (Two.new w (.slice A zs.length c) (.int .i64 m) 36 (w.heap.size) rfl)
  have HB := Lib.hid ((Below.refl w.heap.size w).alloc (Nat.le_refl _) (.cells #[.slice A zs.length c, .int .i64 m] 36))
  have HI := Lib.hid (hS.step HB.out)
  have HC := Lib.hid (fun W h => canHold_any A c lo hi zs m W h hn)
  have HQ := Lib.hid (fun W => isQuestion_any (zs.length : Int) q W)
  rw [hc] at HC
  clear hS hc
  go_enter Try.func49, Try.ntmps49
  go_wp2_with fail
  generalize w.alloc (.cells #[.slice A zs.length c, .int .i64 m] 36) = w0 at HT HB HI ⊢
  have h0 := HT.out.c0
  have h1 := HT.out.c1
  with_reducible refine (HC.out _ HI.out).mono ?_
  rintro e w1 ⟨rfl, hb⟩
  replace HT := Lib.hid (HT.out.step hb)
  replace HB := Lib.hid (below_trans HB.out hb)
  replace HI := Lib.hid (HI.out.step hb)
  replace h0 := HT.out.c0
  replace h1 := HT.out.c1
  clear hb
  clear h0 h1
  go_wp2
  go_ret2
  exact ⟨rfl, HB.out⟩
set_option maxRecDepth 100000 in
set_option maxHeartbeats 8000000 in
theorem holdAnswer_impl_no2 (A : Option Addr) (c lo hi : Nat) (zs : List Int) (m : Int) (q : Int) (w : World) (hS : Ins w lo hi A zs) (hn : zs.length ≤ 1048576) (hc : canB zs m = true) (hq : qOK zs.length q = false) :
    Calls Try.prog 49 #[.agg #[.slice A zs.length c, .int .i64 m], .int .i64 q] w fun e w' => e = .returned (.tuple #[.bool false, .bool false]) ∧ Below w.heap.size w w' := by
  have HT := Lib.hid (Two.new w (.slice A zs.length c) (.int .i64 m) 36 (w.heap.size) rfl)
  have HB := Lib.hid ((Below.refl w.heap.size w).alloc (Nat.le_refl _) (.cells #[.slice A zs.length c, .int .i64 m] 36))
  have HI := Lib.hid (hS.step HB.out)
  have HC := Lib.hid (fun W h => canHold_any A c lo hi zs m W h hn)
  have HQ := Lib.hid (fun W => isQuestion_any (zs.length : Int) q W)
  rw [hc] at HC
  rw [hq] at HQ
  clear hS hc hq
  go_enter Try.func49, Try.ntmps49
  go_wp2_with fail
  generalize w.alloc (.cells #[.slice A zs.length c, .int .i64 m] 36) = w0 at HT HB HI ⊢
  have h0 := HT.out.c0
  have h1 := HT.out.c1
  with_reducible refine (HC.out _ HI.out).mono ?_
  rintro e w1 ⟨rfl, hb⟩
  replace HT := Lib.hid (HT.out.step hb)
  replace HB := Lib.hid (below_trans HB.out hb)
  replace HI := Lib.hid (HI.out.step hb)
  replace h0 := HT.out.c0
  replace h1 := HT.out.c1
  clear hb
  go_wp2_with fail
  with_reducible refine (HQ.out _).mono ?_
  rintro e wX ⟨rfl, hw⟩
  have hw := hw.symm
  subst hw
  clear h0 h1
  go_wp2
  go_ret2
  exact ⟨rfl, HB.out⟩
set_option maxRecDepth 100000 in
set_option maxHeartbeats 8000000 in
theorem holdAnswer_impl (A : Option Addr) (c lo hi : Nat) (zs : List Int) (M : Nat) (q : Int) (w : World) (hS : Ins w lo hi A zs) (hst : isSt zs (M : Int) = true) (h8 : (opens zs).length ≤ 8) (hq : qOK zs.length q = true) :
    Calls Try.prog 49 #[.agg #[.slice A zs.length c, .int .i64 (M : Int)], .int .i64 q] w fun e w' => e = .returned (.tuple #[.bool (holdB zs M q), .bool true]) ∧ Below w.heap.size w w' := by
  have HT := Lib.hid (Two.new w (.slice A zs.length c) (.int .i64 (M : Int)) 36 (w.heap.size) rfl)
  have HB := Lib.hid ((Below.refl w.heap.size w).alloc (Nat.le_refl _) (.cells #[.slice A zs.length c, .int .i64 (M : Int)] 36))
  have HI := Lib.hid (hS.step HB.out)
  have HC := Lib.hid (fun W h => canHold_any A c lo hi zs (M : Int) W h (by have := isSt_len hst; omega))
  have HQ := Lib.hid (fun W => isQuestion_any (zs.length : Int) q W)
  rw [show canB zs (M : Int) = true by unfold canB; rw [hst, decide_eq_true h8]; rfl] at HC
  rw [hq] at HQ
  obtain ⟨r, s, hr⟩ := rows_of q hst h8
  have HH := Lib.hid (fun B W h hp => holdsByYes_any A c lo hi zs M q r s B W h hst hr hp)
  clear hS hq hst h8 hr
  go_enter Try.func49, Try.ntmps49
  go_wp2_with fail
  generalize w.alloc (.cells #[.slice A zs.length c, .int .i64 (M : Int)] 36) = w0 at HT HB HI ⊢
  have h0 := HT.out.c0
  have h1 := HT.out.c1
  with_reducible refine (HC.out _ HI.out).mono ?_
  rintro e w1 ⟨rfl, hb⟩
  replace HT := Lib.hid (HT.out.step hb)
  replace HB := Lib.hid (below_trans HB.out hb)
  replace HI := Lib.hid (HI.out.step hb)
  replace h0 := HT.out.c0
  replace h1 := HT.out.c1
  clear hb
  go_wp2_with fail
  with_reducible refine (HQ.out _).mono ?_
  rintro e wX ⟨rfl, hw⟩
  have hw := hw.symm
  subst hw
  have hmk := makePlans
  have hba := (Below.refl w1.heap.size w1).alloc (Nat.le_refl _) (.map #[] 0)
  have HPM := Lib.hid (PlanM.made w1)
  have hsz := HB.out.size
  replace HT := Lib.hid (HT.out.step hba)
  replace HI := Lib.hid (HI.out.step hba)
  replace HB := Lib.hid (below_trans HB.out hba)
  replace h0 := HT.out.c0
  replace h1 := HT.out.c1
  clear hba
  go_wp2_with fail
  clear hmk
  generalize hwa : w1.alloc (.map #[] 0) = wa at HT HI HB HPM h0 h1 ⊢
  clear hwa
  generalize w1.heap.size = B at HPM hsz ⊢
  with_reducible refine (HH.out B wa HI.out HPM.out).mono ?_
  rintro e w2 ⟨rfl, hpm, hw⟩
  have HB2 := Lib.hid (below_map8 hsz HB.out hw)
  clear hpm hw h0 h1
  go_wp2
  go_ret2
  exact ⟨rfl, HB2.out⟩
theorem own_ins8' {w : World} {g : Nat} {l : List Int} (h : Own w g (g + 1) (some ⟨g, 0, none⟩) l) : Ins w g (g + 1) (some ⟨g, 0, none⟩) l := ⟨h.ints, own_lt h⟩
theorem Ins.drewN8 {w : World} {lo hi : Nat} {A : Option Addr} {zs : List Int} (h : Ins w lo hi A zs) (n : Nat) : Ins (w.drewN n) lo hi A zs := ⟨h.ints, h.top⟩
set_option maxRecDepth 100000 in
set_option maxHeartbeats 8000000 in
theorem l8Hold_any (A : Option Addr) (c lo hi : Nat) (zs : List Int) (M : Nat) (q : Int) (r s : Row) (g9 c9 : Nat) (w : World) (hS : Ins w lo hi A zs) (hst : isSt zs (M : Int) = true) (hr : RowsOf zs M q r s) (hN : Own w g9 (g9 + 1) (some ⟨g9, 0, none⟩) (foundL (M + 1) 10)) :
    Calls Try.prog 98 #[.agg #[.slice A zs.length c, .int .i64 (M : Int)], .int .i64 q, .slice (some ⟨g9, 0, none⟩) (9 ^ (M + 1)) c9] w fun e w' => e = .returned (.bool (holdB zs M q)) ∧ Below w.heap.size w w' := by
  have HT := Lib.hid (Two.new w (.slice A zs.length c) (.int .i64 (M : Int)) 36 (w.heap.size) rfl)
  have HB := Lib.hid ((Below.refl w.heap.size w).alloc (Nat.le_refl _) (.cells #[.slice A zs.length c, .int .i64 (M : Int)] 36))
  have HI := Lib.hid (hS.step HB.out)
  have HN := Lib.hid (own_same hN (HB.out.block g9 (own_lt hN)))
  have HAf := Lib.hid (fun y W h => l2After_any A c lo hi zs (M : Int) q y W h hst)
  have HCt := Lib.hid (fun y g c' W h => l2Counts_any (some ⟨g, 0, none⟩) c' g (g + 1) (afters zs (M : Int) q y) M W h (afters_isSt q y hst))
  simp only [afters_len] at HCt
  have hcy := hr.behind hst true
  have hcn := hr.behind hst false
  have hl := isSt_len hst
  have HKy := Lib.hid (fun g W h => l4Key_any (some ⟨g, 0, none⟩) (M + 1) g (g + 1) (M + 1) (yesR r s) W h (hr.wide true) (Nat.le_trans (behind_sum hr.fit true) hr.h8))
  have HKn := Lib.hid (fun g W h => l4Key_any (some ⟨g, 0, none⟩) (M + 1) g (g + 1) (M + 1) (noR r s) W h (hr.wide false) (Nat.le_trans (behind_sum hr.fit false) hr.h8))
  have hkly : keyR (yesR r s) < 9 ^ (M + 1) := key_lt (hr.wide true) (Nat.le_trans (behind_sum hr.fit true) hr.h8)
  have hkln : keyR (noR r s) < 9 ^ (M + 1) := key_lt (hr.wide false) (Nat.le_trans (behind_sum hr.fit false) hr.h8)
  have hfy : foundAt 10 (keyR (yesR r s)) = ((needR (yesR r s) : Nat) : Int) := found_all (Nat.le_trans (behind_sum hr.fit true) hr.h8)
  have hfn : foundAt 10 (keyR (noR r s)) = ((needR (noR r s) : Nat) : Int) := found_all (Nat.le_trans (behind_sum hr.fit false) hr.h8)
  have hgy : (foundL (M + 1) 10).getD (keyR (yesR r s)) 0 = ((needR (yesR r s) : Nat) : Int) := by rw [← hfy]; simp [foundL, List.getD, hkly]
  have hgn : (foundL (M + 1) 10).getD (keyR (noR r s)) 0 = ((needR (noR r s) : Nat) : Int) := by rw [← hfn]; simp [foundL, List.getD, hkln]
  have hlen : (foundL (M + 1) 10).length = 9 ^ (M + 1) := foundL_len _ _
  rw [hr.hold hst]
  have HCy := Lib.hid (fun g c' W h => HCt.out true g c' W h)
  have HCn := Lib.hid (fun g c' W h => HCt.out false g c' W h)
  rw [hcy, if_pos rfl] at HCy
  rw [hcn, if_neg (by decide)] at HCn
  clear hS hN hfy hfn HCt hcy hcn hst hr
  generalize hky : keyR (yesR r s) = ky at HKy hkly hgy
  generalize hkn : keyR (noR r s) = kn at HKn hkln hgn
  have HE1 := Lib.hid hlen
  clear hky hkn hlen
  have hkyI : (ky : Int) < ((9 ^ (M + 1) : Nat) : Int) := by omega
  have hknI : (kn : Int) < ((9 ^ (M + 1) : Nat) : Int) := by omega
  go_enter Try.func98, Try.ntmps98
  go_wp2_with fail
  generalize w.alloc (.cells #[.slice A zs.length c, .int .i64 (M : Int)] 36) = w0 at HT HB HI HN ⊢
  go_wp2_with fail
  go_region_held3 (fun w' => w'.cell? ⟨w.heap.size, 0, none⟩ = some (.slice A zs.length c) ∧ w'.cell? ⟨w.heap.size, 1, none⟩ = some (.int .i64 (M : Int)))
    (first
     | exact ⟨(HT.out.step (Below.refl _ w0).drew).c0, (HT.out.step (Below.refl _ w0).drew).c1⟩
     | exact ⟨(HT_1.out).c0, (HT_1.out).c1⟩
     | exact ⟨(HT_2.out).c0, (HT_2.out).c1⟩
     | exact ⟨(HT_3.out).c0, (HT_3.out).c1⟩
     | exact ⟨(HT_4.out).c0, (HT_4.out).c1⟩)
    (first
     | (go_at_call 78; (with_reducible refine (HCn.out g3 c3 v3 HO3.out).mono ?_); rintro e v4 ⟨g4, rfl, hg4, hr4, hb⟩; have HZ4 := Lib.hid (below_trans HZ3.out hb); have HT_4 := Lib.hid (HT.out.step HZ4.out); have HB_4 := Lib.hid (below_trans HB.out HZ4.out); have HI_4 := Lib.hid (HI.out.step HZ4.out); have HN_4 := Lib.hid (own_same HN.out (HZ4.out.block g9 (own_lt HN.out))); have HR5 := Lib.hid (row_ins8 hr4); have HR4 := Lib.hid (HR3.out.step hb); clear hr4; clear hb)
     | (go_at_call 102; (with_reducible refine (HAf.out false v2 HI_2.out).mono ?_); rintro e v3 ⟨g3, c3, rfl, hg3, ho3, hb⟩; have HZ3 := Lib.hid (below_trans HZ2.out hb); have HT_3 := Lib.hid (HT.out.step HZ3.out); have HB_3 := Lib.hid (below_trans HB.out HZ3.out); have HI_3 := Lib.hid (HI.out.step HZ3.out); have HN_3 := Lib.hid (own_same HN.out (HZ3.out.block g9 (own_lt HN.out))); have HO3 := Lib.hid (own_ins8' ho3); have HR3 := Lib.hid (HR2.out.step hb); clear ho3; clear hb)
     | (go_at_call 78; (with_reducible refine (HCy.out g1 c1 v1 HO1.out).mono ?_); rintro e v2 ⟨g2, rfl, hg2, hr2, hb⟩; have HZ2 := Lib.hid (below_trans HZ1.out hb); have HT_2 := Lib.hid (HT.out.step HZ2.out); have HB_2 := Lib.hid (below_trans HB.out HZ2.out); have HI_2 := Lib.hid (HI.out.step HZ2.out); have HN_2 := Lib.hid (own_same HN.out (HZ2.out.block g9 (own_lt HN.out))); have HR2 := Lib.hid (row_ins8 hr2); clear hr2; clear hb)
     | (go_at_call 102; (with_reducible refine (HAf.out true w0.drew (HI.out.step (Below.refl _ w0).drew)).mono ?_); rintro e v1 ⟨g1, c1, rfl, hg1, ho1, hb⟩; have HZ1 := Lib.hid (below_trans (Below.refl _ w0).drew hb); have HT_1 := Lib.hid (HT.out.step HZ1.out); have HB_1 := Lib.hid (below_trans HB.out HZ1.out); have HI_1 := Lib.hid (HI.out.step HZ1.out); have HN_1 := Lib.hid (own_same HN.out (HZ1.out.block g9 (own_lt HN.out))); have HO1 := Lib.hid (own_ins8' ho1); clear ho1; clear hb))
  all_goals
    clear HT HI HB HN HT_1 HI_1 HB_1 HN_1 HT_2 HI_2 HB_2 HN_2 HT_3 HI_3 HB_3 HN_3 HR2 HR3 HO1 HO3 HAf HCy HCn
    have hcy := own_cell HN_4.out (k := ky) (by rw [HE1.out]; exact hkly)
    have hcn := own_cell HN_4.out (k := kn) (by rw [HE1.out]; exact hkln)
    rw [hgy] at hcy
    rw [hgn] at hcn
    go_wp2_with fail
    go_quiet (first | (go_at_call 59; with_reducible refine Calls.quiet_of_same (HKy.out g2 _ (HR4.out.drewN8 _))) | (go_at_call 59; with_reducible refine Calls.quiet_of_same (HKn.out g4 _ (HR5.out.drewN8 _))))
    go_wp2
    go_ret
    exact ⟨by first | rfl | (congr 2 <;> exact decide_eq_decide.2 (by omega)) | simp, below_drewN HB_4.out _⟩
set_option maxRecDepth 100000 in
set_option maxHeartbeats 8000000 in
theorem holdAnswer_spec_no1 (A : Option Addr) (c lo hi : Nat) (zs : List Int) (m : Int) (q : Int) (w : World) (hS : Ins w lo hi A zs) (hn : zs.length ≤ 1048576) (hst : isSt zs m = false) :
    Calls Try.prog 48 #[.agg #[.slice A zs.length c, .int .i64 m], .int .i64 q] w fun e w' => e = .returned (.tuple #[.bool false, .bool false]) ∧ Below w.heap.size w w' := by
  have HT := Lib.hid (Two.new w (.slice A zs.length c) (.int .i64 m) 36 (w.heap.size) rfl)
  have HB := Lib.hid ((Below.refl w.heap.size w).alloc (Nat.le_refl _) (.cells #[.slice A zs.length c, .int .i64 m] 36))
  have HI := Lib.hid (hS.step HB.out)
  have HC := Lib.hid (fun W h => l2State_any A c lo hi zs m W h hn)
  have HQ := Lib.hid (fun W => l2Question_any A zs.length c m q W)
  rw [hst] at HC
  clear hS hst
  go_enter Try.func48, Try.ntmps48
  go_wp2_with fail
  generalize w.alloc (.cells #[.slice A zs.length c, .int .i64 m] 36) = w0 at HT HB HI ⊢
  have h0 := HT.out.c0
  have h1 := HT.out.c1
  with_reducible refine (HC.out _ HI.out).mono ?_
  rintro e w1 ⟨rfl, hb⟩
  replace HT := Lib.hid (HT.out.step hb)
  replace HB := Lib.hid (below_trans HB.out hb)
  replace HI := Lib.hid (HI.out.step hb)
  replace h0 := HT.out.c0
  replace h1 := HT.out.c1
  clear hb
  clear h0 h1
  go_wp2
  go_ret2
  exact ⟨rfl, HB.out⟩
set_option maxRecDepth 100000 in
set_option maxHeartbeats 8000000 in
theorem holdAnswer_spec_no2 (A : Option Addr) (c lo hi : Nat) (zs : List Int) (m : Int) (q : Int) (w : World) (hS : Ins w lo hi A zs) (hn : zs.length ≤ 1048576) (hst : isSt zs m = true) (hq : qOK zs.length q = false) :
    Calls Try.prog 48 #[.agg #[.slice A zs.length c, .int .i64 m], .int .i64 q] w fun e w' => e = .returned (.tuple #[.bool false, .bool false]) ∧ Below w.heap.size w w' := by
  have HT := Lib.hid (Two.new w (.slice A zs.length c) (.int .i64 m) 36 (w.heap.size) rfl)
  have HB := Lib.hid ((Below.refl w.heap.size w).alloc (Nat.le_refl _) (.cells #[.slice A zs.length c, .int .i64 m] 36))
  have HI := Lib.hid (hS.step HB.out)
  have HC := Lib.hid (fun W h => l2State_any A c lo hi zs m W h hn)
  have HQ := Lib.hid (fun W => l2Question_any A zs.length c m q W)
  have hl := isSt_len hst
  have HO := Lib.hid (fun W h => l2Open_any A c lo hi zs m W h hl.2.1)
  rw [hst] at HC
  rw [hq] at HQ
  clear hS hst hq HO
  go_enter Try.func48, Try.ntmps48
  go_wp2_with fail
  generalize w.alloc (.cells #[.slice A zs.length c, .int .i64 m] 36) = w0 at HT HB HI ⊢
  have h0 := HT.out.c0
  have h1 := HT.out.c1
  with_reducible refine (HC.out _ HI.out).mono ?_
  rintro e w1 ⟨rfl, hb⟩
  replace HT := Lib.hid (HT.out.step hb)
  replace HB := Lib.hid (below_trans HB.out hb)
  replace HI := Lib.hid (HI.out.step hb)
  replace h0 := HT.out.c0
  replace h1 := HT.out.c1
  clear hb
  go_wp2_with fail
  with_reducible refine (HQ.out w1).mono ?_
  rintro e w2 ⟨rfl, hb⟩
  replace HT := Lib.hid (HT.out.step hb)
  replace HB := Lib.hid (below_trans HB.out hb)
  replace HI := Lib.hid (HI.out.step hb)
  replace h0 := HT.out.c0
  replace h1 := HT.out.c1
  clear hb
  clear h0 h1
  go_wp2
  go_ret2
  exact ⟨rfl, HB.out⟩
set_option maxRecDepth 100000 in
set_option maxHeartbeats 8000000 in
theorem holdAnswer_spec_no3 (A : Option Addr) (c lo hi : Nat) (zs : List Int) (m : Int) (q : Int) (w : World) (hS : Ins w lo hi A zs) (hn : zs.length ≤ 1048576) (hst : isSt zs m = true) (hq : qOK zs.length q = true) (h8 : ¬ (opens zs).length ≤ 8) :
    Calls Try.prog 48 #[.agg #[.slice A zs.length c, .int .i64 m], .int .i64 q] w fun e w' => e = .returned (.tuple #[.bool false, .bool false]) ∧ Below w.heap.size w w' := by
  have HT := Lib.hid (Two.new w (.slice A zs.length c) (.int .i64 m) 36 (w.heap.size) rfl)
  have HB := Lib.hid ((Below.refl w.heap.size w).alloc (Nat.le_refl _) (.cells #[.slice A zs.length c, .int .i64 m] 36))
  have HI := Lib.hid (hS.step HB.out)
  have HC := Lib.hid (fun W h => l2State_any A c lo hi zs m W h hn)
  have HQ := Lib.hid (fun W => l2Question_any A zs.length c m q W)
  have hl := isSt_len hst
  have HO := Lib.hid (fun W h => l2Open_any A c lo hi zs m W h hl.2.1)
  rw [hst] at HC
  rw [hq] at HQ
  have hoI : ¬ ((opens zs).length : Int) ≤ 8 := by omega
  have hoJ : (8 : Int) < ((opens zs).length : Int) := by omega
  clear hS hst hq h8
  generalize opens zs = oz at HO hoI hoJ
  go_enter Try.func48, Try.ntmps48
  go_wp2_with fail
  generalize w.alloc (.cells #[.slice A zs.length c, .int .i64 m] 36) = w0 at HT HB HI ⊢
  have h0 := HT.out.c0
  have h1 := HT.out.c1
  with_reducible refine (HC.out _ HI.out).mono ?_
  rintro e w1 ⟨rfl, hb⟩
  replace HT := Lib.hid (HT.out.step hb)
  replace HB := Lib.hid (below_trans HB.out hb)
  replace HI := Lib.hid (HI.out.step hb)
  replace h0 := HT.out.c0
  replace h1 := HT.out.c1
  clear hb
  go_wp2_with fail
  with_reducible refine (HQ.out w1).mono ?_
  rintro e w2 ⟨rfl, hb⟩
  replace HT := Lib.hid (HT.out.step hb)
  replace HB := Lib.hid (below_trans HB.out hb)
  replace HI := Lib.hid (HI.out.step hb)
  replace h0 := HT.out.c0
  replace h1 := HT.out.c1
  clear hb
  go_wp2_with fail
  with_reducible refine (HO.out w2 HI.out).mono ?_
  rintro e w3 ⟨v, rfl, ho, hb⟩
  replace HT := Lib.hid (HT.out.step hb)
  replace HB := Lib.hid (below_trans HB.out hb)
  replace HI := Lib.hid (HI.out.step hb)
  replace h0 := HT.out.c0
  replace h1 := HT.out.c1
  obtain ⟨Ao, co, rfl, _, _⟩ := own_res ho rfl
  clear ho
  clear hb
  clear h0 h1
  go_wp2
  go_ret2
  exact ⟨rfl, HB.out⟩
set_option maxRecDepth 100000 in
set_option maxHeartbeats 8000000 in
theorem holdAnswer_spec (A : Option Addr) (c lo hi : Nat) (zs : List Int) (M : Nat) (q : Int) (w : World) (hS : Ins w lo hi A zs) (hst : isSt zs (M : Int) = true) (h8 : (opens zs).length ≤ 8) (hq : qOK zs.length q = true) :
    Calls Try.prog 48 #[.agg #[.slice A zs.length c, .int .i64 (M : Int)], .int .i64 q] w fun e w' => e = .returned (.tuple #[.bool (holdB zs M q), .bool true]) ∧ Below w.heap.size w w' := by
  have HT := Lib.hid (Two.new w (.slice A zs.length c) (.int .i64 (M : Int)) 36 (w.heap.size) rfl)
  have HB := Lib.hid ((Below.refl w.heap.size w).alloc (Nat.le_refl _) (.cells #[.slice A zs.length c, .int .i64 (M : Int)] 36))
  have HI := Lib.hid (hS.step HB.out)
  have HC := Lib.hid (fun W h => l2State_any A c lo hi zs (M : Int) W h (by have := isSt_len hst; omega))
  have HQ := Lib.hid (fun W => l2Question_any A zs.length c (M : Int) q W)
  have hl := isSt_len hst
  have HO := Lib.hid (fun W h => l2Open_any A c lo hi zs (M : Int) W h hl.2.1)
  rw [hst] at HC
  rw [hq] at HQ
  have hoI : ((opens zs).length : Int) ≤ 8 := by omega
  have hoJ : ¬ (8 : Int) < ((opens zs).length : Int) := by omega
  obtain ⟨r, s, hr⟩ := rows_of q hst h8
  have hM1 : 1 ≤ M + 1 ∧ M + 1 ≤ 3 := by omega
  have HNs := Lib.hid (fun W => l4Needs_any (M + 1) W hM1)
  rw [show (((M + 1 : Nat)) : Int) = (M : Int) + 1 by omega] at HNs
  have hwr : IntKind.i64.wrap ((M : Int) + 1) = (M : Int) + 1 := IntWalk.i64_in _ (by omega)
  have HNs2 := HNs
  rw [← hwr] at HNs2
  have hwr2 := Lib.hid hwr
  have HH := Lib.hid (fun g9 c9 W h hN => l8Hold_any A c lo hi zs M q r s g9 c9 W h hst hr hN)
  clear hS hq hst h8 hr
  generalize opens zs = oz at HO hoI hoJ
  go_enter Try.func48, Try.ntmps48
  go_wp2_with fail
  generalize w.alloc (.cells #[.slice A zs.length c, .int .i64 (M : Int)] 36) = w0 at HT HB HI ⊢
  have h0 := HT.out.c0
  have h1 := HT.out.c1
  with_reducible refine (HC.out _ HI.out).mono ?_
  rintro e w1 ⟨rfl, hb⟩
  replace HT := Lib.hid (HT.out.step hb)
  replace HB := Lib.hid (below_trans HB.out hb)
  replace HI := Lib.hid (HI.out.step hb)
  replace h0 := HT.out.c0
  replace h1 := HT.out.c1
  clear hb
  go_wp2_with fail
  with_reducible refine (HQ.out w1).mono ?_
  rintro e w2 ⟨rfl, hb⟩
  replace HT := Lib.hid (HT.out.step hb)
  replace HB := Lib.hid (below_trans HB.out hb)
  replace HI := Lib.hid (HI.out.step hb)
  replace h0 := HT.out.c0
  replace h1 := HT.out.c1
  clear hb
  go_wp2_with fail
  with_reducible refine (HO.out w2 HI.out).mono ?_
  rintro e w3 ⟨v, rfl, ho, hb⟩
  replace HT := Lib.hid (HT.out.step hb)
  replace HB := Lib.hid (below_trans HB.out hb)
  replace HI := Lib.hid (HI.out.step hb)
  replace h0 := HT.out.c0
  replace h1 := HT.out.c1
  obtain ⟨Ao, co, rfl, _, _⟩ := own_res ho rfl
  clear ho
  clear hb
  clear h0 h1
  go_wp2_with fail
  go_region_held3 (fun w' => w'.cell? ⟨w.heap.size, 0, none⟩ = some (.slice A zs.length c) ∧ w'.cell? ⟨w.heap.size, 1, none⟩ = some (.int .i64 (M : Int)))
    (first
     | exact ⟨(HT.out.step (Below.refl _ w3).drew).c0, (HT.out.step (Below.refl _ w3).drew).c1⟩
     | exact ⟨(HT_1.out).c0, (HT_1.out).c1⟩
     | exact ⟨(HT_2.out).c0, (HT_2.out).c1⟩)
    (first
     | (go_at_call 98; (with_reducible refine (HH.out g9 c9 v1 HI_1.out HO9.out).mono ?_); rintro e v2 ⟨rfl, hb⟩; have HZ2 := Lib.hid (below_trans HZ1.out hb); have HT_2 := Lib.hid (HT.out.step HZ2.out); have HB_2 := Lib.hid (below_trans HB.out HZ2.out); have HI_2 := Lib.hid (HI.out.step HZ2.out); clear hb)
     | (go_at_call 58; (first | with_reducible refine (HNs.out w3.drew).mono ?_ | with_reducible refine (HNs2.out w3.drew).mono ?_); rintro e v1 ⟨g9, c9, rfl, hg9, ho9, hb⟩; have HZ1 := Lib.hid (below_trans (Below.refl _ w3).drew hb); have HT_1 := Lib.hid (HT.out.step HZ1.out); have HB_1 := Lib.hid (below_trans HB.out HZ1.out); have HI_1 := Lib.hid (HI.out.step HZ1.out); have HO9 := Lib.hid ho9; clear ho9; clear hb))
  all_goals
    go_wp2
    go_ret2
    exact ⟨rfl, HB_2.out⟩
theorem holdAnswer_both (zs : List Int) (m : Int) (h : zs.length ≤ 1048576) (q : Int) : ∃ (r0 : Bool) (r1 : Bool),
    (∀ (w : World) (B : Option Addr) (c lo hi : Nat), Ins w lo hi B zs → Calls Try.prog 49 #[.agg #[.slice B zs.length c, .int .i64 m], .int .i64 q] w fun e w' => e = .returned (.tuple #[.bool r0, .bool r1]) ∧ Below w.heap.size w w') ∧
    (∀ (w : World) (B : Option Addr) (c lo hi : Nat), Ins w lo hi B zs → Calls Try.prog 48 #[.agg #[.slice B zs.length c, .int .i64 m], .int .i64 q] w fun e w' => e = .returned (.tuple #[.bool r0, .bool r1]) ∧ Below w.heap.size w w') := by
  cases hst : isSt zs m with
  | false =>
    have hc : canB zs m = false := by unfold canB; rw [hst]; rfl
    exact ⟨false, false, fun w B c lo hi hS => holdAnswer_impl_no1 B c lo hi zs m q w hS h hc, fun w B c lo hi hS => holdAnswer_spec_no1 B c lo hi zs m q w hS h hst⟩
  | true =>
    by_cases h8 : (opens zs).length ≤ 8
    · have hc : canB zs m = true := by unfold canB; rw [hst, decide_eq_true h8]; rfl
      cases hq : qOK zs.length q with
      | false => exact ⟨false, false, fun w B c lo hi hS => holdAnswer_impl_no2 B c lo hi zs m q w hS h hc hq, fun w B c lo hi hS => holdAnswer_spec_no2 B c lo hi zs m q w hS h hst hq⟩
      | true =>
        have hl := isSt_len hst
        obtain ⟨M, rfl⟩ : ∃ M : Nat, m = (M : Int) := ⟨m.toNat, by omega⟩
        exact ⟨holdB zs M q, true, fun w B c lo hi hS => holdAnswer_impl B c lo hi zs M q w hS hst h8 hq, fun w B c lo hi hS => holdAnswer_spec B c lo hi zs M q w hS hst h8 hq⟩
    · have hc : canB zs m = false := by unfold canB; rw [decide_eq_false h8, Bool.and_false]
      cases hq : qOK zs.length q with
      | false => exact ⟨false, false, fun w B c lo hi hS => holdAnswer_impl_no1 B c lo hi zs m q w hS h hc, fun w B c lo hi hS => holdAnswer_spec_no2 B c lo hi zs m q w hS h hst hq⟩
      | true => exact ⟨false, false, fun w B c lo hi hS => holdAnswer_impl_no1 B c lo hi zs m q w hS h hc, fun w B c lo hi hS => holdAnswer_spec_no3 B c lo hi zs m q w hS h hst hq h8⟩
end Go.Proofs.Ytdkffkgoalgjmab
namespace Go.Proofs.Ytdkffkgoalgjmab
open Go.RowKit
set_option linter.unusedVariables false

set_option maxHeartbeats 4000000 in
theorem fnExactHoldAnswer_walk (As : Option Addr) (cs : Nat) (s : List Int) (ms : Int) (q : Int) (W : World) (hSs : Ints W 0 W.heap.size As s) (hcs : s.length ≤ cs) (hcms : cs ≤ maxLen) (wms : (Lit.int .i64 ms).wf = true) (wfq : (Lit.int .i64 q).wf = true) (hsh : W.ShapedOpen Try.prog) :
    Calls Try.prog 13 #[.agg #[.slice As s.length cs, .int .i64 ms], .int .i64 q] W fun e w' => e = .returned (.bool true) ∧ Below W.heap.size W w' := by
  clear hsh
  unfold maxLen at hcms
  have C0 := Lib.hid (fun w => szState_any As cs s.length ms 1048576 w (by unfold maxLen; omega) (by omega))
  rw [show (((1048576 : Nat) : Int)) = 1048576 from rfl] at C0
  by_cases hs : s.length ≤ 1048576
  · rw [szI_yes hs] at C0
    have hz : (0 : Int) ≤ ((1048576 - s.length : Nat) : Int) := by omega
    generalize ((1048576 - s.length : Nat) : Int) = z at C0 hz
    obtain ⟨r0, r1, hI, hC⟩ := holdAnswer_both s ms hs q
    have CI := Lib.hid hI
    have CS := Lib.hid hC
    clear hI hC
    have HIs := Lib.hid (Ins.mk hSs (Nat.le_refl _))
    have HB := Lib.hid (Below.refl W.heap.size W)
    have HXs := Lib.hid (Arg.next HB.out (.slice As s.length cs) (.int .i64 ms) 33 (W.heap.size) rfl)
    replace HB := Lib.hid (HXs.out.below)
    replace HIs := Lib.hid (HIs.out.step HB.out)
    clear hSs hcs
    have ZB := Lib.hid HB.out.size
    have ZXs : Hid (W.heap.size < (W.alloc (.cells #[.slice As s.length cs, .int .i64 ms] 33)).heap.size) := HXs.out.hi
    go_enter Try.func13, Try.ntmps13
    go_wp2_with fail
    generalize (W.alloc (.cells #[.slice As s.length cs, .int .i64 ms] 33)) = w0 at HIs ZB HB HXs ZXs⊢
    have h0s := HXs.out.c0
    have h1s := HXs.out.c1
    go_wp2_with fail
    refine (C0.out _).mono ?_
    rintro e w1 ⟨rfl, hb⟩
    have Z0 := Lib.hid hb.size
    replace HIs := Lib.hid (HIs.out.step hb)
    replace HXs := Lib.hid (HXs.out.step hb)
    replace HB := Lib.hid (below_trans HB.out hb)
    replace h0s := HXs.out.c0
    replace h1s := HXs.out.c1
    clear hb
    clear C0
    go_wp2_with fail
    refine (toState_any As cs 0 W.heap.size s ms _ HIs.out hs).mono ?_
    rintro e w2 ⟨Bsw, rfl, hr, hb⟩
    have Z1 := Lib.hid hb.size
    replace HIs := Lib.hid (HIs.out.step hb)
    replace HXs := Lib.hid (HXs.out.step hb)
    replace HB := Lib.hid (below_trans HB.out hb)
    replace h0s := HXs.out.c0
    replace h1s := HXs.out.c1
    clear hb
    have RBsw := Lib.hid hr
    clear hr
    go_wp2_with fail
    refine (CS.out _ Bsw _ _ _ RBsw.out.ins).mono ?_
    rintro e w3 ⟨rfl, hb⟩
    have Z2 := Lib.hid hb.size
    replace HIs := Lib.hid (HIs.out.step hb)
    replace RBsw := Lib.hid (RBsw.out.step hb)
    replace HXs := Lib.hid (HXs.out.step hb)
    replace HB := Lib.hid (below_trans HB.out hb)
    replace h0s := HXs.out.c0
    replace h1s := HXs.out.c1
    clear hb
    clear RBsw
    go_wp2_with fail
    refine (toState_any As cs 0 W.heap.size s ms _ HIs.out hs).mono ?_
    rintro e w4 ⟨Bsx, rfl, hr, hb⟩
    have Z3 := Lib.hid hb.size
    replace HIs := Lib.hid (HIs.out.step hb)
    replace HXs := Lib.hid (HXs.out.step hb)
    replace HB := Lib.hid (below_trans HB.out hb)
    replace h0s := HXs.out.c0
    replace h1s := HXs.out.c1
    clear hb
    have RBsx := Lib.hid hr
    clear hr
    have hb : Below w4.heap.size w4 (w4.alloc (.cells #[.slice Bsx s.length s.length, .int .i64 ms] 36)) := (Below.refl _ _).alloc (Nat.le_refl _) _
    have g0s := (HXs.out.step hb).c0
    have g1s := (HXs.out.step hb).c1
    go_wp2_with fail
    clear g0s g1s
    have HXBsx := Lib.hid (Arg.next HB.out (.slice Bsx s.length s.length) (.int .i64 ms) 36 w4.heap.size rfl)
    have ZXBsx : Hid (w4.heap.size < (w4.alloc (.cells #[.slice Bsx s.length s.length, .int .i64 ms] 36)).heap.size) := HXBsx.out.hi
    have Z4 := Lib.hid hb.size
    replace HIs := Lib.hid (HIs.out.step hb)
    replace RBsx := Lib.hid (RBsx.out.step hb)
    replace HXs := Lib.hid (HXs.out.step hb)
    replace HB := Lib.hid (below_trans HB.out hb)
    clear hb
    clear h0s h1s
    generalize (w4.alloc (.cells #[.slice Bsx s.length s.length, .int .i64 ms] 36)) = w5 at HB ZXBsx Z4 HIs RBsx HXs HXBsx ⊢
    have h0s := HXs.out.c0
    have h1s := HXs.out.c1
    have h0Bsx := HXBsx.out.c0
    have h1Bsx := HXBsx.out.c1
    go_wp2_with fail
    refine (CI.out _ Bsx _ _ _ RBsx.out.ins).mono ?_
    rintro e w6 ⟨rfl, hb⟩
    have Z5 := Lib.hid hb.size
    replace HIs := Lib.hid (HIs.out.step hb)
    replace RBsx := Lib.hid (RBsx.out.step hb)
    replace HXs := Lib.hid (HXs.out.step hb)
    replace HXBsx := Lib.hid (HXBsx.out.step hb)
    replace HB := Lib.hid (below_trans HB.out hb)
    replace h0s := HXs.out.c0
    replace h1s := HXs.out.c1
    replace h0Bsx := HXBsx.out.c0
    replace h1Bsx := HXBsx.out.c1
    clear hb
    go_wp2_with fail
    go_region_with (first
      | (go_at_call 29; refine (toState_any As cs 0 W.heap.size s ms _ (HIs.out.step ((Below.refl _ _).drew)) hs).mono ?_; rintro e w7 ⟨Bsy, rfl, hr, hb0⟩; have hb : Below w6.heap.size w6 w7 := below_trans ((Below.refl _ _).drew) hb0; have Z6 := Lib.hid hb.size; replace HIs := Lib.hid (HIs.out.step hb); replace RBsx := Lib.hid (RBsx.out.step hb); replace HXs := Lib.hid (HXs.out.step hb); replace HXBsx := Lib.hid (HXBsx.out.step hb); replace HB := Lib.hid (below_trans HB.out hb); replace h0s := HXs.out.c0; replace h1s := HXs.out.c1; replace h0Bsx := HXBsx.out.c0; replace h1Bsx := HXBsx.out.c1; have RBsy := Lib.hid hr; clear hb hb0 hr)
      | (go_at_call 31; refine (eqState_same Bsx Bsy s.length s.length _ _ _ _ s ms _ RBsx.out.ins RBsy.out.ins hs).mono ?_; rintro e w8 ⟨rfl, hb⟩; have Z7 := Lib.hid hb.size; replace HIs := Lib.hid (HIs.out.step hb); replace RBsx := Lib.hid (RBsx.out.step hb); replace RBsy := Lib.hid (RBsy.out.step hb); replace HXs := Lib.hid (HXs.out.step hb); replace HXBsx := Lib.hid (HXBsx.out.step hb); replace HB := Lib.hid (below_trans HB.out hb); replace h0s := HXs.out.c0; replace h1s := HXs.out.c1; replace h0Bsx := HXBsx.out.c0; replace h1Bsx := HXBsx.out.c1; clear hb RBsy))
    all_goals
      go_wp2
      go_ret
      exact ⟨rfl, HB.out⟩
  · rw [szI_no (by omega)] at C0
    go_enter Try.func13, Try.ntmps13
    go_wp2_with fail
    refine (C0.out _).mono ?_
    rintro e w1 ⟨rfl, hb⟩
    have hb0 : Below W.heap.size W (W.alloc (.cells #[.slice As s.length cs, .int .i64 ms] 33)) := (Below.alloc (Below.refl _ _) (Nat.le_refl _) _)
    have HB := Lib.hid (below_trans hb0 hb)
    clear hb0
    clear hb C0
    go_wp2
    go_ret
    exact ⟨rfl, HB.out⟩
end Go.Proofs.Ytdkffkgoalgjmab
