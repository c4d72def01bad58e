/- The law FnExactMoreThanSets: its walk over the two functions' contracts. -/
import Derived.Test.YtdkffkgoalgjmabSplits
import Derived.Test.YtdkffkgoalgjmabYesNo
import Derived.Test.YtdkffkgoalgjmabTold
import Derived.Test.YtdkffkgoalgjmabRow5
import Derived.Test.YtdkffkgoalgjmabL6m
import Derived.Deep.LoopGhost
namespace Go.Proofs.Ytdkffkgoalgjmab
open Go.RowKit Go.ChangeShapes Go.WideShapes
set_option linter.unusedVariables false

/-- The needs that are found behind so many rounds, by key. -/
def foundL (p rd : Nat) : List Int := (List.range (9 ^ p)).map fun k => foundAt rd k
theorem foundL_len (p rd : Nat) : (foundL p rd).length = 9 ^ p := by simp [foundL]
theorem foundL_at {p rd k : Nat} (h : k < (foundL p rd).length) : (foundL p rd)[k] = foundAt rd k := by simp [foundL]
theorem pow9 {p : Nat} (hp : 1 ≤ p ∧ p ≤ 3) : 9 ≤ 9 ^ p ∧ 9 ^ p ≤ 729 := by
  obtain rfl | rfl | rfl : p = 1 ∨ p = 2 ∨ p = 3 := by omega
  all_goals decide
theorem found_key {rd : Nat} {r : Row} (h8 : rsum r ≤ 8) : foundAt rd (keyR r) = if needR r < rd then ((needR r : Nat) : Int) else -1 := by
  unfold foundAt
  rw [rowK_key h8]
  simp [h8]
theorem found_pos {rd : Nat} {r : Row} (h8 : rsum r ≤ 8) : 0 ≤ foundAt rd (keyR r) ↔ needR r < rd := by
  rw [found_key h8]
  split
  · constructor
    · intro _; assumption
    · intro _; omega
  · constructor
    · intro h; omega
    · intro h; contradiction
theorem cnt_le {r : Row} (h8 : rsum r ≤ 8) : cntR r ≤ 48 := by
  have h := spl_ok (p := 3) (r := r) (.inr (.inr rfl)) h8
  have h2 := h.2 3 (Nat.le_refl _)
  rw [h.1, splAll_len] at h2
  exact h2

set_option maxRecDepth 100000 in
set_option maxHeartbeats 8000000 in
theorem l4Within_any (A : Option Addr) (c lo hi_ : Nat) (A2 : Option Addr) (c2 lo2 hi2 : Nat) (p rd : Nat) (r : Row) (w : World) (hS : Ins w lo hi_ A (lstR p r)) (hS2 : Ins w lo2 hi2 A2 (foundL p rd)) (hw : Wide p r) (h8 : rsum r ≤ 8) (h1 : 1 < rsum r) (hrd : 1 ≤ rd) :
    Calls Try.prog 107 #[.slice A p c, .slice A2 (9 ^ p) c2] w fun e w' => e = .returned (.bool (decide (needR r ≤ rd))) ∧ Below w.heap.size w w' := by
  have hp := hw.le
  have hp9 := pow9 hp
  have hcnt := cnt_le h8
  have HS := Lib.hid hS
  have HS2 := Lib.hid hS2
  have htop := hS.top
  have htop2 := hS2.top
  have HC := Lib.hid (fun W h => l4Splits_any A c lo hi_ p r W h hw h8)
  have HY := Lib.hid (fun i (hi : i < cntR r) B cB loB hiB W h h2 => l4Yes_any A c lo hi_ B cB loB hiB p r (splitR r i) W h h2 hw h8 (split_fits h8 hi))
  have HN := Lib.hid (fun i (hi : i < cntR r) B cB loB hiB W h h2 => l4No_any A c lo hi_ B cB loB hiB p r (splitR r i) W h h2 hw h8 (split_fits h8 hi))
  have HYK := Lib.hid (fun i (hi : i < cntR r) B cB loB hiB W h => l4Key_any B cB loB hiB p (yesR r (splitR r i)) W h (yes_wide hw (split_fits h8 hi)).1 (yes_sum h8 (split_fits h8 hi)).1)
  have HNK := Lib.hid (fun i (hi : i < cntR r) B cB loB hiB W h => l4Key_any B cB loB hiB p (noR r (splitR r i)) W h (yes_wide hw (split_fits h8 hi)).2 (yes_sum h8 (split_fits h8 hi)).2)
  have HYP := Lib.hid (fun i (hi : i < cntR r) => And.intro (found_pos (rd := rd) (yes_sum h8 (split_fits h8 hi)).1) (key_lt (yes_wide hw (split_fits h8 hi)).1 (yes_sum h8 (split_fits h8 hi)).1))
  have HNP := Lib.hid (fun i (hi : i < cntR r) => And.intro (found_pos (rd := rd) (yes_sum h8 (split_fits h8 hi)).2) (key_lt (yes_wide hw (split_fits h8 hi)).2 (yes_sum h8 (split_fits h8 hi)).2))
  have HW := Lib.hid (within_iff h8 h1 hrd)
  have HAL := Lib.hid (splAll_len p r)
  have HFL := Lib.hid (foundL_len p rd)
  have HLW := Lib.hid (fun i (hi : i < cntR r) => And.intro (lst_len hp (yesR r (splitR r i))) (lst_len hp (noR r (splitR r i))))
  have HLS := Lib.hid (fun i => lst_len hp (splitR r i))
  clear hS hS2 hw
  go_enter Try.func107, Try.ntmps107
  go_wp2_with fail
  refine (HC.out w HS.out).mono ?_
  rintro e w1 ⟨v1, rfl, hrows, hb⟩
  have HB1 := Lib.hid hb
  obtain ⟨Ao, co, rfl⟩ := hrows.slice
  have HR := Lib.hid hrows
  rw [HAL.out]
  clear hb hrows HC
  go_wp2_with fail
  go_loopw [6] (fun i wr => ∃ (x : Nat), x ≤ cntR r ∧ i = .int .i64 x ∧ Hid (∀ j, j < x → ¬ (needR (yesR r (splitR r j)) < rd ∧ needR (noR r (splitR r j)) < rd)) ∧ Hid (Below w1.heap.size w1 wr)) (fun i _ => cntR r - (intOf i).toNat)
  case atStart => exact ⟨0, Nat.zero_le _, rfl, Lib.hid (fun j h => absurd h (by omega)), Lib.hid (Below.refl _ _)⟩
  case round =>
    obtain ⟨x, hx, rfl, HF, HB⟩ := hrel
    rename World => w2
    have HB2 := Lib.hid (below_trans HB1.out HB.out)
    have hs2 := HB2.out.size
    by_cases hlt : x < cntR r
    · have HRx := HR.out.past (Past.of_below HB.out)
      obtain ⟨gb, cap, ge, ce, hve, hcell, hge, hOw⟩ := HRx.at_ (i := x) (by rw [HAL.out]; exact hlt)
      injection hve with hA hl hcap
      subst hA hcap
      rw [splAll_at, HLS.out] at hcell
      rw [splAll_at] at hOw
      clear hl
      have HOw := Lib.hid (Ins.mk hOw.ints (own_lt hOw))
      have HS_ := Lib.hid (HS.out.step HB2.out)
      have HS2_ := Lib.hid (HS2.out.step HB2.out)
      have hYP := HYP.out x hlt
      have hNP := HNP.out x hlt
      have HYx := Lib.hid (HY.out x hlt)
      have HNx := Lib.hid (HN.out x hlt)
      have HYKx := Lib.hid (HYK.out x hlt)
      have HNKx := Lib.hid (HNK.out x hlt)
      have HL1 := Lib.hid (HLW.out x hlt).1
      have HL2 := Lib.hid (HLW.out x hlt).2
      have HF2 : Hid (¬ (needR (yesR r (splitR r x)) < rd ∧ needR (noR r (splitR r x)) < rd) → ∀ j, j < x + 1 → ¬ (needR (yesR r (splitR r j)) < rd ∧ needR (noR r (splitR r j)) < rd)) := Lib.hid (fun h j hj => by
        by_cases e : j = x
        · subst e; exact h
        · exact HF.out j (by omega))
      have HWx : Hid (needR (yesR r (splitR r x)) < rd ∧ needR (noR r (splitR r x)) < rd → decide (needR r ≤ rd) = true) := Lib.hid (fun h => decide_eq_true (HW.out.1 ⟨x, hlt, h.1, h.2⟩))
      generalize hyk : keyR (yesR r (splitR r x)) = ky at hYP HYKx
      generalize hnk : keyR (noR r (splitR r x)) = kn at hNP HNKx
      generalize yesR r (splitR r x) = Y at HYx HYKx HL1 HF2 HWx hYP
      generalize noR r (splitR r x) = N at HNx HNKx HL2 HF2 HWx hNP
      generalize needR Y = ny at HF2 HWx hYP
      generalize needR N = nn at HF2 HWx hNP
      clear hyk hnk HRx hOw HF HY HN HYK HNK HYP HNP
      go_wp2_with fail
      refine (HYx.out (some ⟨ge, 0, none⟩) ce ge (ge + 1) w2 HS_.out HOw.out).mono ?_
      rintro e w3 ⟨g3, c3, rfl, hg3, ho3, hb3⟩
      have HO3 := Lib.hid (Ins.mk ho3.ints (own_lt ho3))
      have HB3 := Lib.hid hb3
      have HS3 := Lib.hid (HS_.out.step hb3)
      have HS23 := Lib.hid (HS2_.out.step hb3)
      have HOw3 := Lib.hid (HOw.out.step hb3)
      obtain ⟨b2, o2, hA2, _, hbb, hc2⟩ := HS23.out.ints.at_ (k := ky) (by rw [HFL.out]; exact hYP.2)
      subst hA2
      rw [foundL_at] at hc2
      obtain ⟨b2', o2', hA2', _, hbb', hc2'⟩ := HS23.out.ints.at_ (k := kn) (by rw [HFL.out]; exact hNP.2)
      injection hA2' with hA2'
      injection hA2' with e1 e2
      subst e1 e2
      rw [foundL_at] at hc2'
      have HCb := Lib.hid hc2'
      have hcell3 := (hb3.cell (p := ⟨gb, x, none⟩) (by
        have := hcell
        simp only [World.cell?] at this
        rcases Nat.lt_or_ge gb w2.heap.size with h1 | h1
        · exact h1
        · simp [Array.getElem?_eq_none h1] at this)).trans hcell
      clear ho3 hb3 HYx hc2'
      generalize foundAt rd ky = fy at hc2 hYP
      generalize foundAt rd kn = fn at HCb hNP
      go_wp2_with fail
      refine (HYKx.out (some ⟨g3, 0, none⟩) c3 g3 (g3 + 1) w3 HO3.out).mono ?_
      rintro e w4 ⟨rfl, rfl⟩
      have hkyI : (ky : Int) < ((9 ^ p : Nat) : Int) := by have := hYP.2; omega
      have hknI : (kn : Int) < ((9 ^ p : Nat) : Int) := by have := hNP.2; omega
      by_cases hfy : 0 ≤ fy
      · have hny := hYP.1.1 hfy
        go_wp2_with fail
        refine (HNx.out (some ⟨ge, 0, none⟩) ce ge (ge + 1) w4 HS3.out HOw3.out).mono ?_
        rintro e w5 ⟨g5, c5, rfl, hg5, ho5, hb5⟩
        have HO5 := Lib.hid (Ins.mk ho5.ints (own_lt ho5))
        have hc5 := (hb5.cell (p := ⟨b2, o2 + kn, none⟩) (by have := HS23.out.top; show b2 < _; omega)).trans HCb.out
        have HB5 := Lib.hid (below_trans HB3.out hb5)
        clear ho5 hb5 HNx
        go_wp2_with fail
        refine (HNKx.out (some ⟨g5, 0, none⟩) c5 g5 (g5 + 1) w5 HO5.out).mono ?_
        rintro e w6 ⟨rfl, rfl⟩
        by_cases hfn : 0 ≤ fn
        · have E := Lib.hid (HWx.out ⟨hny, hNP.1.1 hfn⟩)
          go_wp2
          go_ret
          exact ⟨by rw [E.out]; rfl, below_trans HB2.out HB5.out⟩
        · have HF3 := Lib.hid (HF2.out (fun h => hfn (hNP.1.2 h.2)))
          go_wp2
          go_roundw
          case rel => exact ⟨x + 1, by omega, by go_num, HF3, Lib.hid (below_trans HB.out HB5.out)⟩
          case measure => simp [intOf]; omega
      · have HF3 := Lib.hid (HF2.out (fun h => hfy (hYP.1.2 h.1)))
        go_wp2
        go_roundw
        case rel => exact ⟨x + 1, by omega, by go_num, HF3, Lib.hid (below_trans HB.out HB3.out)⟩
        case measure => simp [intOf]; omega
    · obtain rfl : x = cntR r := by omega
      have E : Hid (decide (needR r ≤ rd) = false) := Lib.hid (decide_eq_false (fun h => by
        obtain ⟨i, hi, h2⟩ := HW.out.2 h
        exact HF.out i hi h2))
      go_wp2
      go_ret
      exact ⟨by rw [E.out]; rfl, HB2.out⟩
end Go.Proofs.Ytdkffkgoalgjmab
namespace Go.Proofs.Ytdkffkgoalgjmab
open Go.RowKit Go.ChangeShapes Go.WideShapes
set_option linter.unusedVariables false

def fndT (top rd : Nat) : List Int := (List.range top).map fun k => foundAt rd k
theorem fndT_len (top rd : Nat) : (fndT top rd).length = top := by simp [fndT]
/-- The first k keys of the first round. -/
def n1To (top k : Nat) : List Int := (List.range top).map fun j => if j < k then foundAt 1 j else 0
theorem n1To_len (top k : Nat) : (n1To top k).length = top := by simp [n1To]
theorem n1To_zero (top : Nat) : n1To top 0 = List.replicate top 0 := by
  apply List.ext_getElem
  · simp [n1To]
  · intro j h1 h2; simp [n1To]
theorem n1To_all (top : Nat) : n1To top top = fndT top 1 := by
  apply List.ext_getElem
  · simp [n1To, fndT]
  · intro j h1 h2
    have : j < top := by simpa [n1To] using h1
    simp [n1To, fndT, this]
theorem n1To_set (top k : Nat) : (n1To top k).set k (foundAt 1 k) = n1To top (k + 1) := by
  apply List.ext_getElem
  · simp [n1To]
  · intro j h1 h2
    rw [List.getElem_set]
    by_cases h : k = j
    · subst h; simp [n1To]
    · rw [if_neg h]
      simp only [n1To, List.getElem_map, List.getElem_range]
      by_cases h3 : j < k
      · rw [if_pos h3, if_pos (by omega)]
      · rw [if_neg h3, if_neg (by omega)]
theorem found_one (k : Nat) : foundAt 1 k = if rsum (rowK k) ≤ 1 then 0 else -1 := by
  unfold foundAt
  by_cases h : rsum (rowK k) ≤ 1
  · rw [if_pos h, if_pos ⟨by omega, by rw [need_told h]; omega⟩, need_told h]; rfl
  · rw [if_neg h, if_neg]
    rintro ⟨h8, h2⟩
    have := need_pos (r := rowK k) (by omega) h8
    omega
theorem left_told {k : Nat} (h : rsum (rowK k) ≤ 1) : leftK 1 (k + 1) = leftK 1 k := by
  show leftK 1 k ++ _ = _
  rw [if_neg (by rw [need_told h]; omega), List.append_nil]
theorem left_no {k : Nat} (h : ¬ rsum (rowK k) ≤ 8) : leftK 1 (k + 1) = leftK 1 k := by
  show leftK 1 k ++ _ = _
  rw [if_neg (fun q => h q.1), List.append_nil]
theorem left_yes {k : Nat} (h : ¬ rsum (rowK k) ≤ 1) (h8 : rsum (rowK k) ≤ 8) : leftK 1 (k + 1) = leftK 1 k ++ [(k : Int)] := by
  show leftK 1 k ++ _ = _
  rw [if_pos ⟨h8, need_pos (by omega) h8⟩]
theorem mem_left {rd : Nat} : ∀ {top j : Nat}, (j : Int) ∈ leftK rd top ↔ j < top ∧ rsum (rowK j) ≤ 8 ∧ rd ≤ needR (rowK j)
  | 0, j => by simp [leftK]
  | t + 1, j => by
    unfold leftK
    rw [List.mem_append, mem_left]
    by_cases h : rsum (rowK t) ≤ 8 ∧ rd ≤ needR (rowK t)
    · rw [if_pos h]
      simp only [List.mem_singleton]
      constructor
      · rintro (⟨h1, h2⟩ | e)
        · exact ⟨by omega, h2⟩
        · have e : j = t := by omega
          subst e
          exact ⟨by omega, h⟩
      · rintro ⟨h1, h2⟩
        by_cases e : j = t
        · exact .inr (by omega)
        · exact .inl ⟨by omega, h2⟩
    · rw [if_neg h]
      simp only [List.not_mem_nil, or_false]
      constructor
      · rintro ⟨h1, h2⟩; exact ⟨by omega, h2⟩
      · rintro ⟨h1, h2⟩
        refine ⟨?_, h2⟩
        by_cases e : j = t
        · subst e; exact absurd h2 h
        · omega
def isF (rd : Nat) (x : Int) : Bool := decide (needR (rowK x.toNat) ≤ rd)
def fTo (rd top i : Nat) : List Int := ((leftK rd top).take i).filter (isF rd)
def mTo (rd top i : Nat) : List Int := ((leftK rd top).take i).filter (fun x => !isF rd x)
theorem fTo_yes {rd top i : Nat} (hi : i < (leftK rd top).length) (h : isF rd (leftK rd top)[i] = true) : fTo rd top (i + 1) = fTo rd top i ++ [(leftK rd top)[i]] ∧ mTo rd top (i + 1) = mTo rd top i := by
  unfold fTo mTo
  rw [List.take_succ_eq_append_getElem hi, List.filter_append, List.filter_append]
  simp [h]
theorem fTo_no {rd top i : Nat} (hi : i < (leftK rd top).length) (h : isF rd (leftK rd top)[i] = false) : fTo rd top (i + 1) = fTo rd top i ∧ mTo rd top (i + 1) = mTo rd top i ++ [(leftK rd top)[i]] := by
  unfold fTo mTo
  rw [List.take_succ_eq_append_getElem hi, List.filter_append, List.filter_append]
  simp [h]
theorem fTo_len (rd top i : Nat) : (fTo rd top i).length ≤ top ∧ (mTo rd top i).length ≤ top := by
  have h1 := left_len rd top
  have h2 := List.length_filter_le (isF rd) ((leftK rd top).take i)
  have h3 := List.length_filter_le (fun x => !isF rd x) ((leftK rd top).take i)
  have h4 : ((leftK rd top).take i).length ≤ (leftK rd top).length := by rw [List.length_take]; omega
  unfold fTo mTo
  omega
theorem mTo_all (rd top : Nat) : mTo rd top (leftK rd top).length = leftK (rd + 1) top := by
  unfold mTo
  rw [List.take_length, ← left_filter]
  apply List.filter_congr
  intro x _
  unfold isF
  rw [Bool.eq_iff_iff]
  simp
/-- The needs while those that are found are being told: the first i are. -/
def sTo (rd top i : Nat) : List Int := (List.range top).map fun (j : Nat) => if (j : Int) ∈ (fTo rd top (leftK rd top).length).take i then ((rd : Nat) : Int) else foundAt rd j
theorem sTo_len (rd top i : Nat) : (sTo rd top i).length = top := by simp [sTo]
theorem sTo_zero (rd top : Nat) : sTo rd top 0 = fndT top rd := by simp [sTo, fndT]
theorem f_mem {rd top : Nat} {x : Int} (h : x ∈ fTo rd top (leftK rd top).length) : ∃ k : Nat, x = (k : Int) ∧ k < top ∧ rsum (rowK k) ≤ 8 ∧ needR (rowK k) = rd := by
  unfold fTo at h
  rw [List.take_length, List.mem_filter] at h
  obtain ⟨k, rfl, h1, h2, h3⟩ := left_mem h.1
  refine ⟨k, rfl, h1, h2, ?_⟩
  have := h.2
  simp only [isF, Int.toNat_natCast, decide_eq_true_eq] at this
  omega
theorem sTo_set {rd top i k : Nat} (hi : i < (fTo rd top (leftK rd top).length).length) (hk : (fTo rd top (leftK rd top).length)[i] = (k : Int)) : (sTo rd top i).set k ((rd : Nat) : Int) = sTo rd top (i + 1) := by
  apply List.ext_getElem
  · simp [sTo]
  · intro j h1 h2
    rw [List.getElem_set]
    simp only [sTo, List.getElem_map, List.getElem_range]
    rw [List.take_succ_eq_append_getElem hi, hk]
    by_cases h : k = j
    · subst h; simp
    · rw [if_neg h]
      have : ¬ ((j : Int) = (k : Int)) := by omega
      simp [this]
theorem sTo_all {rd top : Nat} : sTo rd top (fTo rd top (leftK rd top).length).length = fndT top (rd + 1) := by
  apply List.ext_getElem
  · simp [sTo, fndT]
  · intro j h1 h2
    have hj : j < top := by simpa [sTo] using h1
    simp only [sTo, fndT, List.getElem_map, List.getElem_range, List.take_length]
    by_cases h : (j : Int) ∈ fTo rd top (leftK rd top).length
    · rw [if_pos h]
      obtain ⟨k, e, _, h8, hn⟩ := f_mem h
      have e : j = k := by omega
      subst e
      unfold foundAt
      rw [if_pos ⟨h8, by omega⟩, hn]
    · rw [if_neg h]
      unfold foundAt
      by_cases h3 : rsum (rowK j) ≤ 8 ∧ needR (rowK j) < rd
      · rw [if_pos h3, if_pos ⟨h3.1, by omega⟩]
      · rw [if_neg h3, if_neg]
        rintro ⟨h8, hn⟩
        refine h ?_
        unfold fTo
        rw [List.take_length, List.mem_filter, mem_left]
        refine ⟨⟨hj, h8, by omega⟩, ?_⟩
        simp only [isF, Int.toNat_natCast, decide_eq_true_eq]
        omega
theorem comp_key {k : Nat} (hk : k < 729) (i : Nat) : compR (rowK k) i ≤ 8 := by
  match i with
  | 0 => simp only [compR, rowK]; omega
  | 1 => simp only [compR, rowK]; omega
  | _ + 2 => simp only [compR, rowK]; omega
end Go.Proofs.Ytdkffkgoalgjmab
namespace Go.Proofs.Ytdkffkgoalgjmab
open Go.RowKit Go.ChangeShapes Go.WideShapes
set_option linter.unusedVariables false

theorem ownsRow_within {w w' : World} {B n lo hi : Nat} {v : Value} {e : TypeId} {xs : List Value} (h : w.ownsRow B e 1 v n xs) (hw : Within lo hi w w') (hB : hi ≤ B) : w'.ownsRow B e 1 v n xs :=
  ⟨h.1, h.2.imp id fun ⟨g, cap, cur, a, b, hg, r⟩ => ⟨g, cap, cur, a, b, (hw.block g (row_ltI hg) (.inr (by omega))).trans hg, r⟩⟩
theorem ownsRow_slice {w : World} {B n : Nat} {v : Value} {e : TypeId} {xs : List Value} (h : w.ownsRow B e 1 v n xs) : ∃ A c, v = .slice A n c := by
  rcases h.2 with ⟨rfl, h0⟩ | ⟨g, cap, cur, rfl, _⟩
  · exact ⟨none, 0, by rw [h0]⟩
  · exact ⟨_, cap, rfl⟩
theorem ownsRow_at {w : World} {B n k : Nat} {v : Value} {zs : List Int} (h : w.ownsRow B 3 1 v n (zs.map (Value.int .i64))) (hk : k < zs.length) : ∃ g cap, v = .slice (some ⟨g, 0, none⟩) n cap ∧ B ≤ g ∧ w.cell? ⟨g, k, none⟩ = some (.int .i64 zs[k]) := by
  have hn : n = zs.length := by have := h.1; simp at this; omega
  obtain ⟨g, c, hv, hb, ho⟩ := own_rowS (zs := zs) h hn (by omega)
  have := own_cell ho hk
  rw [show zs.getD k 0 = zs[k] by simp [List.getD, hk]] at this
  exact ⟨g, c, by rw [hv, hn], hb, this⟩
/-- The blocks of two rows are apart, and there. -/
structure Apart (w : World) (v v' : Value) : Prop where
  ne : v.ownBlock ≠ v'.ownBlock
  l : ∀ q, v.ownBlock = some q → q < w.heap.size
  r : ∀ q, v'.ownBlock = some q → q < w.heap.size
theorem Apart.size {w w' : World} {v v' : Value} (h : Apart w v v') (hs : w.heap.size ≤ w'.heap.size) : Apart w' v v' := ⟨h.ne, fun q e => Nat.lt_of_lt_of_le (h.l q e) hs, fun q e => Nat.lt_of_lt_of_le (h.r q e) hs⟩
theorem ownsRow_other {w w' : World} {B n : Nat} {v : Value} {e : TypeId} {xs : List Value} {q : Option Nat} (h : w.ownsRow B e 1 v n xs) (hg : w.grownBy w' q) (hne : v.ownBlock ≠ q) : w'.ownsRow B e 1 v n xs :=
  ⟨h.1, h.2.imp id fun ⟨g, cap, cur, a, b, hr, r⟩ => ⟨g, cap, cur, a, b, (hg.block g (row_ltI hr) (fun e => hne (by rw [a]; exact e))).trans hr, r⟩⟩

theorem ownsRow_cell {w : World} {B n g c k : Nat} {zs : List Int} (h : w.ownsRow B 3 1 (.slice (some ⟨g, 0, none⟩) n c) n (zs.map (Value.int .i64))) (hk : k < zs.length) : w.cell? ⟨g, k, none⟩ = some (.int .i64 zs[k]) := by
  obtain ⟨g', c', e, _, hc⟩ := ownsRow_at h hk
  injection e with e
  injection e with e
  injection e with e _
  subst e
  exact hc
theorem apart_next {w w' : World} {v v' : Value} {g n c H : Nat} (h : Apart w v v') (hb : v.ownBlock = some g ∨ g = H) (hH : w.heap.size = H) (hg : g < w'.heap.size) (hs : w.heap.size ≤ w'.heap.size) : Apart w' (.slice (some ⟨g, 0, none⟩) n c) v' :=
  ⟨fun e => by
    rcases hb with hb | hb
    · exact h.ne (hb.trans e)
    · have := h.r g e.symm
      omega, fun q e => by
    have e : g = q := by injection e
    omega, fun q e => Nat.lt_of_lt_of_le (h.r q e) hs⟩
theorem Apart.symm {w : World} {v v' : Value} (h : Apart w v v') : Apart w v' v := ⟨fun e => h.ne e.symm, h.r, h.l⟩
theorem fnd_done {rd top : Nat} (h : leftK rd top = []) (hr : rd ≤ 10) : fndT top rd = fndT top 10 := by
  apply List.ext_getElem
  · simp [fndT]
  · intro j h1 h2
    have hj : j < top := by simpa [fndT] using h1
    simp only [fndT, List.getElem_map, List.getElem_range]
    unfold foundAt
    by_cases h8 : rsum (rowK j) ≤ 8
    · have hn : needR (rowK j) < rd := by
        rcases Nat.lt_or_ge (needR (rowK j)) rd with h3 | h3
        · exact h3
        · have : (j : Int) ∈ leftK rd top := mem_left.2 ⟨hj, h8, h3⟩
          rw [h] at this; cases this
      rw [if_pos ⟨h8, hn⟩, if_pos ⟨h8, by omega⟩]
    · rw [if_neg (fun q => h8 q.1), if_neg (fun q => h8 q.1)]

set_option maxRecDepth 100000 in
set_option maxHeartbeats 16000000 in
theorem l4Needs_any (p : Nat) (w : World) (hp : 1 ≤ p ∧ p ≤ 3) :
    Calls Try.prog 58 #[.int .i64 (p : Int)] w fun e w' => ∃ g c, e = .returned (.slice (some ⟨g, 0, none⟩) (9 ^ p) c) ∧ w.heap.size ≤ g ∧ Own w' g (g + 1) (some ⟨g, 0, none⟩) (foundL p 10) ∧ Below w.heap.size w w' := by
  obtain ⟨i0, hi0, hz0, hz1, hz2⟩ := info_parts infoI3
  have hp9 := pow9 hp
  go_enter Try.func58, Try.ntmps58
  go_wp2_with fail
  go_loopw [3, 4] (fun s i wr => ∃ (k x : Nat), k ≤ p ∧ i = .int .i64 k ∧ s = .int .i64 (x : Int) ∧ Hid (x = 9 ^ k) ∧ x ≤ 729 ∧ wr = w) (fun _ i _ => p - (intOf i).toNat)
  case atStart => exact ⟨0, 1, Nat.zero_le _, rfl, rfl, rfl, by omega, by first | trivial | rfl⟩
  case round =>
    obtain ⟨k, x, hk, rfl, rfl, HX, hx, hwr⟩ := hrel
    have hwr := hwr.symm
    subst hwr
    by_cases hlt : k < p
    · have HX2 : Hid (x * 9 = 9 ^ (k + 1)) := Lib.hid (by rw [HX.out, Nat.pow_succ])
      have hx2 : x * 9 ≤ 729 := by
        rw [HX2.out]
        exact Nat.le_trans (Nat.pow_le_pow_right (by omega) (show k + 1 ≤ 3 by omega)) (by decide)
      go_wp2
      go_roundw
      case rel => exact ⟨k + 1, x * 9, by omega, by go_num, by simp, HX2, hx2, by first | trivial | rfl⟩
      case measure => simp [intOf]; omega
    · obtain rfl : k = p := by omega
      have hkp := hp
      have hx9 : 9 ≤ x ∧ x ≤ 729 := by rw [← HX.out] at hp9; exact hp9
      have HFR : Hid (∀ rd, fndT x rd = foundL k rd) := Lib.hid (fun rd => by rw [HX.out]; rfl)
      have hmk := fun W => makeInts x (by omega) W
      simp only [List.toArray_replicate] at hmk
      have HO0 : Hid (Own (w.alloc (.cells (Array.replicate x (Value.int .i64 0)) 3)) w.heap.size (w.heap.size + 1) (some ⟨w.heap.size, 0, none⟩) (n1To x 0)) := Lib.hid (by
        rw [n1To_zero]
        have := Own.new w (List.replicate x 0) w.heap.size (w.heap.size + 1) (Nat.le_refl _) (Nat.lt_succ_self _)
        simpa using this)
      have B1 := (Below.refl w.heap.size w).alloc (Nat.le_refl _) (.cells (Array.replicate x (Value.int .i64 0)) 3)
      have HB0 := Lib.hid (B1.alloc B1.size (.cells #[] 3))
      have HO1 := Lib.hid (own_same HO0.out (((Below.refl _ (w.alloc (.cells (Array.replicate x (Value.int .i64 0)) 3))).alloc (Nat.le_refl _) (.cells #[] 3)).block _ (own_lt HO0.out)))
      have HL0 : Hid (((w.alloc (.cells (Array.replicate x (Value.int .i64 0)) 3)).alloc (.cells #[] 3)).ownsRow (w.heap.size + 1) 3 1 (.slice (some ⟨w.heap.size + 1, 0, none⟩) 0 0) (leftK 1 0).length ((leftK 1 0).map (Value.int .i64))) := Lib.hid (by
        have := O0_any (w.alloc (.cells (Array.replicate x (Value.int .i64 0)) 3)) (w.heap.size + 1) (by simp)
        simpa [leftK] using this)
      clear B1 HO0 hp9
      go_wp2_with fail
      clear hmk
      generalize (w.alloc (.cells (Array.replicate x (Value.int .i64 0)) 3)).alloc (.cells #[] 3) = wb at HB0 HO1 HL0 ⊢
      generalize (Value.slice (some ⟨w.heap.size + 1, 0, none⟩) 0 0) = v0 at HL0 ⊢
      go_loopw [6, 7] (fun v i wr => ∃ (t : Nat), t ≤ x ∧ i = .int .i64 t ∧ Hid (Own wr w.heap.size (w.heap.size + 1) (some ⟨w.heap.size, 0, none⟩) (n1To x t)) ∧ Hid (wr.ownsRow (w.heap.size + 1) 3 1 v (leftK 1 t).length ((leftK 1 t).map (Value.int .i64))) ∧ Hid (Below w.heap.size w wr)) (fun _ i _ => x - (intOf i).toNat)
      case atStart => exact ⟨0, Nat.zero_le _, rfl, HO1, HL0, HB0⟩
      case round =>
        clear HO1 HL0 HB0
        obtain ⟨t, ht, rfl, HO, HLf, HB⟩ := hrel
        rename World => w1
        by_cases htl : t < x
        · have hll := left_len 1 t
          have hc0 := own_cell HO.out (k := t) (by rw [n1To_len]; exact htl)
          have hf0 := own_free HO.out t
          have HOa := Lib.hid (own_set HO.out (k := t) (by rw [n1To_len]; exact htl) (-1))
          have HWa := Lib.hid (within_set (Within.refl w.heap.size (w.heap.size + 1) w1) (Nat.le_refl _) (Nat.lt_succ_self _) t (.int .i64 (-1)))
          have HLa := Lib.hid (ownsRow_within HLf.out HWa.out (Nat.le_refl _))
          have HBa := Lib.hid (HB.out.trans (HWa.out.below (Nat.le_refl _) HB.out.size))
          have HC := Lib.hid (fun W => l4Counted_any k t W hkp (by omega))
          have HTd := Lib.hid (fun B cB lo hi W h => l4Told_any B cB lo hi k (rowK t) W h (key_wide hkp (by rw [← HX.out]; exact htl)) (comp_key (by omega)))
          have HCn := Lib.hid (fun B cB lo hi W h => l4Counts_any B cB lo hi (lstR k (rowK t)) W h (by have := lst_short k (rowK t); omega))
          have HLN := Lib.hid (lst_len hkp (rowK t))
          have HCK := Lib.hid (cOK_iff_row (r := rowK t) (key_wide hkp (by rw [← HX.out]; exact htl)))
          rw [HLN.out] at HCn
          have HSt := Lib.hid (n1To_set x t)
          have HF1 := Lib.hid (found_one t)
          generalize (n1To x t).getD t 0 = z0 at hc0
          clear HO HLf HB
          go_wp2_with fail
          generalize w1.setCell ⟨w.heap.size, t, none⟩ (.int .i64 (-1)) = w2 at HOa HWa HLa HBa ⊢
          refine (HC.out w2).mono ?_
          rintro e w3 ⟨g3, rfl, hg3, ho3, hb3⟩
          have HO3 := Lib.hid (Ins.mk ho3.ints (own_lt ho3))
          have hlt2 := own_lt HOa.out
          have HOb := Lib.hid (own_same HOa.out (hb3.block _ hlt2))
          have HLb := Lib.hid (ownsRow_past HLa.out (Past.of_below hb3))
          have HBb := Lib.hid (below_trans HBa.out hb3)
          clear ho3 hb3 HC HOa HLa HWa HBa hc0 hf0
          go_wp2_with fail
          refine (HTd.out (some ⟨g3, 0, none⟩) k g3 (g3 + 1) w3 HO3.out).mono ?_
          rintro e w4 ⟨rfl, rfl⟩
          by_cases hT : rsum (rowK t) ≤ 1
          · have HLt := Lib.hid (left_told hT)
            rw [decide_eq_true hT]
            have hc1 := own_cell HOb.out (k := t) (by rw [List.length_set, n1To_len]; exact htl)
            have hf1 := own_free HOb.out t
            have HOc := Lib.hid (own_set HOb.out (k := t) (by rw [List.length_set, n1To_len]; exact htl) 0)
            rw [List.set_set, show (0 : Int) = foundAt 1 t from by rw [HF1.out, if_pos hT], HSt.out] at HOc
            have HWc := Lib.hid (within_set (Within.refl w.heap.size (w.heap.size + 1) w4) (Nat.le_refl _) (Nat.lt_succ_self _) t (.int .i64 0))
            have HLc := Lib.hid (ownsRow_within HLb.out HWc.out (Nat.le_refl _))
            have HBc := Lib.hid (HBb.out.trans (HWc.out.below (Nat.le_refl _) HBb.out.size))
            generalize ((n1To x t).set t (-1)).getD t 0 = z1 at hc1
            have hz : foundAt 1 t = 0 := by rw [HF1.out, if_pos hT]
            rw [hz] at HOc
            clear hz
            go_wp2
            go_roundw
            case rel => exact ⟨t + 1, by omega, by go_num, HOc, by rw [HLt.out]; exact HLc, HBc⟩
            case measure => simp [intOf]; omega
          · rw [decide_eq_false hT]
            have HOd : Hid (Own w4 w.heap.size (w.heap.size + 1) (some ⟨w.heap.size, 0, none⟩) (n1To x (t + 1))) := Lib.hid (by
              have h := HOb.out
              rw [show (-1 : Int) = foundAt 1 t from by rw [HF1.out, if_neg hT], HSt.out] at h
              exact h)
            go_wp2_with fail
            refine (HCn.out (some ⟨g3, 0, none⟩) k g3 (g3 + 1) w4 HO3.out).mono ?_
            rintro e w5 ⟨rfl, rfl⟩
            rw [HCK.out]
            by_cases h8 : rsum (rowK t) ≤ 8
            · have HLy := Lib.hid (left_yes hT h8)
              rw [decide_eq_true h8]
              have hszb := HBb.out.size
              have hsz5 : w.heap.size + 1 ≤ w5.heap.size := own_lt HOd.out
              have hgl : (leftK 1 t).length ≤ 729 := by omega
              generalize leftK 1 t = F at HLb HLy hgl
              go_wp2_with (at_builtin; refine wpList_append_lies _ rfl (.tmp 42) (.tmp 44) 22 rfl (w.heap.size + 1) 3 i0 (.int .i64 0) 1 8 Try.underlying22 hi0 hz0 hz1 hz2 rfl (by decide) u6 F.length (F.map (Value.int .i64)) rfl (HLb.out.alloc _) ⟨w5.heap.size, 0, none⟩ 1 1 [.int .i64 (t : Int)] rfl rfl (cell_one_new _ _ _) (by simp [Value.oneCell']) (by decide) (by unfold maxLen; omega) (by omega) (by simp; omega) _ rfl ?_; intro ga ca wa hown ha hblk hlta; have HLz : Hid (wa.ownsRow (w.heap.size + 1) 3 1 (.slice (some ⟨ga, 0, none⟩) (F.length + 1) ca) (F ++ [(t : Int)]).length ((F ++ [(t : Int)]).map (Value.int .i64))) := Lib.hid (by simpa using hown); have HPz := Lib.hid (Past.grown HLb.out ha); clear hown ha hblk hlta)
              have HOz := Lib.hid (own_same HOd.out (HPz.out.block _ (own_lt HOd.out) (Nat.lt_succ_self _)))
              have HBz := Lib.hid (HBb.out.trans (HPz.out.below (Nat.le_succ _) hszb))
              go_wp2
              go_roundw
              case rel => exact ⟨t + 1, by omega, by go_num, HOz, by rw [HLy.out]; exact HLz, HBz⟩
              case measure => simp [intOf]; omega
            · have HLn := Lib.hid (left_no h8)
              rw [decide_eq_false h8]
              go_wp2
              go_roundw
              case rel => exact ⟨t + 1, by omega, by go_num, HOd, by rw [HLn.out]; exact HLb, HBb⟩
              case measure => simp [intOf]; omega
        · obtain rfl : t = x := by omega
          rw [n1To_all] at HO
          have hll1 := left_len 1 t
          go_wp2_with fail
          go_loopw [6, 9] (fun v i wr => ∃ (rd : Nat), 1 ≤ rd ∧ rd ≤ 10 ∧ i = .int .i64 rd ∧ Hid (Own wr w.heap.size (w.heap.size + 1) (some ⟨w.heap.size, 0, none⟩) (fndT t rd)) ∧ Hid (wr.ownsRow (w.heap.size + 1) 3 1 v (leftK rd t).length ((leftK rd t).map (Value.int .i64))) ∧ Hid (Below w.heap.size w wr)) (fun _ i _ => 10 - (intOf i).toNat)
          case atStart => exact ⟨1, Nat.le_refl _, by omega, rfl, HO, HLf, HB⟩
          case round =>
            clear HO HLf HB
            obtain ⟨rd, hrd, hrd10, rfl, HO, HLf, HB⟩ := hrel
            rename World => w2
            have hll := left_len rd t
            have hg2 := own_lt HO.out
            by_cases h0 : 0 < (leftK rd t).length
            · have hrd9 : rd ≤ 9 := by
                rcases Nat.lt_or_ge rd 10 with h | h
                · omega
                · rw [left_none h] at h0; simp at h0
              obtain ⟨gl, cl, rfl, hgl, _⟩ := ownsRow_at HLf.out h0
              have HMa := Lib.hid (mTo_all rd t)
              have HFy := Lib.hid (fun i hi h => @fTo_yes rd t i hi h)
              have HFn := Lib.hid (fun i hi h => @fTo_no rd t i hi h)
              have HFl := Lib.hid (fun i => fTo_len rd t i)
              have HLm := Lib.hid (fun i (h : i < (leftK rd t).length) => left_mem (List.getElem_mem h))
              have HSs := Lib.hid (fun i κ hi hk => @sTo_set rd t i κ hi hk)
              have HS0 := Lib.hid (sTo_zero rd t)
              have HSa := Lib.hid (@sTo_all rd t)
              have HSl := Lib.hid (fun i => sTo_len rd t i)
              have HSm := Lib.hid (fun x h => @f_mem rd t x h)
              have B1 := (Below.refl _ w2).alloc (Nat.le_refl _) (.cells #[] 3)
              have HE1 : Hid (((w2.alloc (.cells #[] 3)).alloc (.cells #[] 3)).ownsRow w2.heap.size 3 1 (.slice (some ⟨w2.heap.size, 0, none⟩) 0 0) (fTo rd t 0).length ((fTo rd t 0).map (Value.int .i64))) := Lib.hid (by
                have h := (O0_any w2 w2.heap.size (Nat.le_refl _)).alloc (.cells #[] 3)
                simpa [fTo] using h)
              have HE2 : Hid (((w2.alloc (.cells #[] 3)).alloc (.cells #[] 3)).ownsRow w2.heap.size 3 1 (.slice (some ⟨w2.heap.size + 1, 0, none⟩) 0 0) (mTo rd t 0).length ((mTo rd t 0).map (Value.int .i64))) := Lib.hid (by
                have h := O0_any (w2.alloc (.cells #[] 3)) w2.heap.size (by simp)
                simpa [mTo] using h)
              have HE3 : Hid (Apart ((w2.alloc (.cells #[] 3)).alloc (.cells #[] 3)) (.slice (some ⟨w2.heap.size, 0, none⟩) 0 0) (.slice (some ⟨w2.heap.size + 1, 0, none⟩) 0 0)) := Lib.hid ⟨fun e => by (have e : w2.heap.size = w2.heap.size + 1 := (by injection e)); omega, fun q e => by (have e : w2.heap.size = q := (by injection e)); simp; omega, fun q e => by (have e : w2.heap.size + 1 = q := (by injection e)); simp; omega⟩
              have HE4 := Lib.hid (past_alloc (past_alloc (Past.refl w2.heap.size w2) (.cells #[] 3)) (.cells #[] 3))
              clear B1
              go_wp2_with fail
              generalize (w2.alloc (.cells #[] 3)).alloc (.cells #[] 3) = wc at HE1 HE2 HE3 HE4 ⊢
              generalize (Value.slice (some ⟨w2.heap.size, 0, none⟩) 0 0) = vf0 at HE1 HE3 ⊢
              generalize (Value.slice (some ⟨w2.heap.size + 1, 0, none⟩) 0 0) = vm0 at HE2 HE3 ⊢
              go_loopw [10, 11, 12] (fun vf vm i wr => ∃ (q : Nat), q ≤ (leftK rd t).length ∧ i = .int .i64 q ∧ Hid (wr.ownsRow w2.heap.size 3 1 vf (fTo rd t q).length ((fTo rd t q).map (Value.int .i64))) ∧ Hid (wr.ownsRow w2.heap.size 3 1 vm (mTo rd t q).length ((mTo rd t q).map (Value.int .i64))) ∧ Hid (Apart wr vf vm) ∧ Hid (Past w2.heap.size w2 wr)) (fun _ _ i _ => (leftK rd t).length - (intOf i).toNat)
              case atStart => exact ⟨0, Nat.zero_le _, rfl, HE1, HE2, HE3, HE4⟩
              case round =>
                clear HE1 HE2 HE3 HE4
                obtain ⟨q, hq, rfl, HFr, HMr, HAp, HPq⟩ := hrel
                rename World => w3
                have hsz3 := HPq.out.size
                by_cases hql : q < (leftK rd t).length
                · obtain ⟨κ, hκ, hκt, hκ8, hκr⟩ := HLm.out q hql
                  have hlen := HFl.out q
                  have hc3 := ownsRow_cell (ownsRow_past HLf.out HPq.out) hql
                  rw [hκ] at hc3
                  have HO3 := Lib.hid (own_same HO.out (HPq.out.block _ hg2 hg2))
                  have HC := Lib.hid (fun W => l4Counted_any k κ W hkp (by omega))
                  have hnt : 1 < rsum (rowK κ) := by
                    rcases Nat.lt_or_ge 1 (rsum (rowK κ)) with h | h
                    · exact h
                    · rw [need_told h] at hκr; omega
                  have HWt : Hid (∀ (B : Option Addr) (cB lo hi : Nat) (W : World), Ins W lo hi B (lstR k (rowK κ)) → ∀ (c2 : Nat), Ins W w.heap.size (w.heap.size + 1) (some ⟨w.heap.size, 0, none⟩) (fndT t rd) → Calls Try.prog 107 #[.slice B k cB, .slice (some ⟨w.heap.size, 0, none⟩) t c2] W fun e w' => e = .returned (.bool (isF rd (κ : Int))) ∧ Below W.heap.size W w') := Lib.hid (fun B cB lo hi W h c2 h2 => by
                    have h3 := l4Within_any B cB lo hi (some ⟨w.heap.size, 0, none⟩) c2 w.heap.size (w.heap.size + 1) k rd (rowK κ) W h (by rw [← HFR.out]; exact h2) (key_wide hkp (by rw [← HX.out]; exact hκt)) hκ8 hnt hrd
                    rw [← HX.out] at h3
                    exact h3)
                  have HYq : Hid (isF rd (κ : Int) = true → fTo rd t (q + 1) = fTo rd t q ++ [(κ : Int)] ∧ mTo rd t (q + 1) = mTo rd t q) := Lib.hid (fun h => by have h2 := HFy.out q hql (by rw [hκ]; exact h); rw [hκ] at h2; exact h2)
                  have HNq : Hid (isF rd (κ : Int) = false → fTo rd t (q + 1) = fTo rd t q ∧ mTo rd t (q + 1) = mTo rd t q ++ [(κ : Int)]) := Lib.hid (fun h => by have h2 := HFn.out q hql (by rw [hκ]; exact h); rw [hκ] at h2; exact h2)
                  have HLl := Lib.hid (fun W (h : Past w2.heap.size w2 W) => by have h2 := ownsRow_cell (ownsRow_past HLf.out h) hql; rw [hκ] at h2; exact h2)
                  generalize fTo rd t q = F at HFr hlen HYq HNq
                  generalize mTo rd t q = G at HMr hlen HYq HNq
                  clear HFy HFn HFl HLm hκ
                  go_wp2_with fail
                  refine (HC.out w3).mono ?_
                  rintro e w4 ⟨g4, rfl, hg4, ho4, hb4⟩
                  have HO4 := Lib.hid (Ins.mk ho4.ints (own_lt ho4))
                  have HN4 := Lib.hid (own_same HO3.out (hb4.block _ (own_lt HO3.out)))
                  have HP4 := Lib.hid (Past.of_below hb4 : Past w3.heap.size w3 w4)
                  have hs34 := hb4.size
                  clear ho4 hb4 HC HO3
                  go_wp2_with fail
                  refine (HWt.out (some ⟨g4, 0, none⟩) k g4 (g4 + 1) w4 HO4.out _ (Ins.mk HN4.out.ints (own_lt HN4.out))).mono ?_
                  rintro e w5 ⟨rfl, hb5⟩
                  have HP45 := Lib.hid (HP4.out.trans (past_base (Past.of_below hb5 : Past w4.heap.size w4 w5) hs34))
                  replace HFr := Lib.hid (ownsRow_past HFr.out HP45.out)
                  replace HMr := Lib.hid (ownsRow_past HMr.out HP45.out)
                  replace HAp := Lib.hid (HAp.out.size HP45.out.size)
                  replace HPq := Lib.hid (HPq.out.trans (past_base HP45.out hsz3))
                  have hsz5 := HPq.out.size
                  have hc5 := HLl.out w5 HPq.out
                  clear hb5 HWt HP4 HP45 hc3 HN4 HO4
                  cases hF : isF rd (κ : Int) with
                  | true =>
                    have HE := Lib.hid (HYq.out hF)
                    clear HYq HNq hF
                    go_wp2_with (at_builtin; refine wpList_append_lies _ rfl (.tmp 67) (.tmp 72) 22 rfl w2.heap.size 3 i0 (.int .i64 0) 1 8 Try.underlying22 hi0 hz0 hz1 hz2 rfl (by decide) u10 F.length (F.map (Value.int .i64)) rfl (HFr.out.alloc _) ⟨w5.heap.size, 0, none⟩ 1 1 [.int .i64 (κ : Int)] rfl rfl (cell_one_new _ _ _) (by simp [Value.oneCell']) (by decide) (by unfold maxLen; omega) (by omega) (by simp; omega) _ rfl ?_; intro ga ca wa hown ha hblk hlta; have HX5 := Lib.hid (show wa.ownsRow w2.heap.size 3 1 (.slice (some ⟨ga, 0, none⟩) (F.length + 1) ca) (F ++ [(κ : Int)]).length ((F ++ [(κ : Int)]).map (Value.int .i64)) from (by simpa using hown)); have HM5 := Lib.hid (ownsRow_other (HMr.out.alloc (.cells #[.int .i64 (κ : Int)] 3)) ha (fun e => HAp.out.ne e.symm)); have HA5 := Lib.hid (apart_next (n := F.length + 1) (c := ca) (HAp.out.size (Nat.le_of_lt (by simp) : w5.heap.size ≤ (w5.alloc (.cells #[.int .i64 (κ : Int)] 3)).heap.size)) hblk rfl hlta ha.size); have HP5 := Lib.hid (HPq.out.trans ((past_base (past_alloc (Past.refl w5.heap.size w5) (.cells #[.int .i64 (κ : Int)] 3)) hsz5).trans (Past.of_within (within_grown (HFr.out.alloc (.cells #[.int .i64 (κ : Int)] 3)) ha) (Nat.le_refl _)))); clear hown ha hblk hlta)
                    go_wp2
                    go_roundw
                    case rel => exact ⟨q + 1, by omega, by go_num, by rw [HE.out.1]; exact HX5, by rw [HE.out.2]; exact HM5, HA5, HP5⟩
                    case measure => simp [intOf]; omega
                  | false =>
                    have HE := Lib.hid (HNq.out hF)
                    clear HYq HNq hF
                    go_wp2_with (at_builtin; refine wpList_append_lies _ rfl (.tmp 74) (.tmp 79) 22 rfl w2.heap.size 3 i0 (.int .i64 0) 1 8 Try.underlying22 hi0 hz0 hz1 hz2 rfl (by decide) u11 G.length (G.map (Value.int .i64)) rfl (HMr.out.alloc _) ⟨w5.heap.size, 0, none⟩ 1 1 [.int .i64 (κ : Int)] rfl rfl (cell_one_new _ _ _) (by simp [Value.oneCell']) (by decide) (by unfold maxLen; omega) (by omega) (by simp; omega) _ rfl ?_; intro ga ca wa hown ha hblk hlta; have HX5 := Lib.hid (show wa.ownsRow w2.heap.size 3 1 (.slice (some ⟨ga, 0, none⟩) (G.length + 1) ca) (G ++ [(κ : Int)]).length ((G ++ [(κ : Int)]).map (Value.int .i64)) from (by simpa using hown)); have HM5 := Lib.hid (ownsRow_other (HFr.out.alloc (.cells #[.int .i64 (κ : Int)] 3)) ha HAp.out.ne); have HA5 := Lib.hid (apart_next (n := G.length + 1) (c := ca) (HAp.out.symm.size (Nat.le_of_lt (by simp) : w5.heap.size ≤ (w5.alloc (.cells #[.int .i64 (κ : Int)] 3)).heap.size)) hblk rfl hlta ha.size).symm; have HP5 := Lib.hid (HPq.out.trans ((past_base (past_alloc (Past.refl w5.heap.size w5) (.cells #[.int .i64 (κ : Int)] 3)) hsz5).trans (Past.of_within (within_grown (HMr.out.alloc (.cells #[.int .i64 (κ : Int)] 3)) ha) (Nat.le_refl _)))); clear hown ha hblk hlta)
                    go_wp2
                    go_roundw
                    case rel => exact ⟨q + 1, by omega, by go_num, by rw [HE.out.1]; exact HM5, by rw [HE.out.2]; exact HX5, HA5, HP5⟩
                    case measure => simp [intOf]; omega
                · obtain rfl : q = (leftK rd t).length := by omega
                  rw [HMa.out] at HMr
                  have HO3 := Lib.hid (own_same HO.out (HPq.out.block _ hg2 hg2))
                  rw [← HS0.out] at HO3
                  have hfl := (HFl.out (leftK rd t).length).1
                  generalize hFF : fTo rd t (leftK rd t).length = F at HFr HSs HSa HSm hfl
                  clear hFF
                  obtain ⟨Af, cf, rfl⟩ := ownsRow_slice HFr.out
                  go_wp2_with fail
                  go_loopw [13] (fun i wr => ∃ (y : Nat), y ≤ F.length ∧ i = .int .i64 y ∧ Hid (Own wr w.heap.size (w.heap.size + 1) (some ⟨w.heap.size, 0, none⟩) (sTo rd t y)) ∧ Hid (Within w.heap.size (w.heap.size + 1) w3 wr)) (fun i _ => F.length - (intOf i).toNat)
                  case atStart => exact ⟨0, Nat.zero_le _, rfl, HO3, Lib.hid (Within.refl _ _ _)⟩
                  case round =>
                    clear HO3
                    obtain ⟨y, hy, rfl, HO4, HW4⟩ := hrel
                    rename World => w4
                    by_cases hyl : y < F.length
                    · obtain ⟨gf, cf2, hvf, hgf, hcf⟩ := ownsRow_at (ownsRow_within HFr.out HW4.out (by omega)) hyl
                      injection hvf with hAf _ hcf2
                      subst hAf hcf2
                      obtain ⟨κ, hκ, hκt, _, _⟩ := HSm.out F[y] (List.getElem_mem hyl)
                      rw [hκ] at hcf
                      have hc0 := own_cell HO4.out (k := κ) (by rw [HSl.out]; exact hκt)
                      have hf0 := own_free HO4.out κ
                      have HO5 := Lib.hid (own_set HO4.out (k := κ) (by rw [HSl.out]; exact hκt) ((rd : Nat) : Int))
                      rw [HSs.out y κ hyl hκ] at HO5
                      have HW5 := Lib.hid (HW4.out.trans (within_set (Within.refl w.heap.size (w.heap.size + 1) w4) (Nat.le_refl _) (Nat.lt_succ_self _) κ (.int .i64 (rd : Int))))
                      generalize (sTo rd t y).getD κ 0 = z0 at hc0
                      go_wp2
                      go_roundw
                      case rel => exact ⟨y + 1, by omega, by go_num, HO5, HW5⟩
                      case measure => simp [intOf]; omega
                    · obtain rfl : y = F.length := by omega
                      rw [HSa.out] at HO4
                      have HMz := Lib.hid (own_base (ownsRow_within HMr.out HW4.out (by omega)) (Nat.succ_le_of_lt hg2))
                      have HBz := Lib.hid ((below_trans HB.out (HPq.out.below (Nat.le_refl _) (Nat.le_refl _))).trans (HW4.out.below (Nat.le_refl _) (Nat.le_trans HB.out.size hsz3)))
                      go_wp2
                      go_roundw
                      case rel => exact ⟨rd + 1, by omega, by omega, by go_num, HO4, HMz, HBz⟩
                      case measure => simp [intOf]; omega
            · have hnil : leftK rd t = [] := List.eq_nil_of_length_eq_zero (by omega)
              have HE := Lib.hid (fnd_done hnil hrd10)
              obtain ⟨Ao, co, rfl⟩ := ownsRow_slice HLf.out
              rw [HE.out, HFR.out] at HO
              have hl0 : (leftK rd t).length = 0 := by omega
              go_wp2
              go_ret
              exact ⟨_, t, by rw [← HX.out]; rfl, Nat.le_refl _, HO.out, HB.out⟩
end Go.Proofs.Ytdkffkgoalgjmab
namespace Go.Proofs.Ytdkffkgoalgjmab
open Go.RowKit Go.ChangeShapes Go.WideShapes
set_option linter.unusedVariables false

/-- The need of a split, -1 if it leads back. -/
def snR (r s : Row) : Int := if backR r s = true then -1 else ((valR r s : Nat) : Int)
theorem found_all {r : Row} (h8 : rsum r ≤ 8) : foundAt 10 (keyR r) = ((needR r : Nat) : Int) := by
  rw [found_key h8, if_pos (by have := need_le h8; omega)]
set_option maxRecDepth 100000 in
set_option maxHeartbeats 1000000 in
theorem l4SplitNeed_any (A : Option Addr) (c lo hi_ : Nat) (A2 : Option Addr) (c2 lo2 hi2 : Nat) (A3 : Option Addr) (c3 lo3 hi3 : Nat) (p : Nat) (r s : Row) (w : World) (hS : Ins w lo hi_ A (lstR p r)) (hS3 : Ins w lo3 hi3 A3 (lstR p s)) (hS2 : Ins w lo2 hi2 A2 (foundL p 10)) (hw : Wide p r) (h8 : rsum r ≤ 8) (hf : Fits s r) :
    Calls Try.prog 64 #[.slice A p c, .slice A3 p c3, .slice A2 (9 ^ p) c2] w fun e w' => e = .returned (.int .i64 (snR r s)) ∧ Below w.heap.size w w' := by
  have hp := hw.le
  have hp9 := pow9 hp
  have hyw := yes_wide hw hf
  have hy8 := yes_sum h8 hf
  have HS := Lib.hid hS
  have HS2 := Lib.hid hS2
  have HS3 := Lib.hid hS3
  have HY := Lib.hid (fun W h h2 => l4Yes_any A c lo hi_ A3 c3 lo3 hi3 p r s W h h2 hw h8 hf)
  have HN := Lib.hid (fun W h h2 => l4No_any A c lo hi_ A3 c3 lo3 hi3 p r s W h h2 hw h8 hf)
  have HYK := Lib.hid (fun B cB loB hiB W h => l4Key_any B cB loB hiB p (yesR r s) W h hyw.1 hy8.1)
  have HNK := Lib.hid (fun B cB loB hiB W h => l4Key_any B cB loB hiB p (noR r s) W h hyw.2 hy8.2)
  have HYS := Lib.hid (fun B cB loB hiB W h h2 => l1Same_any B cB loB hiB A c lo hi_ p (yesR r s) r W h h2 hyw.1 hw)
  have HNS := Lib.hid (fun B cB loB hiB W h h2 => l1Same_any B cB loB hiB A c lo hi_ p (noR r s) r W h h2 hyw.2 hw)
  have hky := key_lt hyw.1 hy8.1
  have hkn := key_lt hyw.2 hy8.2
  have HFY := Lib.hid (found_all hy8.1)
  have HFN := Lib.hid (found_all hy8.2)
  have hny := need_le hy8.1
  have hnn := need_le hy8.2
  have HFL := Lib.hid (foundL_len p 10)
  have HBK : Hid (backR r s = (decide (yesR r s = r) || decide (noR r s = r))) := Lib.hid (by unfold backR; rw [Bool.eq_iff_iff]; simp)
  have HV : Hid (valR r s = 1 + max (needR (yesR r s)) (needR (noR r s))) := Lib.hid rfl
  clear hS hS2 hS3 hw hyw hy8
  generalize hq1 : decide (yesR r s = r) = q1 at HYS HBK
  generalize hq2 : decide (noR r s = r) = q2 at HNS HBK
  clear hq1 hq2
  generalize keyR (yesR r s) = ky at HYK hky HFY
  generalize keyR (noR r s) = kn at HNK hkn HFN
  generalize needR (yesR r s) = ny at hny HFY HV
  generalize needR (noR r s) = nn at hnn HFN HV
  have hkyI : (ky : Int) < ((9 ^ p : Nat) : Int) := by omega
  have hknI : (kn : Int) < ((9 ^ p : Nat) : Int) := by omega
  go_enter Try.func64, Try.ntmps64
  go_wp2_with fail
  refine (HY.out w HS.out HS3.out).mono ?_
  rintro e w1 ⟨g1, c1, rfl, hg1, ho1, hb1⟩
  have HO1 := Lib.hid (Ins.mk ho1.ints (own_lt ho1))
  have HB := Lib.hid hb1
  replace HS := Lib.hid (HS.out.step hb1)
  replace HS2 := Lib.hid (HS2.out.step hb1)
  replace HS3 := Lib.hid (HS3.out.step hb1)
  clear ho1 hb1 HY
  go_wp2_with fail
  refine (HN.out w1 HS.out HS3.out).mono ?_
  rintro e w2 ⟨g2, c2', rfl, hg2, ho2, hb2⟩
  have HO2 := Lib.hid (Ins.mk ho2.ints (own_lt ho2))
  replace HB := Lib.hid (below_trans HB.out hb2)
  replace HS := Lib.hid (HS.out.step hb2)
  replace HS2 := Lib.hid (HS2.out.step hb2)
  replace HO1 := Lib.hid (HO1.out.step hb2)
  clear ho2 hb2 HN HS3
  go_wp2_with fail
  refine (HYS.out (some ⟨g1, 0, none⟩) c1 _ _ w2 HO1.out HS.out).mono ?_
  rintro e w3 ⟨rfl, hb3⟩
  replace HB := Lib.hid (below_trans HB.out hb3)
  replace HS := Lib.hid (HS.out.step hb3)
  replace HS2 := Lib.hid (HS2.out.step hb3)
  replace HO1 := Lib.hid (HO1.out.step hb3)
  replace HO2 := Lib.hid (HO2.out.step hb3)
  clear hb3 HYS
  cases q1 with
  | true =>
    have E : Hid (snR r s = -1) := Lib.hid (by unfold snR; rw [HBK.out]; rfl)
    go_wp2
    go_ret
    exact ⟨by rw [E.out]; rfl, HB.out⟩
  | false =>
    go_wp2_with fail
    refine (HNS.out (some ⟨g2, 0, none⟩) c2' _ _ w3 HO2.out HS.out).mono ?_
    rintro e w4 ⟨rfl, hb4⟩
    replace HB := Lib.hid (below_trans HB.out hb4)
    replace HS2 := Lib.hid (HS2.out.step hb4)
    replace HO1 := Lib.hid (HO1.out.step hb4)
    replace HO2 := Lib.hid (HO2.out.step hb4)
    clear hb4 HNS HS
    cases q2 with
    | true =>
      have E : Hid (snR r s = -1) := Lib.hid (by unfold snR; rw [HBK.out]; rfl)
      go_wp2
      go_ret
      exact ⟨by rw [E.out]; rfl, HB.out⟩
    | false =>
      obtain ⟨M, hM, hMl⟩ : ∃ M : Nat, M = max ny nn ∧ M ≤ 9 := ⟨_, rfl, by omega⟩
      have E : Hid (snR r s = 1 + (M : Int)) := Lib.hid (by unfold snR; rw [HBK.out, HV.out, hM]; simp)
      have HM : Hid (∀ W, Calls Try.prog 65 #[.int .i64 (ny : Int), .int .i64 (nn : Int)] W fun e w' => e = .returned (.int .i64 (M : Int)) ∧ w' = W) := Lib.hid (fun W => by
        have h := l1Most_any (ny : Int) (nn : Int) W
        have e : (if (nn : Int) ≤ (ny : Int) then (ny : Int) else (nn : Int)) = (M : Int) := by split <;> omega
        rwa [e] at h)
      obtain ⟨b2, o2, hA2, _, hbb, hc2⟩ := HS2.out.ints.at_ (k := ky) (by rw [HFL.out]; exact hky)
      subst hA2
      rw [foundL_at, HFY.out] at hc2
      obtain ⟨b2', o2', hA2', _, hbb', hc2b⟩ := HS2.out.ints.at_ (k := kn) (by rw [HFL.out]; exact hkn)
      injection hA2' with hA2'
      injection hA2' with e1 e2
      subst e1 e2
      rw [foundL_at, HFN.out] at hc2b
      have HK1 := Lib.hid (fun W (h : Below w4.heap.size w4 W) => HYK.out (some ⟨g1, 0, none⟩) c1 _ _ W (HO1.out.step h))
      have HK2 := Lib.hid (fun W (h : Below w4.heap.size w4 W) => HNK.out (some ⟨g2, 0, none⟩) c2' _ _ W (HO2.out.step h))
      clear hM HYK HNK HV
      go_wp2_with fail
      go_quiet (first
        | (go_at_call 59; with_reducible refine Calls.quiet_of_same (HK1.out _ (below_drewN (Below.refl _ _) _)))
        | (go_at_call 59; with_reducible refine Calls.quiet_of_same (HK2.out _ (below_drewN (Below.refl _ _) _)))
        | (go_at_call 65; refine Calls.quiet_of_same (HM.out _)))
      all_goals
        go_wp2
        go_ret
        exact ⟨by rw [E.out]; rfl, below_drewN HB.out _⟩
end Go.Proofs.Ytdkffkgoalgjmab
namespace Go.Proofs.Ytdkffkgoalgjmab
open Go.RowKit Go.ChangeShapes Go.WideShapes
set_option linter.unusedVariables false

theorem Laid3.drewN {w wa : World} {a b c x y z : Value} (h : Laid3 w wa a b c x y z) (n : Nat) : Laid3 w (wa.drewN n) a b c x y z := h.step (below_drewN (Below.refl _ wa) n)
theorem Laid3.set2 {w wa : World} {a b c x y z : Value} (h : Laid3 w wa a b c x y z) (i : Nat) (u : Value) (x' y' z' : Value) (ht : Three (wa.setCell ⟨w.heap.size + 1, i, none⟩ u) (w.heap.size + 1) x' y' z') : Laid3 w (wa.setCell ⟨w.heap.size + 1, i, none⟩ u) a b c x' y' z' :=
  ⟨h.t1.far (by omega) _ _, ht, h.t3.far (by omega) _ _, below_set h.bel (by omega) _ _⟩
set_option maxRecDepth 100000 in
set_option maxHeartbeats 4000000 in
theorem splitAfter_nat (a b c x y z : Nat) (w : World) (h8 : a + b + c ≤ 8) (hx : x ≤ a) (hy : y ≤ b) (hz : z ≤ c) (P : Row) (ok : Bool) (hP : nextR (a, b, c) (x, y, z) = if ok = true then some P else none) (hP0 : ok = false → P = (0, 0, 0)) :
    Calls Try.prog 129 #[.agg #[.int .i64 (a : Int), .int .i64 (b : Int), .int .i64 (c : Int)], .agg #[.int .i64 (x : Int), .int .i64 (y : Int), .int .i64 (z : Int)]] w fun e w' =>
      e = .returned (.tuple #[.agg #[.int .i64 (P.1 : Int), .int .i64 (P.2.1 : Int), .int .i64 (P.2.2 : Int)], .bool ok]) ∧ Below w.heap.size w w' := by
  have HL := Lib.hid (Laid3.new w (.int .i64 (a : Int)) (.int .i64 (b : Int)) (.int .i64 (c : Int)) (.int .i64 (x : Int)) (.int .i64 (y : Int)) (.int .i64 (z : Int)))
  have HN := Lib.hid hP
  have HN0 := Lib.hid hP0
  clear hP hP0
  go_enter Try.func129, Try.ntmps129
  go_wp2_with fail
  generalize ((w.alloc (.cells #[.int .i64 (a : Int), .int .i64 (b : Int), .int .i64 (c : Int)] 66)).alloc (.cells #[.int .i64 (x : Int), .int .i64 (y : Int), .int .i64 (z : Int)] 66)).alloc (.cells #[.int .i64 0, .int .i64 0, .int .i64 0] 66) = wa at HL ⊢
  go_loopw [6] (fun i wr => ∃ (k : Nat) (m : Int), k ≤ 3 ∧ i = .int .i64 m ∧ m = 2 - (k : Int) ∧ Hid (Laid3 w wr (.int .i64 (a : Int)) (.int .i64 (b : Int)) (.int .i64 (c : Int)) (.int .i64 (if k < 3 then (x : Int) else 0)) (.int .i64 (if k < 2 then (y : Int) else 0)) (.int .i64 (if k < 1 then (z : Int) else 0))) ∧ Hid (0 < k → z = c) ∧ Hid (1 < k → y = b) ∧ Hid (2 < k → x = a)) (fun i _ => (intOf i + 1).toNat)
  case atStart => exact ⟨0, 2, by omega, rfl, by simp, by simpa using HL, Lib.hid nofun, Lib.hid nofun, Lib.hid nofun⟩
  case round =>
    clear HL
    obtain ⟨k, m, hk, rfl, hm, HL, HC, HB, HA⟩ := hrel
    have q0 := HL.out.t1.c0
    have q1 := HL.out.t1.c1
    have q2 := HL.out.t1.c2
    by_cases k0 : k = 0
    · subst k0
      obtain rfl : m = 2 := by omega
      clear hm
      simp only [show (0 < 3) by decide, show (0 < 2) by decide, show (0 < 1) by decide, if_true] at HL
      have p0 := HL.out.t2.c0
      have p1 := HL.out.t2.c1
      have p2 := HL.out.t2.c2
      by_cases hlt : z < c
      · have E : Hid (P = (x, y, z + 1) ∧ ok = true) := Lib.hid (by
          have h := HN.out
          have hn : nextR (a, b, c) (x, y, z) = some (x, y, z + 1) := by
            have hkC : 0 < 0 → z = c := HC.out
            have hkB : 1 < 0 → y = b := HB.out
            simp only [nextR]
            rw [if_pos hlt]
          rw [hn] at h
          cases ok
          · cases h
          · exact ⟨(Option.some.inj h).symm, rfl⟩)
        have hltI : (z : Int) < (c : Int) := by omega
        go_wp2_with fail
        go_quiet (fail)
        have HM := Lib.hid (HL.out.drewN nq)
        generalize wr.drewN nq = wq at HM ⊢
        clear p0 p1 p2 q0 q1 q2 HL
        have p2' := HM.out.t2.c2
        have f2' := HM.out.t2.f 2
        have HS := Lib.hid (HM.out.set2 2 (.int .i64 ((z : Int) + 1)) (.int .i64 (x : Int)) (.int .i64 (y : Int)) (.int .i64 ((z : Int) + 1)) (HM.out.t2.set2 _))
        have p0 := HS.out.t2.c0
        have p1 := HS.out.t2.c1
        have p2 := HS.out.t2.c2
        have r0 := HS.out.t3.c0
        have r1 := HS.out.t3.c1
        have r2 := HS.out.t3.c2
        have f0 := HS.out.t3.f 0
        have f1 := HS.out.t3.f 1
        have f2 := HS.out.t3.f 2
        go_wp2
        have HR := HS.out.t3.set (.int .i64 (x : Int)) (.int .i64 (y : Int)) (.int .i64 ((z : Int) + 1))
        have HBf := below_set3 HS.out.bel (Nat.le_trans (Nat.le_succ _) (Nat.le_succ _) : w.heap.size ≤ w.heap.size + 1 + 1) (.int .i64 (x : Int)) (.int .i64 (y : Int)) (.int .i64 ((z : Int) + 1))
        generalize ((((wq.setCell ⟨w.heap.size + 1, 2, none⟩ (.int .i64 ((z : Int) + 1))).setCell ⟨w.heap.size + 1 + 1, 0, none⟩ (.int .i64 (x : Int))).setCell ⟨w.heap.size + 1 + 1, 1, none⟩ (.int .i64 (y : Int))).setCell ⟨w.heap.size + 1 + 1, 2, none⟩ (.int .i64 ((z : Int) + 1))) = wf at HR HBf ⊢
        have e0 := HR.c0
        have e1 := HR.c1
        have e2 := HR.c2
        refine bodyPost_ret (v := .tuple #[.agg #[.int .i64 (x : Int), .int .i64 (y : Int), .int .i64 ((z : Int) + 1)], .bool true]) (by simp [results, go_sem, e0, e1, e2]) rfl ?_
        obtain ⟨rfl, rfl⟩ := E.out
        exact ⟨by simp, HBf⟩
      · have hge : ¬ ((z : Int) < (c : Int)) := by omega
        have hd : decide ((z : Int) < (c : Int)) = false := decide_eq_false hge
        go_wp2_with fail
        go_quiet (fail)
        have HM := Lib.hid (HL.out.drewN nq)
        generalize wr.drewN nq = wq at HM ⊢
        clear p0 p1 p2 q0 q1 q2 HL
        have p2' := HM.out.t2.c2
        have f2' := HM.out.t2.f 2
        have HS := Lib.hid (HM.out.set2 2 (.int .i64 0) (.int .i64 (x : Int)) (.int .i64 (y : Int)) (.int .i64 0) (HM.out.t2.set2 _))
        go_wp2
        go_roundw
        case rel => exact ⟨1, 2 - 1, by omega, by first | rfl | simp, by simp, by simpa using HS, Lib.hid (fun h => by first | omega | (exact HC.out (by omega))), Lib.hid (fun h => by first | omega | (exact HB.out (by omega))), Lib.hid (fun h => by first | omega | (exact HA.out (by omega)))⟩
        case measure => simp [intOf]
    · by_cases k1 : k = 1
      · subst k1
        obtain rfl : m = 1 := by omega
        clear hm
        simp only [show  (1 < 3) by decide, show  (1 < 2) by decide, show ¬ (1 < 1) by decide, if_true, if_false] at HL
        have p0 := HL.out.t2.c0
        have p1 := HL.out.t2.c1
        have p2 := HL.out.t2.c2
        by_cases hlt : y < b
        · have E : Hid (P = (x, y + 1, 0) ∧ ok = true) := Lib.hid (by
            have h := HN.out
            have hn : nextR (a, b, c) (x, y, z) = some (x, y + 1, 0) := by
              have hkC : 0 < 1 → z = c := HC.out
              have hkB : 1 < 1 → y = b := HB.out
              simp only [nextR]
              rw [if_neg (by omega)]
              rw [if_pos hlt]
            rw [hn] at h
            cases ok
            · cases h
            · exact ⟨(Option.some.inj h).symm, rfl⟩)
          have hltI : (y : Int) < (b : Int) := by omega
          go_wp2_with fail
          go_quiet (fail)
          have HM := Lib.hid (HL.out.drewN nq)
          generalize wr.drewN nq = wq at HM ⊢
          clear p0 p1 p2 q0 q1 q2 HL
          have p1' := HM.out.t2.c1
          have f1' := HM.out.t2.f 1
          have HS := Lib.hid (HM.out.set2 1 (.int .i64 ((y : Int) + 1)) (.int .i64 (x : Int)) (.int .i64 ((y : Int) + 1)) (.int .i64 0) (HM.out.t2.set1 _))
          have p0 := HS.out.t2.c0
          have p1 := HS.out.t2.c1
          have p2 := HS.out.t2.c2
          have r0 := HS.out.t3.c0
          have r1 := HS.out.t3.c1
          have r2 := HS.out.t3.c2
          have f0 := HS.out.t3.f 0
          have f1 := HS.out.t3.f 1
          have f2 := HS.out.t3.f 2
          go_wp2
          have HR := HS.out.t3.set (.int .i64 (x : Int)) (.int .i64 ((y : Int) + 1)) (.int .i64 0)
          have HBf := below_set3 HS.out.bel (Nat.le_trans (Nat.le_succ _) (Nat.le_succ _) : w.heap.size ≤ w.heap.size + 1 + 1) (.int .i64 (x : Int)) (.int .i64 ((y : Int) + 1)) (.int .i64 0)
          generalize ((((wq.setCell ⟨w.heap.size + 1, 1, none⟩ (.int .i64 ((y : Int) + 1))).setCell ⟨w.heap.size + 1 + 1, 0, none⟩ (.int .i64 (x : Int))).setCell ⟨w.heap.size + 1 + 1, 1, none⟩ (.int .i64 ((y : Int) + 1))).setCell ⟨w.heap.size + 1 + 1, 2, none⟩ (.int .i64 0)) = wf at HR HBf ⊢
          have e0 := HR.c0
          have e1 := HR.c1
          have e2 := HR.c2
          refine bodyPost_ret (v := .tuple #[.agg #[.int .i64 (x : Int), .int .i64 ((y : Int) + 1), .int .i64 0], .bool true]) (by simp [results, go_sem, e0, e1, e2]) rfl ?_
          obtain ⟨rfl, rfl⟩ := E.out
          exact ⟨by simp, HBf⟩
        · have hge : ¬ ((y : Int) < (b : Int)) := by omega
          have hd : decide ((y : Int) < (b : Int)) = false := decide_eq_false hge
          go_wp2_with fail
          go_quiet (fail)
          have HM := Lib.hid (HL.out.drewN nq)
          generalize wr.drewN nq = wq at HM ⊢
          clear p0 p1 p2 q0 q1 q2 HL
          have p1' := HM.out.t2.c1
          have f1' := HM.out.t2.f 1
          have HS := Lib.hid (HM.out.set2 1 (.int .i64 0) (.int .i64 (x : Int)) (.int .i64 0) (.int .i64 0) (HM.out.t2.set1 _))
          go_wp2
          go_roundw
          case rel => exact ⟨2, 1 - 1, by omega, by first | rfl | simp, by simp, by simpa using HS, Lib.hid (fun h => by first | omega | (exact HC.out (by omega))), Lib.hid (fun h => by first | omega | (exact HB.out (by omega))), Lib.hid (fun h => by first | omega | (exact HA.out (by omega)))⟩
          case measure => simp [intOf]
      · by_cases k2 : k = 2
        · subst k2
          obtain rfl : m = 0 := by omega
          clear hm
          simp only [show  (2 < 3) by decide, show ¬ (2 < 2) by decide, show ¬ (2 < 1) by decide, if_true, if_false] at HL
          have p0 := HL.out.t2.c0
          have p1 := HL.out.t2.c1
          have p2 := HL.out.t2.c2
          by_cases hlt : x < a
          · have E : Hid (P = (x + 1, 0, 0) ∧ ok = true) := Lib.hid (by
              have h := HN.out
              have hn : nextR (a, b, c) (x, y, z) = some (x + 1, 0, 0) := by
                have hkC : 0 < 2 → z = c := HC.out
                have hkB : 1 < 2 → y = b := HB.out
                simp only [nextR]
                rw [if_neg (by omega)]
                rw [if_neg (by omega)]
                rw [if_pos hlt]
              rw [hn] at h
              cases ok
              · cases h
              · exact ⟨(Option.some.inj h).symm, rfl⟩)
            have hltI : (x : Int) < (a : Int) := by omega
            go_wp2_with fail
            go_quiet (fail)
            have HM := Lib.hid (HL.out.drewN nq)
            generalize wr.drewN nq = wq at HM ⊢
            clear p0 p1 p2 q0 q1 q2 HL
            have p0' := HM.out.t2.c0
            have f0' := HM.out.t2.f 0
            have HS := Lib.hid (HM.out.set2 0 (.int .i64 ((x : Int) + 1)) (.int .i64 ((x : Int) + 1)) (.int .i64 0) (.int .i64 0) (HM.out.t2.set0 _))
            have p0 := HS.out.t2.c0
            have p1 := HS.out.t2.c1
            have p2 := HS.out.t2.c2
            have r0 := HS.out.t3.c0
            have r1 := HS.out.t3.c1
            have r2 := HS.out.t3.c2
            have f0 := HS.out.t3.f 0
            have f1 := HS.out.t3.f 1
            have f2 := HS.out.t3.f 2
            go_wp2
            have HR := HS.out.t3.set (.int .i64 ((x : Int) + 1)) (.int .i64 0) (.int .i64 0)
            have HBf := below_set3 HS.out.bel (Nat.le_trans (Nat.le_succ _) (Nat.le_succ _) : w.heap.size ≤ w.heap.size + 1 + 1) (.int .i64 ((x : Int) + 1)) (.int .i64 0) (.int .i64 0)
            generalize ((((wq.setCell ⟨w.heap.size + 1, 0, none⟩ (.int .i64 ((x : Int) + 1))).setCell ⟨w.heap.size + 1 + 1, 0, none⟩ (.int .i64 ((x : Int) + 1))).setCell ⟨w.heap.size + 1 + 1, 1, none⟩ (.int .i64 0)).setCell ⟨w.heap.size + 1 + 1, 2, none⟩ (.int .i64 0)) = wf at HR HBf ⊢
            have e0 := HR.c0
            have e1 := HR.c1
            have e2 := HR.c2
            refine bodyPost_ret (v := .tuple #[.agg #[.int .i64 ((x : Int) + 1), .int .i64 0, .int .i64 0], .bool true]) (by simp [results, go_sem, e0, e1, e2]) rfl ?_
            obtain ⟨rfl, rfl⟩ := E.out
            exact ⟨by simp, HBf⟩
          · have hge : ¬ ((x : Int) < (a : Int)) := by omega
            have hd : decide ((x : Int) < (a : Int)) = false := decide_eq_false hge
            go_wp2_with fail
            go_quiet (fail)
            have HM := Lib.hid (HL.out.drewN nq)
            generalize wr.drewN nq = wq at HM ⊢
            clear p0 p1 p2 q0 q1 q2 HL
            have p0' := HM.out.t2.c0
            have f0' := HM.out.t2.f 0
            have HS := Lib.hid (HM.out.set2 0 (.int .i64 0) (.int .i64 0) (.int .i64 0) (.int .i64 0) (HM.out.t2.set0 _))
            go_wp2
            go_roundw
            case rel => exact ⟨3, 0 - 1, by omega, by first | rfl | simp, by simp, by simpa using HS, Lib.hid (fun h => by first | omega | (exact HC.out (by omega))), Lib.hid (fun h => by first | omega | (exact HB.out (by omega))), Lib.hid (fun h => by first | omega | (exact HA.out (by omega)))⟩
            case measure => simp [intOf]
        · obtain rfl : k = 3 := by omega
          have hm0 : m < 0 := by omega
          simp only [show ¬ (3 < 3) by decide, show ¬ (3 < 2) by decide, show ¬ (3 < 1) by decide, if_false] at HL
          have E : Hid (P = (0, 0, 0) ∧ ok = false) := Lib.hid (by
            have h1 := HC.out (by omega)
            have h2 := HB.out (by omega)
            have h3 := HA.out (by omega)
            have h := HN.out
            have hn : nextR (a, b, c) (x, y, z) = none := by
              simp only [nextR]
              rw [if_neg (by omega), if_neg (by omega), if_neg (by omega)]
            rw [hn] at h
            cases hok : ok
            · exact ⟨HN0.out hok, rfl⟩
            · rw [hok] at h; cases h)
          clear hm
          have r0 := HL.out.t3.c0
          have r1 := HL.out.t3.c1
          have r2 := HL.out.t3.c2
          have f0 := HL.out.t3.f 0
          have f1 := HL.out.t3.f 1
          have f2 := HL.out.t3.f 2
          go_wp2
          have HR := HL.out.t3.set (.int .i64 0) (.int .i64 0) (.int .i64 0)
          have HBf := below_set3 HL.out.bel (Nat.le_trans (Nat.le_succ _) (Nat.le_succ _) : w.heap.size ≤ w.heap.size + 1 + 1) (.int .i64 0) (.int .i64 0) (.int .i64 0)
          generalize (((wr.setCell ⟨w.heap.size + 1 + 1, 0, none⟩ (.int .i64 0)).setCell ⟨w.heap.size + 1 + 1, 1, none⟩ (.int .i64 0)).setCell ⟨w.heap.size + 1 + 1, 2, none⟩ (.int .i64 0)) = wf at HR HBf ⊢
          have e0 := HR.c0
          have e1 := HR.c1
          have e2 := HR.c2
          refine bodyPost_ret (v := .tuple #[.agg #[.int .i64 0, .int .i64 0, .int .i64 0], .bool false]) (by simp [results, go_sem, e0, e1, e2]) rfl ?_
          obtain ⟨rfl, rfl⟩ := E.out
          exact ⟨by simp, HBf⟩
/-- The split behind the i-th one. -/
theorem splitAfter_any (r : Row) (i : Nat) (w : World) (h8 : rsum r ≤ 8) (hi : i < cntR r) :
    Calls Try.prog 129 #[.agg #[.int .i64 (r.1 : Int), .int .i64 (r.2.1 : Int), .int .i64 (r.2.2 : Int)], .agg #[.int .i64 ((splitR r i).1 : Int), .int .i64 ((splitR r i).2.1 : Int), .int .i64 ((splitR r i).2.2 : Int)]] w fun e w' =>
      e = .returned (.tuple #[.agg #[.int .i64 ((if i + 1 < cntR r then splitR r (i + 1) else (0, 0, 0) : Row).1 : Int), .int .i64 ((if i + 1 < cntR r then splitR r (i + 1) else (0, 0, 0) : Row).2.1 : Int), .int .i64 ((if i + 1 < cntR r then splitR r (i + 1) else (0, 0, 0) : Row).2.2 : Int)], .bool (decide (i + 1 < cntR r))]) ∧ Below w.heap.size w w' := by
  have hf := split_fits h8 hi
  unfold Fits at hf
  refine splitAfter_nat r.1 r.2.1 r.2.2 _ _ _ w h8 hf.1 hf.2.1 hf.2.2 _ _ ?_ ?_
  · have h := split_next h8 hi
    show nextR r (splitR r i) = _
    rw [h]
    by_cases hc : i + 1 < cntR r
    · simp [hc]
    · simp [hc]
  · intro h
    rw [decide_eq_false_iff_not] at h
    rw [if_neg h]
end Go.Proofs.Ytdkffkgoalgjmab
namespace Go.Proofs.Ytdkffkgoalgjmab
open Go.RowKit Go.ChangeShapes Go.WideShapes
set_option linter.unusedVariables false

structure Five (w : World) (b : Nat) (x0 x1 x2 x3 x4 : Value) : Prop where
  row : w.heap[b]? = some (.cells #[x0, x1, x2, x3, x4] 76 (0, 0))
theorem Five.lt {w : World} {b : Nat} {x0 x1 x2 x3 x4 : Value} (h : Five w b x0 x1 x2 x3 x4) : b < w.heap.size := row_ltI h.row
theorem Five.step {w w' : World} {b : Nat} {x0 x1 x2 x3 x4 : Value} (h : Five w b x0 x1 x2 x3 x4) (hb : Below w.heap.size w w') : Five w' b x0 x1 x2 x3 x4 := ⟨(hb.block b h.lt).trans h.row⟩
theorem Five.keep {w w' : World} {b : Nat} {x0 x1 x2 x3 x4 : Value} (h : Five w b x0 x1 x2 x3 x4) (hb : w'.heap[b]? = w.heap[b]?) : Five w' b x0 x1 x2 x3 x4 := ⟨hb.trans h.row⟩
theorem Five.new (w : World) (x0 x1 x2 x3 x4 : Value) (b : Nat) (hb : b = w.heap.size) : Five (w.alloc (.cells #[x0, x1, x2, x3, x4] 76)) b x0 x1 x2 x3 x4 := ⟨alloc_row' _ _ _ _ hb⟩
theorem Five.c0 {w : World} {b : Nat} {x0 x1 x2 x3 x4 : Value} (h : Five w b x0 x1 x2 x3 x4) : w.cell? ⟨b, 0, none⟩ = some x0 := by rw [row_cellI h.row]; rfl
theorem Five.c1 {w : World} {b : Nat} {x0 x1 x2 x3 x4 : Value} (h : Five w b x0 x1 x2 x3 x4) : w.cell? ⟨b, 1, none⟩ = some x1 := by rw [row_cellI h.row]; rfl
theorem Five.c2 {w : World} {b : Nat} {x0 x1 x2 x3 x4 : Value} (h : Five w b x0 x1 x2 x3 x4) : w.cell? ⟨b, 2, none⟩ = some x2 := by rw [row_cellI h.row]; rfl
theorem Five.c3 {w : World} {b : Nat} {x0 x1 x2 x3 x4 : Value} (h : Five w b x0 x1 x2 x3 x4) : w.cell? ⟨b, 3, none⟩ = some x3 := by rw [row_cellI h.row]; rfl
theorem Five.c4 {w : World} {b : Nat} {x0 x1 x2 x3 x4 : Value} (h : Five w b x0 x1 x2 x3 x4) : w.cell? ⟨b, 4, none⟩ = some x4 := by rw [row_cellI h.row]; rfl
theorem Five.f {w : World} {b : Nat} {x0 x1 x2 x3 x4 : Value} (h : Five w b x0 x1 x2 x3 x4) (i : Nat) : w.frozen? ⟨b, i, none⟩ = false := row_freeI h.row i
theorem Five.far {w : World} {b g : Nat} {x0 x1 x2 x3 x4 : Value} (h : Five w b x0 x1 x2 x3 x4) (hne : b ≠ g) (i : Nat) (u : Value) : Five (w.setCell ⟨g, i, none⟩ u) b x0 x1 x2 x3 x4 := ⟨(Below.heap_setCell w ⟨g, i, none⟩ u b hne).trans h.row⟩
theorem Five.set4 {w : World} {b : Nat} {x0 x1 x2 x3 x4 : Value} (h : Five w b x0 x1 x2 x3 x4) (u : Value) : Five (w.setCell ⟨b, 4, none⟩ u) b x0 x1 x2 x3 u := ⟨by simpa using row_setI h.row 4 u⟩
def set5 (w : World) (b : Nat) (y0 y1 y2 y3 y4 : Value) : World := ((((w.setCell ⟨b, 0, none⟩ y0).setCell ⟨b, 1, none⟩ y1).setCell ⟨b, 2, none⟩ y2).setCell ⟨b, 3, none⟩ y3).setCell ⟨b, 4, none⟩ y4
theorem Five.set {w : World} {b : Nat} {x0 x1 x2 x3 x4 : Value} (h : Five w b x0 x1 x2 x3 x4) (y0 y1 y2 y3 y4 : Value) : Five (set5 w b y0 y1 y2 y3 y4) b y0 y1 y2 y3 y4 := ⟨by
  have h1 := row_setI (row_setI (row_setI (row_setI (row_setI h.row 0 y0) 1 y1) 2 y2) 3 y3) 4 y4
  simpa [set5] using h1⟩
theorem below_set5 {B g : Nat} {a w : World} (h : Below B a w) (hg : B ≤ g) (y0 y1 y2 y3 y4 : Value) : Below B a (set5 w g y0 y1 y2 y3 y4) := below_set (below_set (below_set (below_set (below_set h hg _ _) hg _ _) hg _ _) hg _ _) hg _ _
theorem block_set5 {b g : Nat} {w : World} (hne : b ≠ g) (y0 y1 y2 y3 y4 : Value) : (set5 w g y0 y1 y2 y3 y4).heap[b]? = w.heap[b]? := by
  unfold set5
  rw [Below.heap_setCell _ ⟨g, 4, none⟩ _ b hne, Below.heap_setCell _ ⟨g, 3, none⟩ _ b hne, Below.heap_setCell _ ⟨g, 2, none⟩ _ b hne, Below.heap_setCell _ ⟨g, 1, none⟩ _ b hne, Below.heap_setCell _ ⟨g, 0, none⟩ _ b hne]
structure LaidP (w wa : World) (p0 p1 p2 p3 p4 x y z : Value) : Prop where
  t1 : Five wa w.heap.size p0 p1 p2 p3 p4
  t2 : Three wa (w.heap.size + 1) x y z
  t3 : Five wa (w.heap.size + 1 + 1) (.int .i64 0) (.int .i64 0) (.int .i64 0) (.int .i64 0) (.int .i64 0)
  bel : Below w.heap.size w wa
theorem LaidP.new (w : World) (p0 p1 p2 p3 p4 x y z : Value) :
    LaidP w (((w.alloc (.cells #[p0, p1, p2, p3, p4] 76)).alloc (.cells #[x, y, z] 66)).alloc (.cells #[.int .i64 0, .int .i64 0, .int .i64 0, .int .i64 0, .int .i64 0] 76)) p0 p1 p2 p3 p4 x y z := by
  have B1 := (Below.refl w.heap.size w).alloc (Nat.le_refl _) (.cells #[p0, p1, p2, p3, p4] 76)
  have T1 := Five.new w p0 p1 p2 p3 p4 w.heap.size rfl
  have B2 := B1.alloc B1.size (.cells #[x, y, z] 66)
  have T2 := Three.new (w.alloc (.cells #[p0, p1, p2, p3, p4] 76)) x y z (w.heap.size + 1) (by simp)
  have S1 := (Below.refl _ (w.alloc (.cells #[p0, p1, p2, p3, p4] 76))).alloc (Nat.le_refl _) (.cells #[x, y, z] 66)
  have S2 := (Below.refl _ ((w.alloc (.cells #[p0, p1, p2, p3, p4] 76)).alloc (.cells #[x, y, z] 66))).alloc (Nat.le_refl _) (.cells #[.int .i64 0, .int .i64 0, .int .i64 0, .int .i64 0, .int .i64 0] 76)
  exact ⟨(T1.step S1).step S2, T2.step S2, Five.new _ _ _ _ _ _ _ (by simp), B2.alloc B2.size _⟩
set_option maxRecDepth 100000 in
set_option maxHeartbeats 4000000 in
theorem orSplit_int (nd f0 f1 f2 mn x y z v : Int) (w : World) (hn : 0 ≤ nd ∧ nd ≤ 20) (hm : 0 ≤ mn ∧ mn ≤ 1000) (hv : 0 ≤ v ∧ v ≤ 20) (R : Value)
    (hR : R = if mn = 0 ∨ v < nd then .agg #[.int .i64 v, .int .i64 x, .int .i64 y, .int .i64 z, .int .i64 1] else if v = nd then .agg #[.int .i64 nd, .int .i64 f0, .int .i64 f1, .int .i64 f2, .int .i64 (mn + 1)] else .agg #[.int .i64 nd, .int .i64 f0, .int .i64 f1, .int .i64 f2, .int .i64 mn]) :
    Calls Try.prog 130 #[.agg #[.int .i64 nd, .int .i64 f0, .int .i64 f1, .int .i64 f2, .int .i64 mn], .agg #[.int .i64 x, .int .i64 y, .int .i64 z], .int .i64 v] w fun e w' => e = .returned R ∧ Below w.heap.size w w' := by
  have HL := Lib.hid (LaidP.new w (.int .i64 nd) (.int .i64 f0) (.int .i64 f1) (.int .i64 f2) (.int .i64 mn) (.int .i64 x) (.int .i64 y) (.int .i64 z))
  have HR := Lib.hid hR
  clear hR
  go_enter Try.func130, Try.ntmps130
  go_upto_region 1 with fail
  generalize ((w.alloc (.cells #[.int .i64 nd, .int .i64 f0, .int .i64 f1, .int .i64 f2, .int .i64 mn] 76)).alloc (.cells #[.int .i64 x, .int .i64 y, .int .i64 z] 66)).alloc (.cells #[.int .i64 0, .int .i64 0, .int .i64 0, .int .i64 0, .int .i64 0] 76) = wa at HL ⊢
  have p0 := HL.out.t1.c0
  have p1 := HL.out.t1.c1
  have p2 := HL.out.t1.c2
  have p3 := HL.out.t1.c3
  have p4 := HL.out.t1.c4
  have q0 := HL.out.t2.c0
  have q1 := HL.out.t2.c1
  have q2 := HL.out.t2.c2
  have r0 := HL.out.t3.c0
  have r1 := HL.out.t3.c1
  have r2 := HL.out.t3.c2
  have r3 := HL.out.t3.c3
  have r4 := HL.out.t3.c4
  have g0 := HL.out.t3.f 0
  have g1 := HL.out.t3.f 1
  have g2 := HL.out.t3.f 2
  have g3 := HL.out.t3.f 3
  have g4 := HL.out.t3.f 4
  by_cases h0 : mn = 0
  · have E : Hid (R = .agg #[.int .i64 v, .int .i64 x, .int .i64 y, .int .i64 z, .int .i64 1]) := Lib.hid (by rw [HR.out, if_pos (.inl h0)])
    go_wp2
    have HF := HL.out.t3.set (.int .i64 v) (.int .i64 x) (.int .i64 y) (.int .i64 z) (.int .i64 1)
    have HBf := below_set5 HL.out.bel (Nat.le_trans (Nat.le_succ _) (Nat.le_succ _) : w.heap.size ≤ w.heap.size + 1 + 1) (.int .i64 v) (.int .i64 x) (.int .i64 y) (.int .i64 z) (.int .i64 1)
    unfold set5 at HF HBf
    generalize (((((wa.setCell ⟨w.heap.size + 1 + 1, 0, none⟩ (.int .i64 v)).setCell ⟨w.heap.size + 1 + 1, 1, none⟩ (.int .i64 x)).setCell ⟨w.heap.size + 1 + 1, 2, none⟩ (.int .i64 y)).setCell ⟨w.heap.size + 1 + 1, 3, none⟩ (.int .i64 z)).setCell ⟨w.heap.size + 1 + 1, 4, none⟩ (.int .i64 1)) = wf at HF HBf ⊢
    have e0 := HF.c0
    have e1 := HF.c1
    have e2 := HF.c2
    have e3 := HF.c3
    have e4 := HF.c4
    refine bodyPost_ret (v := .agg #[.int .i64 v, .int .i64 x, .int .i64 y, .int .i64 z, .int .i64 1]) (by simp [results, go_sem, e0, e1, e2, e3, e4]) rfl ?_
    exact ⟨by rw [E.out], HBf⟩
  · by_cases h1 : v < nd
    · have E : Hid (R = .agg #[.int .i64 v, .int .i64 x, .int .i64 y, .int .i64 z, .int .i64 1]) := Lib.hid (by rw [HR.out, if_pos (.inr h1)])
      go_wp2
      have HF := HL.out.t3.set (.int .i64 v) (.int .i64 x) (.int .i64 y) (.int .i64 z) (.int .i64 1)
      have HBf := below_set5 HL.out.bel (Nat.le_trans (Nat.le_succ _) (Nat.le_succ _) : w.heap.size ≤ w.heap.size + 1 + 1) (.int .i64 v) (.int .i64 x) (.int .i64 y) (.int .i64 z) (.int .i64 1)
      unfold set5 at HF HBf
      generalize (((((wa.setCell ⟨w.heap.size + 1 + 1, 0, none⟩ (.int .i64 v)).setCell ⟨w.heap.size + 1 + 1, 1, none⟩ (.int .i64 x)).setCell ⟨w.heap.size + 1 + 1, 2, none⟩ (.int .i64 y)).setCell ⟨w.heap.size + 1 + 1, 3, none⟩ (.int .i64 z)).setCell ⟨w.heap.size + 1 + 1, 4, none⟩ (.int .i64 1)) = wf at HF HBf ⊢
      have e0 := HF.c0
      have e1 := HF.c1
      have e2 := HF.c2
      have e3 := HF.c3
      have e4 := HF.c4
      refine bodyPost_ret (v := .agg #[.int .i64 v, .int .i64 x, .int .i64 y, .int .i64 z, .int .i64 1]) (by simp [results, go_sem, e0, e1, e2, e3, e4]) rfl ?_
      exact ⟨by rw [E.out], HBf⟩
    · by_cases h2 : v = nd
      · have E : Hid (R = .agg #[.int .i64 nd, .int .i64 f0, .int .i64 f1, .int .i64 f2, .int .i64 (mn + 1)]) := Lib.hid (by rw [HR.out, if_neg (by omega), if_pos h2])
        have gm := HL.out.t1.f 4
        have HS1 := Lib.hid (HL.out.t1.set4 (.int .i64 (mn + 1)))
        have HS3 := Lib.hid (HL.out.t3.far (b := w.heap.size + 1 + 1) (g := w.heap.size) (by omega) 4 (.int .i64 (mn + 1)))
        have HSB := Lib.hid (below_set HL.out.bel (Nat.le_refl _) 4 (.int .i64 (mn + 1)))
        have s0 := HS1.out.c0
        have s1 := HS1.out.c1
        have s2 := HS1.out.c2
        have s3 := HS1.out.c3
        have s4 := HS1.out.c4
        have t0 := HS3.out.c0
        have t1 := HS3.out.c1
        have t2 := HS3.out.c2
        have t3 := HS3.out.c3
        have t4 := HS3.out.c4
        have u0 := HS3.out.f 0
        have u1 := HS3.out.f 1
        have u2 := HS3.out.f 2
        have u3 := HS3.out.f 3
        have u4 := HS3.out.f 4
        go_wp2
        have HF := HS3.out.set (.int .i64 nd) (.int .i64 f0) (.int .i64 f1) (.int .i64 f2) (.int .i64 (mn + 1))
        have HBf := below_set5 HSB.out (Nat.le_trans (Nat.le_succ _) (Nat.le_succ _) : w.heap.size ≤ w.heap.size + 1 + 1) (.int .i64 nd) (.int .i64 f0) (.int .i64 f1) (.int .i64 f2) (.int .i64 (mn + 1))
        unfold set5 at HF HBf
        generalize ((((((wa.setCell ⟨w.heap.size, 4, none⟩ (.int .i64 (mn + 1))).setCell ⟨w.heap.size + 1 + 1, 0, none⟩ (.int .i64 nd)).setCell ⟨w.heap.size + 1 + 1, 1, none⟩ (.int .i64 f0)).setCell ⟨w.heap.size + 1 + 1, 2, none⟩ (.int .i64 f1)).setCell ⟨w.heap.size + 1 + 1, 3, none⟩ (.int .i64 f2)).setCell ⟨w.heap.size + 1 + 1, 4, none⟩ (.int .i64 (mn + 1))) = wf at HF HBf ⊢
        have e0 := HF.c0
        have e1 := HF.c1
        have e2 := HF.c2
        have e3 := HF.c3
        have e4 := HF.c4
        refine bodyPost_ret (v := .agg #[.int .i64 nd, .int .i64 f0, .int .i64 f1, .int .i64 f2, .int .i64 (mn + 1)]) (by simp [results, go_sem, e0, e1, e2, e3, e4]) rfl ?_
        exact ⟨by rw [E.out], HBf⟩
      · have E : Hid (R = .agg #[.int .i64 nd, .int .i64 f0, .int .i64 f1, .int .i64 f2, .int .i64 mn]) := Lib.hid (by rw [HR.out, if_neg (by omega), if_neg h2])
        go_wp2
        have HF := HL.out.t3.set (.int .i64 nd) (.int .i64 f0) (.int .i64 f1) (.int .i64 f2) (.int .i64 mn)
        have HBf := below_set5 HL.out.bel (Nat.le_trans (Nat.le_succ _) (Nat.le_succ _) : w.heap.size ≤ w.heap.size + 1 + 1) (.int .i64 nd) (.int .i64 f0) (.int .i64 f1) (.int .i64 f2) (.int .i64 mn)
        unfold set5 at HF HBf
        generalize (((((wa.setCell ⟨w.heap.size + 1 + 1, 0, none⟩ (.int .i64 nd)).setCell ⟨w.heap.size + 1 + 1, 1, none⟩ (.int .i64 f0)).setCell ⟨w.heap.size + 1 + 1, 2, none⟩ (.int .i64 f1)).setCell ⟨w.heap.size + 1 + 1, 3, none⟩ (.int .i64 f2)).setCell ⟨w.heap.size + 1 + 1, 4, none⟩ (.int .i64 mn)) = wf at HF HBf ⊢
        have e0 := HF.c0
        have e1 := HF.c1
        have e2 := HF.c2
        have e3 := HF.c3
        have e4 := HF.c4
        refine bodyPost_ret (v := .agg #[.int .i64 nd, .int .i64 f0, .int .i64 f1, .int .i64 f2, .int .i64 mn]) (by simp [results, go_sem, e0, e1, e2, e3, e4]) rfl ?_
        exact ⟨by rw [E.out], HBf⟩
theorem orSplit_any (p : Plan) (s : Row) (v : Nat) (w : World) (hn : p.need ≤ 20) (hm : p.many ≤ 1000) (hv : v ≤ 20) :
    Calls Try.prog 130 #[.agg #[.int .i64 (p.need : Int), .int .i64 (p.first.1 : Int), .int .i64 (p.first.2.1 : Int), .int .i64 (p.first.2.2 : Int), .int .i64 (p.many : Int)], .agg #[.int .i64 (s.1 : Int), .int .i64 (s.2.1 : Int), .int .i64 (s.2.2 : Int)], .int .i64 (v : Int)] w fun e w' =>
      e = .returned (.agg #[.int .i64 ((p.or s v).need : Int), .int .i64 ((p.or s v).first.1 : Int), .int .i64 ((p.or s v).first.2.1 : Int), .int .i64 ((p.or s v).first.2.2 : Int), .int .i64 ((p.or s v).many : Int)]) ∧ Below w.heap.size w w' := by
  refine orSplit_int _ _ _ _ _ _ _ _ _ w (by omega) (by omega) (by omega) _ ?_
  unfold Plan.or
  by_cases h0 : p.many = 0 ∨ v < p.need
  · have hI : (p.many : Int) = 0 ∨ (v : Int) < (p.need : Int) := by omega
    rw [if_pos h0, if_pos hI]
    rfl
  · have hI : ¬ ((p.many : Int) = 0 ∨ (v : Int) < (p.need : Int)) := by omega
    rw [if_neg h0, if_neg hI]
    by_cases h2 : v = p.need
    · have hJ : (v : Int) = (p.need : Int) := by omega
      rw [if_pos h2, if_pos hJ]
      simp
    · have hJ : ¬ ((v : Int) = (p.need : Int)) := by omega
      rw [if_neg h2, if_neg hJ]
end Go.Proofs.Ytdkffkgoalgjmab
namespace Go.Proofs.Ytdkffkgoalgjmab
open Go.RowKit Go.ChangeShapes Go.WideShapes
set_option linter.unusedVariables false

/-- planOf of counts of less than so much. -/
def PlanLess (m : Nat) : Prop := ∀ (r : Row), massR r < m → rsum r ≤ 8 → ∀ (w : World) (M : Nat), PlanM w M →
  Calls Try.prog 108 #[.map (some M), .agg #[.int .i64 (r.1 : Int), .int .i64 (r.2.1 : Int), .int .i64 (r.2.2 : Int)]] w fun e w' => e = .returned (planV (planR r)) ∧ PlanM w' M ∧ Within M (M + 1) w w'
structure SW (w0 : World) (M : Nat) (r s : Row) (W : World) : Prop where
  pm : PlanM W M
  t4 : Three W w0.heap.size (.int .i64 (r.1 : Int)) (.int .i64 (r.2.1 : Int)) (.int .i64 (r.2.2 : Int))
  t5 : Three W (w0.heap.size + 1) (.int .i64 (s.1 : Int)) (.int .i64 (s.2.1 : Int)) (.int .i64 (s.2.2 : Int))
  wi : Within M (M + 1) w0 W
theorem SW.step {w0 W W' : World} {M : Nat} {r s : Row} (h : SW w0 M r s W) (hM : M < w0.heap.size) (hw : Within M (M + 1) W W') (pm : PlanM W' M) : SW w0 M r s W' :=
  ⟨pm, h.t4.within hw (.inr (by omega)), h.t5.within hw (.inr (by omega)), h.wi.trans hw⟩
theorem SW.below {w0 W W' : World} {M : Nat} {r s : Row} (h : SW w0 M r s W) (hM : M < w0.heap.size) (hb : Below W.heap.size W W') : SW w0 M r s W' := h.step hM (Within.of_below hb) (h.pm.step hb)
theorem within_far {lo hi g : Nat} {a w : World} (h : Within lo hi a w) (hg : a.heap.size ≤ g) (i : Nat) (u : Value) : Within lo hi a (w.setCell ⟨g, i, none⟩ u) :=
  ⟨h.os, h.tape, h.output, by simpa [World.setCell] using h.size, fun j hj hn => (Below.heap_setCell w ⟨g, i, none⟩ u j (fun e => by have e' : j = g := e; omega)).trans (h.block j hj hn)⟩
theorem within_far5 {lo hi g : Nat} {a w : World} (h : Within lo hi a w) (hg : a.heap.size ≤ g) (y0 y1 y2 y3 y4 : Value) : Within lo hi a (set5 w g y0 y1 y2 y3 y4) :=
  within_far (within_far (within_far (within_far (within_far h hg _ _) hg _ _) hg _ _) hg _ _) hg _ _
theorem SW.far {w0 W : World} {M g : Nat} {r s : Row} (h : SW w0 M r s W) (hM : M < w0.heap.size) (hg : w0.heap.size + 1 < g) (y0 y1 y2 y3 y4 : Value) : SW w0 M r s (set5 W g y0 y1 y2 y3 y4) :=
  ⟨h.pm.heap (block_set5 (by omega) _ _ _ _ _), ⟨(block_set5 (by omega) _ _ _ _ _).trans h.t4.row⟩, ⟨(block_set5 (by omega) _ _ _ _ _).trans h.t5.row⟩, within_far5 h.wi (by omega) _ _ _ _ _⟩
theorem Five.within {w w' : World} {b lo hi : Nat} {x0 x1 x2 x3 x4 : Value} (h : Five w b x0 x1 x2 x3 x4) (hb : Within lo hi w w') (hd : b < lo ∨ hi ≤ b) : Five w' b x0 x1 x2 x3 x4 := ⟨(hb.block b h.lt hd).trans h.row⟩
theorem Five.far5 {w : World} {b g : Nat} {x0 x1 x2 x3 x4 : Value} (h : Five w b x0 x1 x2 x3 x4) (hne : b ≠ g) (y0 y1 y2 y3 y4 : Value) : Five (set5 w g y0 y1 y2 y3 y4) b x0 x1 x2 x3 x4 := ⟨(block_set5 hne _ _ _ _ _).trans h.row⟩
theorem field_need (x0 x1 x2 x3 x4 : Int) (w : World) : (Instr.field 76 (.agg #[.int .i64 x0, .int .i64 x1, .int .i64 x2, .int .i64 x3, .int .i64 x4]) 0).run Try.prog w = .ok (.int .i64 x0) w := by kernel_rfl
set_option maxRecDepth 100000 in
set_option maxHeartbeats 4000000 in
theorem needOf_of (m : Nat) (HP : PlanLess m) (r : Row) (w : World) (M : Nat) (hr : massR r < m) (h8 : rsum r ≤ 8) (hpm : PlanM w M) :
    Calls Try.prog 60 #[.map (some M), .agg #[.int .i64 (r.1 : Int), .int .i64 (r.2.1 : Int), .int .i64 (r.2.2 : Int)]] w fun e w' => e = .returned (.int .i64 ((needR r : Nat) : Int)) ∧ PlanM w' M ∧ Within M (M + 1) w w' := by
  have HPl := Lib.hid (fun W h => HP r hr h8 W M h)
  have HNe := Lib.hid (plan_need h8)
  have B1 := (Below.refl w.heap.size w).alloc (Nat.le_refl _) (.cells #[.int .i64 (r.1 : Int), .int .i64 (r.2.1 : Int), .int .i64 (r.2.2 : Int)] 66)
  have HT := Lib.hid (Three.new w (.int .i64 (r.1 : Int)) (.int .i64 (r.2.1 : Int)) (.int .i64 (r.2.2 : Int)) w.heap.size rfl)
  have HM := Lib.hid (hpm.step B1)
  have HW := Lib.hid (Within.of_below B1 : Within M (M + 1) w _)
  have hfd := field_need
  clear B1 hpm HP
  go_enter Try.func60, Try.ntmps60
  have h0 := HT.out.c0
  have h1 := HT.out.c1
  have h2 := HT.out.c2
  go_wp2_with fail
  generalize w.alloc (.cells #[.int .i64 (r.1 : Int), .int .i64 (r.2.1 : Int), .int .i64 (r.2.2 : Int)] 66) = wa at HT HM HW h0 h1 h2 ⊢
  refine (HPl.out wa HM.out).mono ?_
  rintro e w2 ⟨rfl, hpm2, hw2⟩
  have HM2 := Lib.hid hpm2
  have HW2 := Lib.hid (HW.out.trans hw2)
  clear hpm2 hw2 h0 h1 h2
  simp only [planV]
  rw [HNe.out]
  go_wp2
  go_ret
  exact ⟨rfl, HM2.out, HW2.out⟩
def sAct (n M : Nat) (r s : Row) (v7 v8 v9 v10 v11 v12 v13 v14 v15 v16 v17 v18 v6 : Value) : Act :=
  { tmps := #[.map (some M), rowV r, rowV s, undef, .pointer (some ⟨n, 0, none⟩), .pointer (some ⟨n + 1, 0, none⟩), v6, v7, v8, v9, v10, v11, v12, v13, v14, v15, v16, v17, v18], defers := [] }
structure SInv (w0 : World) (M : Nat) (r s : Row) (ny nn x y : Nat) (D : Nat → Bool) (v7 v8 v9 v10 v11 v12 v13 v14 v15 v16 v17 v18 v6 : Value) (W : World) : Prop where
  sw : SW w0 M r s W
  s7 : D 0 = true → v7 = .map (some M)
  s8 : D 1 = true → v8 = rowV r
  s9 : D 2 = true → v9 = rowV s
  s10 : D 3 = true → v10 = rowV (yesR r s)
  s11 : D 4 = true → v11 = .int .i64 (ny : Int)
  s12 : D 5 = true → v12 = .map (some M)
  s13 : D 6 = true → v13 = rowV r
  s14 : D 7 = true → v14 = rowV s
  s15 : D 8 = true → v15 = rowV (noR r s)
  s16 : D 9 = true → v16 = .int .i64 (nn : Int)
  s17 : D 10 = true → v17 = .int .i64 (x : Int)
  s18 : D 11 = true → v18 = .int .i64 (y : Int)
  s6 : D 12 = true → v6 = .int .i64 (y : Int)
set_option maxRecDepth 100000 in
set_option maxHeartbeats 8000000 in
theorem splitNeed_of (m : Nat) (HP : PlanLess m) (r s : Row) (w : World) (M : Nat) (h8 : rsum r ≤ 8) (hf : Fits s r) (hy : massR (yesR r s) < m) (hn : massR (noR r s) < m) (hpm : PlanM w M) :
    Calls Try.prog 69 #[.map (some M), .agg #[.int .i64 (r.1 : Int), .int .i64 (r.2.1 : Int), .int .i64 (r.2.2 : Int)], .agg #[.int .i64 (s.1 : Int), .int .i64 (s.2.1 : Int), .int .i64 (s.2.2 : Int)]] w fun e w' => e = .returned (.int .i64 ((valR r s : Nat) : Int)) ∧ PlanM w' M ∧ Within M (M + 1) w w' := by
  have hM := hpm.lt
  have h8s := yes_sum h8 hf
  have B1 := (Below.refl w.heap.size w).alloc (Nat.le_refl _) (.cells #[.int .i64 (r.1 : Int), .int .i64 (r.2.1 : Int), .int .i64 (r.2.2 : Int)] 66)
  have T1 := Three.new w (.int .i64 (r.1 : Int)) (.int .i64 (r.2.1 : Int)) (.int .i64 (r.2.2 : Int)) w.heap.size rfl
  have HB := Lib.hid (B1.alloc B1.size (.cells #[.int .i64 (s.1 : Int), .int .i64 (s.2.1 : Int), .int .i64 (s.2.2 : Int)] 66))
  have HT2 := Lib.hid (Three.new (w.alloc (.cells #[.int .i64 (r.1 : Int), .int .i64 (r.2.1 : Int), .int .i64 (r.2.2 : Int)] 66)) (.int .i64 (s.1 : Int)) (.int .i64 (s.2.1 : Int)) (.int .i64 (s.2.2 : Int)) (w.heap.size + 1) (by simp))
  have HT1 := Lib.hid (T1.step ((Below.refl _ (w.alloc (.cells #[.int .i64 (r.1 : Int), .int .i64 (r.2.1 : Int), .int .i64 (r.2.2 : Int)] 66))).alloc (Nat.le_refl _) (.cells #[.int .i64 (s.1 : Int), .int .i64 (s.2.1 : Int), .int .i64 (s.2.2 : Int)] 66)))
  have HCY := Lib.hid (fun W => yesRow_any r s W h8 hf)
  have HCN := Lib.hid (fun W => noRow_any r s W h8 hf)
  have HPY := Lib.hid (fun W h => needOf_of m HP (yesR r s) W M hy h8s.1 h)
  have HPN := Lib.hid (fun W h => needOf_of m HP (noR r s) W M hn h8s.2 h)
  have hny := need_le h8s.1
  have hnn := need_le h8s.2
  have HV : Hid (valR r s = 1 + max (needR (yesR r s)) (needR (noR r s))) := Lib.hid rfl
  have HSW : Hid (SW w M r s ((w.alloc (.cells #[.int .i64 (r.1 : Int), .int .i64 (r.2.1 : Int), .int .i64 (r.2.2 : Int)] 66)).alloc (.cells #[.int .i64 (s.1 : Int), .int .i64 (s.2.1 : Int), .int .i64 (s.2.2 : Int)] 66))) := Lib.hid ⟨hpm.below HB.out hM, HT1.out, HT2.out, Within.of_below HB.out⟩
  generalize valR r s = y at HV ⊢
  generalize needR (yesR r s) = ny at HPY hny HV
  generalize needR (noR r s) = nn at HPN hnn HV
  clear B1 T1 HB HT1 HT2 hpm HP
  obtain ⟨x, hx, hyx, hc⟩ : ∃ x : Nat, x = max ny nn ∧ y = 1 + x ∧ (¬ ny < nn ∧ x = ny ∨ ny < nn ∧ x = nn) := ⟨max ny nn, rfl, HV.out, by omega⟩
  have hwr : (1 + (x : Int)) = (y : Int) := by omega
  have hwy : IntKind.i64.wrap (y : Int) = (y : Int) := IntWalk.i64_in _ (by omega)
  have hmaxI : max (ny : Int) (nn : Int) = (x : Int) := by omega
  clear HV hx hyx
  rcases hc with ⟨hle, rfl⟩ | ⟨hle, rfl⟩
  · go_enter Try.func69, Try.ntmps69
    go_upto_region 1 with fail
    generalize (w.alloc (.cells #[.int .i64 (r.1 : Int), .int .i64 (r.2.1 : Int), .int .i64 (r.2.2 : Int)] 66)).alloc (.cells #[.int .i64 (s.1 : Int), .int .i64 (s.2.1 : Int), .int .i64 (s.2.2 : Int)] 66) = wa at HSW ⊢
    refine wp_region_noPanic ?_
    refine wp_region_inv (by kernel_rfl) (by kernel_rfl) (fun D A W => ∃ v7 v8 v9 v10 v11 v12 v13 v14 v15 v16 v17 v18 v6, A = sAct w.heap.size M r s v7 v8 v9 v10 v11 v12 v13 v14 v15 v16 v17 v18 v6 ∧ SInv w M r s x nn x y D v7 v8 v9 v10 v11 v12 v13 v14 v15 v16 v17 v18 v6 W) ?h0 ?hs ?hd
    case h0 => exact ⟨undef, undef, undef, undef, undef, undef, undef, undef, undef, undef, undef, undef, .int .i64 0, rfl, ⟨HSW.out.below hM (Below.refl _ wa).drew, nofun, nofun, nofun, nofun, nofun, nofun, nofun, nofun, nofun, nofun, nofun, nofun, nofun⟩⟩
    case hs =>
      rintro D _ W ⟨v7, v8, v9, v10, v11, v12, v13, v14, v15, v16, v17, v18, v6, rfl, hI⟩ i o ho hD hA K hK
      have hi : i < 13 := (Array.getElem?_eq_some_iff.1 ho).1
      have HI := Lib.hid hI
      have HK := Lib.hid hK
      clear hI hK
      obtain rfl | rfl | rfl | rfl | rfl | rfl | rfl | rfl | rfl | rfl | rfl | rfl | rfl : i = 0 ∨ i = 1 ∨ i = 2 ∨ i = 3 ∨ i = 4 ∨ i = 5 ∨ i = 6 ∨ i = 7 ∨ i = 8 ∨ i = 9 ∨ i = 10 ∨ i = 11 ∨ i = 12 := by omega
      all_goals (obtain rfl := Option.some.inj ho; clear ho hi; simp [Region.binds] at hA; unfold sAct)
      · skip
        go_simp
        exact HK.out _ _ ⟨_, _, _, _, _, _, _, _, _, _, _, _, _, rfl, ⟨(HI.out.sw), (fun _ => rfl), (by first | exact fun _ => rfl | simpa using HI.out.s8), (by first | exact fun _ => rfl | simpa using HI.out.s9), (by first | exact fun _ => rfl | simpa using HI.out.s10), (by first | exact fun _ => rfl | simpa using HI.out.s11), (by first | exact fun _ => rfl | simpa using HI.out.s12), (by first | exact fun _ => rfl | simpa using HI.out.s13), (by first | exact fun _ => rfl | simpa using HI.out.s14), (by first | exact fun _ => rfl | simpa using HI.out.s15), (by first | exact fun _ => rfl | simpa using HI.out.s16), (by first | exact fun _ => rfl | simpa using HI.out.s17), (by first | exact fun _ => rfl | simpa using HI.out.s18), (by first | exact fun _ => rfl | simpa using HI.out.s6)⟩⟩
      · have h0 := HI.out.sw.t4.c0
        have h1 := HI.out.sw.t4.c1
        have h2 := HI.out.sw.t4.c2
        go_simp
        exact HK.out _ _ ⟨_, _, _, _, _, _, _, _, _, _, _, _, _, rfl, ⟨(HI.out.sw), (by first | exact fun _ => rfl | simpa using HI.out.s7), (fun _ => rfl), (by first | exact fun _ => rfl | simpa using HI.out.s9), (by first | exact fun _ => rfl | simpa using HI.out.s10), (by first | exact fun _ => rfl | simpa using HI.out.s11), (by first | exact fun _ => rfl | simpa using HI.out.s12), (by first | exact fun _ => rfl | simpa using HI.out.s13), (by first | exact fun _ => rfl | simpa using HI.out.s14), (by first | exact fun _ => rfl | simpa using HI.out.s15), (by first | exact fun _ => rfl | simpa using HI.out.s16), (by first | exact fun _ => rfl | simpa using HI.out.s17), (by first | exact fun _ => rfl | simpa using HI.out.s18), (by first | exact fun _ => rfl | simpa using HI.out.s6)⟩⟩
      · have h0 := HI.out.sw.t5.c0
        have h1 := HI.out.sw.t5.c1
        have h2 := HI.out.sw.t5.c2
        go_simp
        exact HK.out _ _ ⟨_, _, _, _, _, _, _, _, _, _, _, _, _, rfl, ⟨(HI.out.sw), (by first | exact fun _ => rfl | simpa using HI.out.s7), (by first | exact fun _ => rfl | simpa using HI.out.s8), (fun _ => rfl), (by first | exact fun _ => rfl | simpa using HI.out.s10), (by first | exact fun _ => rfl | simpa using HI.out.s11), (by first | exact fun _ => rfl | simpa using HI.out.s12), (by first | exact fun _ => rfl | simpa using HI.out.s13), (by first | exact fun _ => rfl | simpa using HI.out.s14), (by first | exact fun _ => rfl | simpa using HI.out.s15), (by first | exact fun _ => rfl | simpa using HI.out.s16), (by first | exact fun _ => rfl | simpa using HI.out.s17), (by first | exact fun _ => rfl | simpa using HI.out.s18), (by first | exact fun _ => rfl | simpa using HI.out.s6)⟩⟩
      · obtain rfl := HI.out.s8 (by simp_all)
        obtain rfl := HI.out.s9 (by simp_all)
        simp only [rowV]
        go_simp
        refine (HCY.out W).mono ?_
        rintro e w1 ⟨rfl, hb1⟩
        skip
        exact HK.out _ _ ⟨_, _, _, _, _, _, _, _, _, _, _, _, _, rfl, ⟨(HI.out.sw.below hM hb1), (by first | exact fun _ => rfl | simpa using HI.out.s7), (by first | exact fun _ => rfl | simpa using HI.out.s8), (by first | exact fun _ => rfl | simpa using HI.out.s9), (fun _ => rfl), (by first | exact fun _ => rfl | simpa using HI.out.s11), (by first | exact fun _ => rfl | simpa using HI.out.s12), (by first | exact fun _ => rfl | simpa using HI.out.s13), (by first | exact fun _ => rfl | simpa using HI.out.s14), (by first | exact fun _ => rfl | simpa using HI.out.s15), (by first | exact fun _ => rfl | simpa using HI.out.s16), (by first | exact fun _ => rfl | simpa using HI.out.s17), (by first | exact fun _ => rfl | simpa using HI.out.s18), (by first | exact fun _ => rfl | simpa using HI.out.s6)⟩⟩
      · obtain rfl := HI.out.s7 (by simp_all)
        obtain rfl := HI.out.s10 (by simp_all)
        simp only [rowV]
        go_simp
        refine (HPY.out W HI.out.sw.pm).mono ?_
        rintro e w1 ⟨rfl, hpm1, hw1⟩
        skip
        exact HK.out _ _ ⟨_, _, _, _, _, _, _, _, _, _, _, _, _, rfl, ⟨(HI.out.sw.step hM hw1 hpm1), (by first | exact fun _ => rfl | simpa using HI.out.s7), (by first | exact fun _ => rfl | simpa using HI.out.s8), (by first | exact fun _ => rfl | simpa using HI.out.s9), (by first | exact fun _ => rfl | simpa using HI.out.s10), (fun _ => rfl), (by first | exact fun _ => rfl | simpa using HI.out.s12), (by first | exact fun _ => rfl | simpa using HI.out.s13), (by first | exact fun _ => rfl | simpa using HI.out.s14), (by first | exact fun _ => rfl | simpa using HI.out.s15), (by first | exact fun _ => rfl | simpa using HI.out.s16), (by first | exact fun _ => rfl | simpa using HI.out.s17), (by first | exact fun _ => rfl | simpa using HI.out.s18), (by first | exact fun _ => rfl | simpa using HI.out.s6)⟩⟩
      · skip
        go_simp
        exact HK.out _ _ ⟨_, _, _, _, _, _, _, _, _, _, _, _, _, rfl, ⟨(HI.out.sw), (by first | exact fun _ => rfl | simpa using HI.out.s7), (by first | exact fun _ => rfl | simpa using HI.out.s8), (by first | exact fun _ => rfl | simpa using HI.out.s9), (by first | exact fun _ => rfl | simpa using HI.out.s10), (by first | exact fun _ => rfl | simpa using HI.out.s11), (fun _ => rfl), (by first | exact fun _ => rfl | simpa using HI.out.s13), (by first | exact fun _ => rfl | simpa using HI.out.s14), (by first | exact fun _ => rfl | simpa using HI.out.s15), (by first | exact fun _ => rfl | simpa using HI.out.s16), (by first | exact fun _ => rfl | simpa using HI.out.s17), (by first | exact fun _ => rfl | simpa using HI.out.s18), (by first | exact fun _ => rfl | simpa using HI.out.s6)⟩⟩
      · have h0 := HI.out.sw.t4.c0
        have h1 := HI.out.sw.t4.c1
        have h2 := HI.out.sw.t4.c2
        go_simp
        exact HK.out _ _ ⟨_, _, _, _, _, _, _, _, _, _, _, _, _, rfl, ⟨(HI.out.sw), (by first | exact fun _ => rfl | simpa using HI.out.s7), (by first | exact fun _ => rfl | simpa using HI.out.s8), (by first | exact fun _ => rfl | simpa using HI.out.s9), (by first | exact fun _ => rfl | simpa using HI.out.s10), (by first | exact fun _ => rfl | simpa using HI.out.s11), (by first | exact fun _ => rfl | simpa using HI.out.s12), (fun _ => rfl), (by first | exact fun _ => rfl | simpa using HI.out.s14), (by first | exact fun _ => rfl | simpa using HI.out.s15), (by first | exact fun _ => rfl | simpa using HI.out.s16), (by first | exact fun _ => rfl | simpa using HI.out.s17), (by first | exact fun _ => rfl | simpa using HI.out.s18), (by first | exact fun _ => rfl | simpa using HI.out.s6)⟩⟩
      · have h0 := HI.out.sw.t5.c0
        have h1 := HI.out.sw.t5.c1
        have h2 := HI.out.sw.t5.c2
        go_simp
        exact HK.out _ _ ⟨_, _, _, _, _, _, _, _, _, _, _, _, _, rfl, ⟨(HI.out.sw), (by first | exact fun _ => rfl | simpa using HI.out.s7), (by first | exact fun _ => rfl | simpa using HI.out.s8), (by first | exact fun _ => rfl | simpa using HI.out.s9), (by first | exact fun _ => rfl | simpa using HI.out.s10), (by first | exact fun _ => rfl | simpa using HI.out.s11), (by first | exact fun _ => rfl | simpa using HI.out.s12), (by first | exact fun _ => rfl | simpa using HI.out.s13), (fun _ => rfl), (by first | exact fun _ => rfl | simpa using HI.out.s15), (by first | exact fun _ => rfl | simpa using HI.out.s16), (by first | exact fun _ => rfl | simpa using HI.out.s17), (by first | exact fun _ => rfl | simpa using HI.out.s18), (by first | exact fun _ => rfl | simpa using HI.out.s6)⟩⟩
      · obtain rfl := HI.out.s13 (by simp_all)
        obtain rfl := HI.out.s14 (by simp_all)
        simp only [rowV]
        go_simp
        refine (HCN.out W).mono ?_
        rintro e w1 ⟨rfl, hb1⟩
        skip
        exact HK.out _ _ ⟨_, _, _, _, _, _, _, _, _, _, _, _, _, rfl, ⟨(HI.out.sw.below hM hb1), (by first | exact fun _ => rfl | simpa using HI.out.s7), (by first | exact fun _ => rfl | simpa using HI.out.s8), (by first | exact fun _ => rfl | simpa using HI.out.s9), (by first | exact fun _ => rfl | simpa using HI.out.s10), (by first | exact fun _ => rfl | simpa using HI.out.s11), (by first | exact fun _ => rfl | simpa using HI.out.s12), (by first | exact fun _ => rfl | simpa using HI.out.s13), (by first | exact fun _ => rfl | simpa using HI.out.s14), (fun _ => rfl), (by first | exact fun _ => rfl | simpa using HI.out.s16), (by first | exact fun _ => rfl | simpa using HI.out.s17), (by first | exact fun _ => rfl | simpa using HI.out.s18), (by first | exact fun _ => rfl | simpa using HI.out.s6)⟩⟩
      · obtain rfl := HI.out.s12 (by simp_all)
        obtain rfl := HI.out.s15 (by simp_all)
        simp only [rowV]
        go_simp
        refine (HPN.out W HI.out.sw.pm).mono ?_
        rintro e w1 ⟨rfl, hpm1, hw1⟩
        skip
        exact HK.out _ _ ⟨_, _, _, _, _, _, _, _, _, _, _, _, _, rfl, ⟨(HI.out.sw.step hM hw1 hpm1), (by first | exact fun _ => rfl | simpa using HI.out.s7), (by first | exact fun _ => rfl | simpa using HI.out.s8), (by first | exact fun _ => rfl | simpa using HI.out.s9), (by first | exact fun _ => rfl | simpa using HI.out.s10), (by first | exact fun _ => rfl | simpa using HI.out.s11), (by first | exact fun _ => rfl | simpa using HI.out.s12), (by first | exact fun _ => rfl | simpa using HI.out.s13), (by first | exact fun _ => rfl | simpa using HI.out.s14), (by first | exact fun _ => rfl | simpa using HI.out.s15), (fun _ => rfl), (by first | exact fun _ => rfl | simpa using HI.out.s17), (by first | exact fun _ => rfl | simpa using HI.out.s18), (by first | exact fun _ => rfl | simpa using HI.out.s6)⟩⟩
      · obtain rfl := HI.out.s11 (by simp_all)
        obtain rfl := HI.out.s16 (by simp_all)
        go_simp
        try simp only [if_neg hle]
        skip
        exact HK.out _ _ ⟨_, _, _, _, _, _, _, _, _, _, _, _, _, rfl, ⟨(HI.out.sw), (by first | exact fun _ => rfl | simpa using HI.out.s7), (by first | exact fun _ => rfl | simpa using HI.out.s8), (by first | exact fun _ => rfl | simpa using HI.out.s9), (by first | exact fun _ => rfl | simpa using HI.out.s10), (by first | exact fun _ => rfl | simpa using HI.out.s11), (by first | exact fun _ => rfl | simpa using HI.out.s12), (by first | exact fun _ => rfl | simpa using HI.out.s13), (by first | exact fun _ => rfl | simpa using HI.out.s14), (by first | exact fun _ => rfl | simpa using HI.out.s15), (by first | exact fun _ => rfl | simpa using HI.out.s16), (fun _ => rfl), (by first | exact fun _ => rfl | simpa using HI.out.s18), (by first | exact fun _ => rfl | simpa using HI.out.s6)⟩⟩
      · obtain rfl := HI.out.s17 (by simp_all)
        go_simp
        skip
        exact HK.out _ _ ⟨_, _, _, _, _, _, _, _, _, _, _, _, _, rfl, ⟨(HI.out.sw), (by first | exact fun _ => rfl | simpa using HI.out.s7), (by first | exact fun _ => rfl | simpa using HI.out.s8), (by first | exact fun _ => rfl | simpa using HI.out.s9), (by first | exact fun _ => rfl | simpa using HI.out.s10), (by first | exact fun _ => rfl | simpa using HI.out.s11), (by first | exact fun _ => rfl | simpa using HI.out.s12), (by first | exact fun _ => rfl | simpa using HI.out.s13), (by first | exact fun _ => rfl | simpa using HI.out.s14), (by first | exact fun _ => rfl | simpa using HI.out.s15), (by first | exact fun _ => rfl | simpa using HI.out.s16), (by first | exact fun _ => rfl | simpa using HI.out.s17), (fun _ => rfl), (by first | exact fun _ => rfl | simpa using HI.out.s6)⟩⟩
      · obtain rfl := HI.out.s18 (by simp_all)
        go_simp
        skip
        exact HK.out _ _ ⟨_, _, _, _, _, _, _, _, _, _, _, _, _, rfl, ⟨(HI.out.sw), (by first | exact fun _ => rfl | simpa using HI.out.s7), (by first | exact fun _ => rfl | simpa using HI.out.s8), (by first | exact fun _ => rfl | simpa using HI.out.s9), (by first | exact fun _ => rfl | simpa using HI.out.s10), (by first | exact fun _ => rfl | simpa using HI.out.s11), (by first | exact fun _ => rfl | simpa using HI.out.s12), (by first | exact fun _ => rfl | simpa using HI.out.s13), (by first | exact fun _ => rfl | simpa using HI.out.s14), (by first | exact fun _ => rfl | simpa using HI.out.s15), (by first | exact fun _ => rfl | simpa using HI.out.s16), (by first | exact fun _ => rfl | simpa using HI.out.s17), (by first | exact fun _ => rfl | simpa using HI.out.s18), (fun _ => rfl)⟩⟩
    case hd =>
      rintro D _ W ⟨v7, v8, v9, v10, v11, v12, v13, v14, v15, v16, v17, v18, v6, rfl, hI⟩ hall
      have hall : ∀ i, i < 13 → D i = true := hall
      obtain rfl := hI.s6 (hall 12 (by omega))
      have HS := Lib.hid hI.sw
      clear hI hall
      simp only [sAct, rowV]
      refine NoPanic.normal ?_
      go_wp2
      go_ret
      exact ⟨rfl, HS.out.pm, HS.out.wi⟩
  · go_enter Try.func69, Try.ntmps69
    go_upto_region 1 with fail
    generalize (w.alloc (.cells #[.int .i64 (r.1 : Int), .int .i64 (r.2.1 : Int), .int .i64 (r.2.2 : Int)] 66)).alloc (.cells #[.int .i64 (s.1 : Int), .int .i64 (s.2.1 : Int), .int .i64 (s.2.2 : Int)] 66) = wa at HSW ⊢
    refine wp_region_noPanic ?_
    refine wp_region_inv (by kernel_rfl) (by kernel_rfl) (fun D A W => ∃ v7 v8 v9 v10 v11 v12 v13 v14 v15 v16 v17 v18 v6, A = sAct w.heap.size M r s v7 v8 v9 v10 v11 v12 v13 v14 v15 v16 v17 v18 v6 ∧ SInv w M r s ny x x y D v7 v8 v9 v10 v11 v12 v13 v14 v15 v16 v17 v18 v6 W) ?h0 ?hs ?hd
    case h0 => exact ⟨undef, undef, undef, undef, undef, undef, undef, undef, undef, undef, undef, undef, .int .i64 0, rfl, ⟨HSW.out.below hM (Below.refl _ wa).drew, nofun, nofun, nofun, nofun, nofun, nofun, nofun, nofun, nofun, nofun, nofun, nofun, nofun⟩⟩
    case hs =>
      rintro D _ W ⟨v7, v8, v9, v10, v11, v12, v13, v14, v15, v16, v17, v18, v6, rfl, hI⟩ i o ho hD hA K hK
      have hi : i < 13 := (Array.getElem?_eq_some_iff.1 ho).1
      have HI := Lib.hid hI
      have HK := Lib.hid hK
      clear hI hK
      obtain rfl | rfl | rfl | rfl | rfl | rfl | rfl | rfl | rfl | rfl | rfl | rfl | rfl : i = 0 ∨ i = 1 ∨ i = 2 ∨ i = 3 ∨ i = 4 ∨ i = 5 ∨ i = 6 ∨ i = 7 ∨ i = 8 ∨ i = 9 ∨ i = 10 ∨ i = 11 ∨ i = 12 := by omega
      all_goals (obtain rfl := Option.some.inj ho; clear ho hi; simp [Region.binds] at hA; unfold sAct)
      · skip
        go_simp
        exact HK.out _ _ ⟨_, _, _, _, _, _, _, _, _, _, _, _, _, rfl, ⟨(HI.out.sw), (fun _ => rfl), (by first | exact fun _ => rfl | simpa using HI.out.s8), (by first | exact fun _ => rfl | simpa using HI.out.s9), (by first | exact fun _ => rfl | simpa using HI.out.s10), (by first | exact fun _ => rfl | simpa using HI.out.s11), (by first | exact fun _ => rfl | simpa using HI.out.s12), (by first | exact fun _ => rfl | simpa using HI.out.s13), (by first | exact fun _ => rfl | simpa using HI.out.s14), (by first | exact fun _ => rfl | simpa using HI.out.s15), (by first | exact fun _ => rfl | simpa using HI.out.s16), (by first | exact fun _ => rfl | simpa using HI.out.s17), (by first | exact fun _ => rfl | simpa using HI.out.s18), (by first | exact fun _ => rfl | simpa using HI.out.s6)⟩⟩
      · have h0 := HI.out.sw.t4.c0
        have h1 := HI.out.sw.t4.c1
        have h2 := HI.out.sw.t4.c2
        go_simp
        exact HK.out _ _ ⟨_, _, _, _, _, _, _, _, _, _, _, _, _, rfl, ⟨(HI.out.sw), (by first | exact fun _ => rfl | simpa using HI.out.s7), (fun _ => rfl), (by first | exact fun _ => rfl | simpa using HI.out.s9), (by first | exact fun _ => rfl | simpa using HI.out.s10), (by first | exact fun _ => rfl | simpa using HI.out.s11), (by first | exact fun _ => rfl | simpa using HI.out.s12), (by first | exact fun _ => rfl | simpa using HI.out.s13), (by first | exact fun _ => rfl | simpa using HI.out.s14), (by first | exact fun _ => rfl | simpa using HI.out.s15), (by first | exact fun _ => rfl | simpa using HI.out.s16), (by first | exact fun _ => rfl | simpa using HI.out.s17), (by first | exact fun _ => rfl | simpa using HI.out.s18), (by first | exact fun _ => rfl | simpa using HI.out.s6)⟩⟩
      · have h0 := HI.out.sw.t5.c0
        have h1 := HI.out.sw.t5.c1
        have h2 := HI.out.sw.t5.c2
        go_simp
        exact HK.out _ _ ⟨_, _, _, _, _, _, _, _, _, _, _, _, _, rfl, ⟨(HI.out.sw), (by first | exact fun _ => rfl | simpa using HI.out.s7), (by first | exact fun _ => rfl | simpa using HI.out.s8), (fun _ => rfl), (by first | exact fun _ => rfl | simpa using HI.out.s10), (by first | exact fun _ => rfl | simpa using HI.out.s11), (by first | exact fun _ => rfl | simpa using HI.out.s12), (by first | exact fun _ => rfl | simpa using HI.out.s13), (by first | exact fun _ => rfl | simpa using HI.out.s14), (by first | exact fun _ => rfl | simpa using HI.out.s15), (by first | exact fun _ => rfl | simpa using HI.out.s16), (by first | exact fun _ => rfl | simpa using HI.out.s17), (by first | exact fun _ => rfl | simpa using HI.out.s18), (by first | exact fun _ => rfl | simpa using HI.out.s6)⟩⟩
      · obtain rfl := HI.out.s8 (by simp_all)
        obtain rfl := HI.out.s9 (by simp_all)
        simp only [rowV]
        go_simp
        refine (HCY.out W).mono ?_
        rintro e w1 ⟨rfl, hb1⟩
        skip
        exact HK.out _ _ ⟨_, _, _, _, _, _, _, _, _, _, _, _, _, rfl, ⟨(HI.out.sw.below hM hb1), (by first | exact fun _ => rfl | simpa using HI.out.s7), (by first | exact fun _ => rfl | simpa using HI.out.s8), (by first | exact fun _ => rfl | simpa using HI.out.s9), (fun _ => rfl), (by first | exact fun _ => rfl | simpa using HI.out.s11), (by first | exact fun _ => rfl | simpa using HI.out.s12), (by first | exact fun _ => rfl | simpa using HI.out.s13), (by first | exact fun _ => rfl | simpa using HI.out.s14), (by first | exact fun _ => rfl | simpa using HI.out.s15), (by first | exact fun _ => rfl | simpa using HI.out.s16), (by first | exact fun _ => rfl | simpa using HI.out.s17), (by first | exact fun _ => rfl | simpa using HI.out.s18), (by first | exact fun _ => rfl | simpa using HI.out.s6)⟩⟩
      · obtain rfl := HI.out.s7 (by simp_all)
        obtain rfl := HI.out.s10 (by simp_all)
        simp only [rowV]
        go_simp
        refine (HPY.out W HI.out.sw.pm).mono ?_
        rintro e w1 ⟨rfl, hpm1, hw1⟩
        skip
        exact HK.out _ _ ⟨_, _, _, _, _, _, _, _, _, _, _, _, _, rfl, ⟨(HI.out.sw.step hM hw1 hpm1), (by first | exact fun _ => rfl | simpa using HI.out.s7), (by first | exact fun _ => rfl | simpa using HI.out.s8), (by first | exact fun _ => rfl | simpa using HI.out.s9), (by first | exact fun _ => rfl | simpa using HI.out.s10), (fun _ => rfl), (by first | exact fun _ => rfl | simpa using HI.out.s12), (by first | exact fun _ => rfl | simpa using HI.out.s13), (by first | exact fun _ => rfl | simpa using HI.out.s14), (by first | exact fun _ => rfl | simpa using HI.out.s15), (by first | exact fun _ => rfl | simpa using HI.out.s16), (by first | exact fun _ => rfl | simpa using HI.out.s17), (by first | exact fun _ => rfl | simpa using HI.out.s18), (by first | exact fun _ => rfl | simpa using HI.out.s6)⟩⟩
      · skip
        go_simp
        exact HK.out _ _ ⟨_, _, _, _, _, _, _, _, _, _, _, _, _, rfl, ⟨(HI.out.sw), (by first | exact fun _ => rfl | simpa using HI.out.s7), (by first | exact fun _ => rfl | simpa using HI.out.s8), (by first | exact fun _ => rfl | simpa using HI.out.s9), (by first | exact fun _ => rfl | simpa using HI.out.s10), (by first | exact fun _ => rfl | simpa using HI.out.s11), (fun _ => rfl), (by first | exact fun _ => rfl | simpa using HI.out.s13), (by first | exact fun _ => rfl | simpa using HI.out.s14), (by first | exact fun _ => rfl | simpa using HI.out.s15), (by first | exact fun _ => rfl | simpa using HI.out.s16), (by first | exact fun _ => rfl | simpa using HI.out.s17), (by first | exact fun _ => rfl | simpa using HI.out.s18), (by first | exact fun _ => rfl | simpa using HI.out.s6)⟩⟩
      · have h0 := HI.out.sw.t4.c0
        have h1 := HI.out.sw.t4.c1
        have h2 := HI.out.sw.t4.c2
        go_simp
        exact HK.out _ _ ⟨_, _, _, _, _, _, _, _, _, _, _, _, _, rfl, ⟨(HI.out.sw), (by first | exact fun _ => rfl | simpa using HI.out.s7), (by first | exact fun _ => rfl | simpa using HI.out.s8), (by first | exact fun _ => rfl | simpa using HI.out.s9), (by first | exact fun _ => rfl | simpa using HI.out.s10), (by first | exact fun _ => rfl | simpa using HI.out.s11), (by first | exact fun _ => rfl | simpa using HI.out.s12), (fun _ => rfl), (by first | exact fun _ => rfl | simpa using HI.out.s14), (by first | exact fun _ => rfl | simpa using HI.out.s15), (by first | exact fun _ => rfl | simpa using HI.out.s16), (by first | exact fun _ => rfl | simpa using HI.out.s17), (by first | exact fun _ => rfl | simpa using HI.out.s18), (by first | exact fun _ => rfl | simpa using HI.out.s6)⟩⟩
      · have h0 := HI.out.sw.t5.c0
        have h1 := HI.out.sw.t5.c1
        have h2 := HI.out.sw.t5.c2
        go_simp
        exact HK.out _ _ ⟨_, _, _, _, _, _, _, _, _, _, _, _, _, rfl, ⟨(HI.out.sw), (by first | exact fun _ => rfl | simpa using HI.out.s7), (by first | exact fun _ => rfl | simpa using HI.out.s8), (by first | exact fun _ => rfl | simpa using HI.out.s9), (by first | exact fun _ => rfl | simpa using HI.out.s10), (by first | exact fun _ => rfl | simpa using HI.out.s11), (by first | exact fun _ => rfl | simpa using HI.out.s12), (by first | exact fun _ => rfl | simpa using HI.out.s13), (fun _ => rfl), (by first | exact fun _ => rfl | simpa using HI.out.s15), (by first | exact fun _ => rfl | simpa using HI.out.s16), (by first | exact fun _ => rfl | simpa using HI.out.s17), (by first | exact fun _ => rfl | simpa using HI.out.s18), (by first | exact fun _ => rfl | simpa using HI.out.s6)⟩⟩
      · obtain rfl := HI.out.s13 (by simp_all)
        obtain rfl := HI.out.s14 (by simp_all)
        simp only [rowV]
        go_simp
        refine (HCN.out W).mono ?_
        rintro e w1 ⟨rfl, hb1⟩
        skip
        exact HK.out _ _ ⟨_, _, _, _, _, _, _, _, _, _, _, _, _, rfl, ⟨(HI.out.sw.below hM hb1), (by first | exact fun _ => rfl | simpa using HI.out.s7), (by first | exact fun _ => rfl | simpa using HI.out.s8), (by first | exact fun _ => rfl | simpa using HI.out.s9), (by first | exact fun _ => rfl | simpa using HI.out.s10), (by first | exact fun _ => rfl | simpa using HI.out.s11), (by first | exact fun _ => rfl | simpa using HI.out.s12), (by first | exact fun _ => rfl | simpa using HI.out.s13), (by first | exact fun _ => rfl | simpa using HI.out.s14), (fun _ => rfl), (by first | exact fun _ => rfl | simpa using HI.out.s16), (by first | exact fun _ => rfl | simpa using HI.out.s17), (by first | exact fun _ => rfl | simpa using HI.out.s18), (by first | exact fun _ => rfl | simpa using HI.out.s6)⟩⟩
      · obtain rfl := HI.out.s12 (by simp_all)
        obtain rfl := HI.out.s15 (by simp_all)
        simp only [rowV]
        go_simp
        refine (HPN.out W HI.out.sw.pm).mono ?_
        rintro e w1 ⟨rfl, hpm1, hw1⟩
        skip
        exact HK.out _ _ ⟨_, _, _, _, _, _, _, _, _, _, _, _, _, rfl, ⟨(HI.out.sw.step hM hw1 hpm1), (by first | exact fun _ => rfl | simpa using HI.out.s7), (by first | exact fun _ => rfl | simpa using HI.out.s8), (by first | exact fun _ => rfl | simpa using HI.out.s9), (by first | exact fun _ => rfl | simpa using HI.out.s10), (by first | exact fun _ => rfl | simpa using HI.out.s11), (by first | exact fun _ => rfl | simpa using HI.out.s12), (by first | exact fun _ => rfl | simpa using HI.out.s13), (by first | exact fun _ => rfl | simpa using HI.out.s14), (by first | exact fun _ => rfl | simpa using HI.out.s15), (fun _ => rfl), (by first | exact fun _ => rfl | simpa using HI.out.s17), (by first | exact fun _ => rfl | simpa using HI.out.s18), (by first | exact fun _ => rfl | simpa using HI.out.s6)⟩⟩
      · obtain rfl := HI.out.s11 (by simp_all)
        obtain rfl := HI.out.s16 (by simp_all)
        go_simp
        try simp only [if_neg hle]
        skip
        exact HK.out _ _ ⟨_, _, _, _, _, _, _, _, _, _, _, _, _, rfl, ⟨(HI.out.sw), (by first | exact fun _ => rfl | simpa using HI.out.s7), (by first | exact fun _ => rfl | simpa using HI.out.s8), (by first | exact fun _ => rfl | simpa using HI.out.s9), (by first | exact fun _ => rfl | simpa using HI.out.s10), (by first | exact fun _ => rfl | simpa using HI.out.s11), (by first | exact fun _ => rfl | simpa using HI.out.s12), (by first | exact fun _ => rfl | simpa using HI.out.s13), (by first | exact fun _ => rfl | simpa using HI.out.s14), (by first | exact fun _ => rfl | simpa using HI.out.s15), (by first | exact fun _ => rfl | simpa using HI.out.s16), (fun _ => rfl), (by first | exact fun _ => rfl | simpa using HI.out.s18), (by first | exact fun _ => rfl | simpa using HI.out.s6)⟩⟩
      · obtain rfl := HI.out.s17 (by simp_all)
        go_simp
        skip
        exact HK.out _ _ ⟨_, _, _, _, _, _, _, _, _, _, _, _, _, rfl, ⟨(HI.out.sw), (by first | exact fun _ => rfl | simpa using HI.out.s7), (by first | exact fun _ => rfl | simpa using HI.out.s8), (by first | exact fun _ => rfl | simpa using HI.out.s9), (by first | exact fun _ => rfl | simpa using HI.out.s10), (by first | exact fun _ => rfl | simpa using HI.out.s11), (by first | exact fun _ => rfl | simpa using HI.out.s12), (by first | exact fun _ => rfl | simpa using HI.out.s13), (by first | exact fun _ => rfl | simpa using HI.out.s14), (by first | exact fun _ => rfl | simpa using HI.out.s15), (by first | exact fun _ => rfl | simpa using HI.out.s16), (by first | exact fun _ => rfl | simpa using HI.out.s17), (fun _ => rfl), (by first | exact fun _ => rfl | simpa using HI.out.s6)⟩⟩
      · obtain rfl := HI.out.s18 (by simp_all)
        go_simp
        skip
        exact HK.out _ _ ⟨_, _, _, _, _, _, _, _, _, _, _, _, _, rfl, ⟨(HI.out.sw), (by first | exact fun _ => rfl | simpa using HI.out.s7), (by first | exact fun _ => rfl | simpa using HI.out.s8), (by first | exact fun _ => rfl | simpa using HI.out.s9), (by first | exact fun _ => rfl | simpa using HI.out.s10), (by first | exact fun _ => rfl | simpa using HI.out.s11), (by first | exact fun _ => rfl | simpa using HI.out.s12), (by first | exact fun _ => rfl | simpa using HI.out.s13), (by first | exact fun _ => rfl | simpa using HI.out.s14), (by first | exact fun _ => rfl | simpa using HI.out.s15), (by first | exact fun _ => rfl | simpa using HI.out.s16), (by first | exact fun _ => rfl | simpa using HI.out.s17), (by first | exact fun _ => rfl | simpa using HI.out.s18), (fun _ => rfl)⟩⟩
    case hd =>
      rintro D _ W ⟨v7, v8, v9, v10, v11, v12, v13, v14, v15, v16, v17, v18, v6, rfl, hI⟩ hall
      have hall : ∀ i, i < 13 → D i = true := hall
      obtain rfl := hI.s6 (hall 12 (by omega))
      have HS := Lib.hid hI.sw
      clear hI hall
      simp only [sAct, rowV]
      refine NoPanic.normal ?_
      go_wp2
      go_ret
      exact ⟨rfl, HS.out.pm, HS.out.wi⟩
end Go.Proofs.Ytdkffkgoalgjmab
namespace Go.Proofs.Ytdkffkgoalgjmab
open Go.RowKit Go.ChangeShapes Go.WideShapes Go.Maps
set_option linter.unusedVariables false

theorem planF_bd {r : Row} (h8 : rsum r ≤ 8) {i : Nat} (hi : i ≤ cntR r) : (planF r i).need ≤ 20 ∧ (planF r i).many ≤ 100 := by
  have : allR (fun r => (List.range (cntR r + 1)).all fun i => decide ((planF r i).need ≤ 20) && decide ((planF r i).many ≤ 100)) = true := by decide +kernel
  have := allR_at this h8
  simp only [List.all_eq_true, List.mem_range, Bool.and_eq_true, decide_eq_true_eq] at this
  exact this i (by omega)
theorem cnt_bd {r : Row} (h8 : rsum r ≤ 8) : cntR r ≤ 100 ∧ 0 < cntR r := by
  have : allR (fun r => decide (cntR r ≤ 100) && decide (0 < cntR r)) = true := by decide +kernel
  have := allR_at this h8
  simp only [Bool.and_eq_true, decide_eq_true_eq] at this
  exact this
/-- The split at hand: none behind the last. -/
def atR (r : Row) (i : Nat) : Row := if i < cntR r then splitR r i else (0, 0, 0)
theorem atR_zero {r : Row} : atR r 0 = (0, 0, 0) := by
  unfold atR
  split
  · simp [splitR]
  · rfl
/-- What the walk of the splits stands on. -/
structure LW (w0 : World) (M b7 b8 : Nat) (r s : Row) (p : Plan) (W : World) : Prop where
  pm : PlanM W M
  t3 : Three W w0.heap.size (.int .i64 (r.1 : Int)) (.int .i64 (r.2.1 : Int)) (.int .i64 (r.2.2 : Int))
  t4 : Five W (w0.heap.size + 1) (.int .i64 0) (.int .i64 0) (.int .i64 0) (.int .i64 0) (.int .i64 0)
  t7 : Five W b7 (.int .i64 (p.need : Int)) (.int .i64 (p.first.1 : Int)) (.int .i64 (p.first.2.1 : Int)) (.int .i64 (p.first.2.2 : Int)) (.int .i64 (p.many : Int))
  t8 : Three W b8 (.int .i64 (s.1 : Int)) (.int .i64 (s.2.1 : Int)) (.int .i64 (s.2.2 : Int))
  wi : Within M (M + 1) w0 W
theorem LW.step {w0 W W' : World} {M b7 b8 : Nat} {r s : Row} {p : Plan} (h : LW w0 M b7 b8 r s p W) (hM : M < w0.heap.size) (h7 : w0.heap.size + 1 < b7) (h8 : w0.heap.size + 1 < b8) (hw : Within M (M + 1) W W') (pm : PlanM W' M) : LW w0 M b7 b8 r s p W' :=
  ⟨pm, h.t3.within hw (.inr (by omega)), h.t4.within hw (.inr (by omega)), h.t7.within hw (.inr (by omega)), h.t8.within hw (.inr (by omega)), h.wi.trans hw⟩
theorem LW.below {w0 W W' : World} {M b7 b8 : Nat} {r s : Row} {p : Plan} (h : LW w0 M b7 b8 r s p W) (hM : M < w0.heap.size) (h7 : w0.heap.size + 1 < b7) (h8 : w0.heap.size + 1 < b8) (hb : Below W.heap.size W W') : LW w0 M b7 b8 r s p W' :=
  h.step hM h7 h8 (Within.of_below hb) (h.pm.step hb)
theorem Three.far5 {w : World} {b g : Nat} {x y z : Value} (h : Three w b x y z) (hne : b ≠ g) (y0 y1 y2 y3 y4 : Value) : Three (set5 w g y0 y1 y2 y3 y4) b x y z := ⟨(block_set5 hne _ _ _ _ _).trans h.row⟩
theorem LW.set7 {w0 W : World} {M b7 b8 : Nat} {r s : Row} {p : Plan} (h : LW w0 M b7 b8 r s p W) (hM : M < w0.heap.size) (h7 : w0.heap.size + 1 < b7) (h78 : b8 ≠ b7) (q : Plan) : LW w0 M b7 b8 r s q (set5 W b7 (.int .i64 (q.need : Int)) (.int .i64 (q.first.1 : Int)) (.int .i64 (q.first.2.1 : Int)) (.int .i64 (q.first.2.2 : Int)) (.int .i64 (q.many : Int))) :=
  ⟨h.pm.heap (block_set5 (by omega) _ _ _ _ _), h.t3.far5 (by omega) _ _ _ _ _, h.t4.far5 (by omega) _ _ _ _ _, h.t7.set _ _ _ _ _, h.t8.far5 h78 _ _ _ _ _, within_far5 h.wi (by omega) _ _ _ _ _⟩
theorem LW.new8 {w0 W : World} {M b7 b8 : Nat} {r s : Row} {p : Plan} (h : LW w0 M b7 b8 r s p W) (t : Row) : LW w0 M b7 W.heap.size r t p (W.alloc (.cells #[.int .i64 (t.1 : Int), .int .i64 (t.2.1 : Int), .int .i64 (t.2.2 : Int)] 66)) := by
  have hA := (Below.refl _ W).alloc (Nat.le_refl _) (.cells #[.int .i64 (t.1 : Int), .int .i64 (t.2.1 : Int), .int .i64 (t.2.2 : Int)] 66)
  exact ⟨h.pm.step hA, h.t3.step hA, h.t4.step hA, h.t7.step hA, Three.new W (.int .i64 (t.1 : Int)) (.int .i64 (t.2.1 : Int)) (.int .i64 (t.2.2 : Int)) W.heap.size rfl, h.wi.trans (Within.of_below hA)⟩
theorem LW.set8 {w0 W : World} {M b7 b8 : Nat} {r s : Row} {p : Plan} (h : LW w0 M b7 b8 r s p W) (hM : M < w0.heap.size) (h8 : w0.heap.size + 1 < b8) (h78 : b8 ≠ b7) (x y z : Value) (t : Row) (hx : x = .int .i64 (t.1 : Int)) (hy : y = .int .i64 (t.2.1 : Int)) (hz : z = .int .i64 (t.2.2 : Int)) : LW w0 M b7 b8 r t p (((W.setCell ⟨b8, 0, none⟩ x).setCell ⟨b8, 1, none⟩ y).setCell ⟨b8, 2, none⟩ z) := by
  subst hx hy hz
  have hk : ∀ b, b ≠ b8 → (((W.setCell ⟨b8, 0, none⟩ (.int .i64 (t.1 : Int))).setCell ⟨b8, 1, none⟩ (.int .i64 (t.2.1 : Int))).setCell ⟨b8, 2, none⟩ (.int .i64 (t.2.2 : Int))).heap[b]? = W.heap[b]? := fun b hb => by
    rw [Below.heap_setCell _ ⟨b8, 2, none⟩ _ b hb, Below.heap_setCell _ ⟨b8, 1, none⟩ _ b hb, Below.heap_setCell _ ⟨b8, 0, none⟩ _ b hb]
  exact ⟨h.pm.heap (hk _ (by omega)), ⟨(hk _ (by omega)).trans h.t3.row⟩, h.t4.keep (hk _ (by omega)), h.t7.keep (hk _ (fun e => h78 e.symm)), h.t8.set _ _ _, within_far (within_far (within_far h.wi (by omega) _ _) (by omega) _ _) (by omega) _ _⟩
theorem LW.S {w0 W : World} {M b7 b8 : Nat} {r s : Row} {p : Plan} (h : LW w0 M b7 b8 r s p W) :
    W.cell? ⟨w0.heap.size, 0, none⟩ = some (.int .i64 (r.1 : Int)) ∧ W.cell? ⟨w0.heap.size, 1, none⟩ = some (.int .i64 (r.2.1 : Int)) ∧ W.cell? ⟨w0.heap.size, 2, none⟩ = some (.int .i64 (r.2.2 : Int)) ∧
    W.cell? ⟨b8, 0, none⟩ = some (.int .i64 (s.1 : Int)) ∧ W.cell? ⟨b8, 1, none⟩ = some (.int .i64 (s.2.1 : Int)) ∧ W.cell? ⟨b8, 2, none⟩ = some (.int .i64 (s.2.2 : Int)) ∧
    W.cell? ⟨b7, 0, none⟩ = some (.int .i64 (p.need : Int)) ∧ W.cell? ⟨b7, 1, none⟩ = some (.int .i64 (p.first.1 : Int)) ∧ W.cell? ⟨b7, 2, none⟩ = some (.int .i64 (p.first.2.1 : Int)) ∧ W.cell? ⟨b7, 3, none⟩ = some (.int .i64 (p.first.2.2 : Int)) ∧ W.cell? ⟨b7, 4, none⟩ = some (.int .i64 (p.many : Int)) :=
  ⟨h.t3.c0, h.t3.c1, h.t3.c2, h.t8.c0, h.t8.c1, h.t8.c2, h.t7.c0, h.t7.c1, h.t7.c2, h.t7.c3, h.t7.c4⟩
theorem splitAfter_at (r : Row) (i : Nat) (W : World) (h8 : rsum r ≤ 8) (hi : i < cntR r) :
    Calls Try.prog 129 #[.agg #[.int .i64 (r.1 : Int), .int .i64 (r.2.1 : Int), .int .i64 (r.2.2 : Int)], .agg #[.int .i64 ((splitR r i).1 : Int), .int .i64 ((splitR r i).2.1 : Int), .int .i64 ((splitR r i).2.2 : Int)]] W fun e w' => e = .returned (.tuple #[.agg #[.int .i64 ((atR r (i + 1)).1 : Int), .int .i64 ((atR r (i + 1)).2.1 : Int), .int .i64 ((atR r (i + 1)).2.2 : Int)], .bool (decide (i + 1 < cntR r))]) ∧ Below W.heap.size W w' := splitAfter_any r i W h8 hi
theorem within_put {w w' : World} {M : Nat} (h : w.grownBy w' (some M)) : Within M (M + 1) w w' := ⟨h.os, h.tape, h.output, h.size, fun i hi hd => h.block i hi (fun e => by injection e with e; omega)⟩
theorem planF_back {r : Row} {i : Nat} (h : backR r (splitR r i) = true) : planF r (i + 1) = planF r i := by
  show (if backR r (splitR r i) = true then planF r i else (planF r i).or (splitR r i) (valR r (splitR r i))) = _
  rw [if_pos h]
theorem planF_more {r : Row} {i : Nat} (h : backR r (splitR r i) = false) : planF r (i + 1) = (planF r i).or (splitR r i) (valR r (splitR r i)) := by
  show (if backR r (splitR r i) = true then planF r i else (planF r i).or (splitR r i) (valR r (splitR r i))) = _
  rw [h]; rfl
/-- The slots of planOf's region that draws. -/
def pAct (n b5 M b8 : Nat) (r s : Row) (u23 u24 u25 u26 u27 u28 v33 v34 v35 v36 v37 v38 v39 u40 : Value) : Act :=
  { tmps := #[.map (some M), rowV r, undef, .pointer (some ⟨n, 0, none⟩), .pointer (some ⟨n + 1, 0, none⟩), .pointer (some ⟨b5, 0, none⟩), .bool false, .pointer (some ⟨b5 + 1, 0, none⟩), .pointer (some ⟨b8, 0, none⟩), .bool true, rowV r, .bool false, undef, .tuple #[zeroPlan, .bool false], .map (some M), rowV r, .tuple #[zeroPlan, .bool false], zeroPlan, .bool false, .bool false, undef, .agg #[.int .i64 0, .int .i64 0, .int .i64 0], .bool true, u23, u24, u25, u26, u27, u28, rowV r, rowV s, .bool false, .bool true, v33, v34, v35, v36, v37, v38, v39, u40, undef, undef, undef, undef], defers := [] }
structure PInv (w0 : World) (M b7 b8 : Nat) (r s : Row) (p q : Plan) (vv : Int) (D : Nat → Bool) (v33 v34 v35 v36 v37 v38 v39 : Value) (W : World) : Prop where
  lw : LW w0 M b7 b8 r s (if D 7 = true then q else p) W
  s33 : D 0 = true → v33 = planV p
  s34 : D 1 = true → v34 = rowV s
  s35 : D 2 = true → v35 = .map (some M)
  s36 : D 3 = true → v36 = rowV r
  s37 : D 4 = true → v37 = rowV s
  s38 : D 5 = true → v38 = .int .i64 vv
  s39 : D 6 = true → v39 = planV q
  o7 : D 7 = true → D 0 = true ∧ D 6 = true
set_option maxRecDepth 100000 in
set_option maxHeartbeats 16000000 in
theorem planOf_step (m : Nat) (HP : PlanLess m) (r : Row) (hr : massR r < m + 1) (h8 : rsum r ≤ 8) (w : World) (M : Nat) (hpm : PlanM w M) :
    Calls Try.prog 108 #[.map (some M), .agg #[.int .i64 (r.1 : Int), .int .i64 (r.2.1 : Int), .int .i64 (r.2.2 : Int)]] w fun e w' => e = .returned (planV (planR r)) ∧ PlanM w' M ∧ Within M (M + 1) w w' := by
  have hM := hpm.lt
  have B1 := (Below.refl w.heap.size w).alloc (Nat.le_refl _) (.cells #[.int .i64 (r.1 : Int), .int .i64 (r.2.1 : Int), .int .i64 (r.2.2 : Int)] 66)
  have T1 := Three.new w (.int .i64 (r.1 : Int)) (.int .i64 (r.2.1 : Int)) (.int .i64 (r.2.2 : Int)) w.heap.size rfl
  have B2 := B1.alloc B1.size (.cells #[.int .i64 0, .int .i64 0, .int .i64 0, .int .i64 0, .int .i64 0] 76)
  have S1 := (Below.refl _ (w.alloc (.cells #[.int .i64 (r.1 : Int), .int .i64 (r.2.1 : Int), .int .i64 (r.2.2 : Int)] 66))).alloc (Nat.le_refl _) (.cells #[.int .i64 0, .int .i64 0, .int .i64 0, .int .i64 0, .int .i64 0] 76)
  have HT3 := Lib.hid (T1.step S1)
  have HT4 := Lib.hid (Five.new (w.alloc (.cells #[.int .i64 (r.1 : Int), .int .i64 (r.2.1 : Int), .int .i64 (r.2.2 : Int)] 66)) (.int .i64 0) (.int .i64 0) (.int .i64 0) (.int .i64 0) (.int .i64 0) (w.heap.size + 1) (by simp))
  have HPM := Lib.hid (hpm.below B2 hM)
  have HWI := Lib.hid (Within.of_below B2 : Within M (M + 1) w _)
  have HC := Lib.hid (fun W => isTold_any r W h8)
  clear B1 T1 B2 S1 hpm
  go_enter Try.func108, Try.ntmps108
  go_upto_region 1 with fail
  generalize (w.alloc (.cells #[.int .i64 (r.1 : Int), .int .i64 (r.2.1 : Int), .int .i64 (r.2.2 : Int)] 66)).alloc (.cells #[.int .i64 0, .int .i64 0, .int .i64 0, .int .i64 0, .int .i64 0] 76) = wa at HT3 HT4 HPM HWI ⊢
  have q0 := HT3.out.c0
  have q1 := HT3.out.c1
  have q2 := HT3.out.c2
  go_wp2_with fail
  refine (HC.out wa).mono ?_
  rintro e w1 ⟨rfl, hb1⟩
  replace HT3 := Lib.hid (HT3.out.step hb1)
  replace HT4 := Lib.hid (HT4.out.step hb1)
  replace HPM := Lib.hid (HPM.out.step hb1)
  replace HWI := Lib.hid (HWI.out.trans (Within.of_below hb1))
  clear hb1 HC q0 q1 q2
  by_cases hT : rsum r ≤ 1
  · have E := Lib.hid (plan_told hT)
    rw [decide_eq_true hT]
    have c0 := HT4.out.c0
    have f0 := HT4.out.f 0
    have c1 := HT4.out.c1
    have f1 := HT4.out.f 1
    have c2 := HT4.out.c2
    have f2 := HT4.out.f 2
    have c3 := HT4.out.c3
    have f3 := HT4.out.f 3
    have c4 := HT4.out.c4
    have f4 := HT4.out.f 4
    go_wp2
    have HF := HT4.out.set (.int .i64 0) (.int .i64 0) (.int .i64 0) (.int .i64 0) (.int .i64 0)
    have HPf : PlanM (set5 w1 (w.heap.size + 1) (.int .i64 0) (.int .i64 0) (.int .i64 0) (.int .i64 0) (.int .i64 0)) M := HPM.out.heap (block_set5 (by omega) _ _ _ _ _)
    have HWf := within_far5 HWI.out (Nat.le_succ w.heap.size) (.int .i64 0) (.int .i64 0) (.int .i64 0) (.int .i64 0) (.int .i64 0)
    unfold set5 at HF HPf HWf
    generalize (((((w1.setCell ⟨w.heap.size + 1, 0, none⟩ (.int .i64 0)).setCell ⟨w.heap.size + 1, 1, none⟩ (.int .i64 0)).setCell ⟨w.heap.size + 1, 2, none⟩ (.int .i64 0)).setCell ⟨w.heap.size + 1, 3, none⟩ (.int .i64 0)).setCell ⟨w.heap.size + 1, 4, none⟩ (.int .i64 0)) = wf at HF HPf HWf ⊢
    have e0 := HF.c0
    have e1 := HF.c1
    have e2 := HF.c2
    have e3 := HF.c3
    have e4 := HF.c4
    refine bodyPost_ret (v := .agg #[.int .i64 0, .int .i64 0, .int .i64 0, .int .i64 0, .int .i64 0]) (by simp [results, go_sem, e0, e1, e2, e3, e4]) rfl ?_
    exact ⟨by rw [E.out]; rfl, HPf, HWf⟩
  · rw [decide_eq_false hT]
    obtain ⟨D, hD⟩ := HPM.out
    have HD := Lib.hid hD
    have q0 := HT3.out.c0
    have q1 := HT3.out.c1
    have q2 := HT3.out.c2
    rcases hD.look h8 with ⟨hh, hrun⟩ | ⟨hh, hrun⟩
    · simp only [planV] at hrun
      have S1 := (Below.refl _ w1).alloc (Nat.le_refl _) (.cells #[.int .i64 ((planR r).need : Int), .int .i64 ((planR r).first.1 : Int), .int .i64 ((planR r).first.2.1 : Int), .int .i64 ((planR r).first.2.2 : Int), .int .i64 ((planR r).many : Int)] 76)
      have HU4 := Lib.hid (HT4.out.step S1)
      have HPf0 := Lib.hid (HPM.out.step S1)
      have HWf0 := Lib.hid (HWI.out.trans (Within.of_below S1))
      have c0 := HU4.out.c0
      have f0 := HU4.out.f 0
      have c1 := HU4.out.c1
      have f1 := HU4.out.f 1
      have c2 := HU4.out.c2
      have f2 := HU4.out.f 2
      have c3 := HU4.out.c3
      have f3 := HU4.out.f 3
      have c4 := HU4.out.c4
      have f4 := HU4.out.f 4
      clear hD S1
      go_wp2
      have HF := HU4.out.set (.int .i64 ((planR r).need : Int)) (.int .i64 ((planR r).first.1 : Int)) (.int .i64 ((planR r).first.2.1 : Int)) (.int .i64 ((planR r).first.2.2 : Int)) (.int .i64 ((planR r).many : Int))
      have HPf : PlanM (set5 (w1.alloc (.cells #[.int .i64 ((planR r).need : Int), .int .i64 ((planR r).first.1 : Int), .int .i64 ((planR r).first.2.1 : Int), .int .i64 ((planR r).first.2.2 : Int), .int .i64 ((planR r).many : Int)] 76)) (w.heap.size + 1) (.int .i64 ((planR r).need : Int)) (.int .i64 ((planR r).first.1 : Int)) (.int .i64 ((planR r).first.2.1 : Int)) (.int .i64 ((planR r).first.2.2 : Int)) (.int .i64 ((planR r).many : Int))) M := HPf0.out.heap (block_set5 (by omega) _ _ _ _ _)
      have HWf := within_far5 HWf0.out (Nat.le_succ w.heap.size) (.int .i64 ((planR r).need : Int)) (.int .i64 ((planR r).first.1 : Int)) (.int .i64 ((planR r).first.2.1 : Int)) (.int .i64 ((planR r).first.2.2 : Int)) (.int .i64 ((planR r).many : Int))
      unfold set5 at HF HPf HWf
      generalize ((((((w1.alloc (.cells #[.int .i64 ((planR r).need : Int), .int .i64 ((planR r).first.1 : Int), .int .i64 ((planR r).first.2.1 : Int), .int .i64 ((planR r).first.2.2 : Int), .int .i64 ((planR r).many : Int)] 76)).setCell ⟨w.heap.size + 1, 0, none⟩ (.int .i64 ((planR r).need : Int))).setCell ⟨w.heap.size + 1, 1, none⟩ (.int .i64 ((planR r).first.1 : Int))).setCell ⟨w.heap.size + 1, 2, none⟩ (.int .i64 ((planR r).first.2.1 : Int))).setCell ⟨w.heap.size + 1, 3, none⟩ (.int .i64 ((planR r).first.2.2 : Int))).setCell ⟨w.heap.size + 1, 4, none⟩ (.int .i64 ((planR r).many : Int))) = wf at HF HPf HWf ⊢
      have e0 := HF.c0
      have e1 := HF.c1
      have e2 := HF.c2
      have e3 := HF.c3
      have e4 := HF.c4
      refine bodyPost_ret (v := .agg #[.int .i64 ((planR r).need : Int), .int .i64 ((planR r).first.1 : Int), .int .i64 ((planR r).first.2.1 : Int), .int .i64 ((planR r).first.2.2 : Int), .int .i64 ((planR r).many : Int)]) (by simp [results, go_sem, e0, e1, e2, e3, e4]) rfl ?_
      exact ⟨rfl, HPf, HWf⟩
    · simp only [zeroPlan] at hrun
      have htop : w.heap.size + 1 < w1.heap.size := HT4.out.lt
      have HLW0 : Hid (LW w M (w1.heap.size + 1) (w1.heap.size + 1 + 1) r (atR r 0) (planF r 0) (((w1.alloc (.cells #[.int .i64 0, .int .i64 0, .int .i64 0, .int .i64 0, .int .i64 0] 76)).alloc (.cells #[.int .i64 0, .int .i64 0, .int .i64 0, .int .i64 0, .int .i64 0] 76)).alloc (.cells #[.int .i64 0, .int .i64 0, .int .i64 0] 66))) := Lib.hid (by
        have S1 := (Below.refl _ w1).alloc (Nat.le_refl _) (.cells #[.int .i64 0, .int .i64 0, .int .i64 0, .int .i64 0, .int .i64 0] 76)
        have S2 := (Below.refl _ (w1.alloc (.cells #[.int .i64 0, .int .i64 0, .int .i64 0, .int .i64 0, .int .i64 0] 76))).alloc (Nat.le_refl _) (.cells #[.int .i64 0, .int .i64 0, .int .i64 0, .int .i64 0, .int .i64 0] 76)
        have S3 := (Below.refl _ ((w1.alloc (.cells #[.int .i64 0, .int .i64 0, .int .i64 0, .int .i64 0, .int .i64 0] 76)).alloc (.cells #[.int .i64 0, .int .i64 0, .int .i64 0, .int .i64 0, .int .i64 0] 76))).alloc (Nat.le_refl _) (.cells #[.int .i64 0, .int .i64 0, .int .i64 0] 66)
        rw [atR_zero]
        exact ⟨((HPM.out.step S1).step S2).step S3, ((HT3.out.step S1).step S2).step S3, ((HT4.out.step S1).step S2).step S3, (Five.new (w1.alloc (.cells #[.int .i64 0, .int .i64 0, .int .i64 0, .int .i64 0, .int .i64 0] 76)) (.int .i64 0) (.int .i64 0) (.int .i64 0) (.int .i64 0) (.int .i64 0) (w1.heap.size + 1) (by simp)).step S3, Three.new ((w1.alloc (.cells #[.int .i64 0, .int .i64 0, .int .i64 0, .int .i64 0, .int .i64 0] 76)).alloc (.cells #[.int .i64 0, .int .i64 0, .int .i64 0, .int .i64 0, .int .i64 0] 76)) (.int .i64 0) (.int .i64 0) (.int .i64 0) (w1.heap.size + 1 + 1) (by simp), ((HWI.out.trans (Within.of_below S1)).trans (Within.of_below S2)).trans (Within.of_below S3)⟩)
      have hcb := cnt_bd h8
      have HBD := Lib.hid (fun i (h : i ≤ cntR r) => planF_bd h8 h)
      have HF := Lib.hid (fun i (h : i < cntR r) => split_fits h8 h)
      have HCB := Lib.hid (fun i (h : i < cntR r) W => leadsBack_any r (splitR r i) W h8 (split_fits h8 h))
      have HCA := Lib.hid (fun i (h : i < cntR r) W => splitAfter_at r i W h8 h)
      have HCS := Lib.hid (fun i (h : i < cntR r) (hb : backR r (splitR r i) = false) W hp => splitNeed_of m HP r (splitR r i) W M h8 (split_fits h8 h) (by have := (mass_yes (split_fits h8 h) hb).1; omega) (by have := (mass_yes (split_fits h8 h) hb).2; omega) hp)
      have HVB := Lib.hid (fun i (h : i < cntR r) => show valR r (splitR r i) ≤ 20 by
        have h1 := need_le (yes_sum h8 (split_fits h8 h)).1
        have h2 := need_le (yes_sum h8 (split_fits h8 h)).2
        unfold valR
        omega)
      have HE := Lib.hid (plan_asks (r := r) (by omega))
      clear hD HT3 HT4 HPM HWI
      go_wp2_with fail
      clear hrun q0 q1 q2
      generalize ((w1.alloc (.cells #[.int .i64 0, .int .i64 0, .int .i64 0, .int .i64 0, .int .i64 0] 76)).alloc (.cells #[.int .i64 0, .int .i64 0, .int .i64 0, .int .i64 0, .int .i64 0] 76)).alloc (.cells #[.int .i64 0, .int .i64 0, .int .i64 0] 66) = wb at HLW0 ⊢
      go_loopg [8, 9] (cntR r + 1) (fun g p8 ok wr => ∃ (i b8 : Nat), g = cntR r + 1 - i ∧ i ≤ cntR r ∧ p8 = .pointer (some ⟨b8, 0, none⟩) ∧ ok = .bool (decide (i < cntR r)) ∧ w1.heap.size + 1 < b8 ∧ Hid (LW w M (w1.heap.size + 1) b8 r (atR r i) (planF r i) wr))
      case atStart => exact ⟨0, w1.heap.size + 1 + 1, by omega, Nat.zero_le _, rfl, by rw [decide_eq_true hcb.2], by omega, HLW0⟩
      case round =>
        clear HLW0
        obtain ⟨i, b8, hg, hi, rfl, rfl, hb8, HLW⟩ := hrel
        by_cases hlt : i < cntR r
        · have hbd := HBD.out i hi
          have HBi := Lib.hid (HCB.out i hlt)
          have HCAi := Lib.hid (HCA.out i hlt)
          have HCSi := Lib.hid (HCS.out i hlt)
          have hvb := HVB.out i hlt
          have HPb := Lib.hid (@planF_back r i)
          have HPm := Lib.hid (@planF_more r i)
          rw [show atR r i = splitR r i from if_pos hlt] at HLW
          have hlt' : decide (i < cntR r) = true := decide_eq_true hlt
          generalize splitR r i = s at HLW HBi HCAi HCSi hvb HPb HPm
          clear HBD HCB HCA HCS HVB HF HE
          generalize hp : planF r i = p at HLW HPb HPm hbd
          clear hp
          have HO : Hid (∀ W, Calls Try.prog 130 #[.agg #[.int .i64 (p.need : Int), .int .i64 (p.first.1 : Int), .int .i64 (p.first.2.1 : Int), .int .i64 (p.first.2.2 : Int), .int .i64 (p.many : Int)], .agg #[.int .i64 (s.1 : Int), .int .i64 (s.2.1 : Int), .int .i64 (s.2.2 : Int)], .int .i64 ((valR r s : Nat) : Int)] W fun e w' => e = .returned (.agg #[.int .i64 ((p.or s (valR r s)).need : Int), .int .i64 ((p.or s (valR r s)).first.1 : Int), .int .i64 ((p.or s (valR r s)).first.2.1 : Int), .int .i64 ((p.or s (valR r s)).first.2.2 : Int), .int .i64 ((p.or s (valR r s)).many : Int)]) ∧ Below W.heap.size W w') := Lib.hid (fun W => orSplit_any p s (valR r s) W hbd.1 (by omega) hvb)
          obtain ⟨q0, q1, q2, s0, s1, s2, t0, t1, t2, t3, t4⟩ := HLW.out.S
          go_wp2_with fail
          refine (HBi.out wr).mono ?_
          rintro e w3 ⟨rfl, hb3⟩
          have HL3 := Lib.hid (HLW.out.below hM (by omega) (by omega) hb3)
          clear hb3 HBi HLW q0 q1 q2 s0 s1 s2 t0 t1 t2 t3 t4
          cases hback : backR r s with
          | true =>
            have HEq := Lib.hid (HPb.out hback)
            clear HPm HCSi HO hback
            have S8 := HL3.out.t8
            have x0 := S8.c0
            have x1 := S8.c1
            have x2 := S8.c2
            have HN8 := Lib.hid (HL3.out.new8 s)
            have hbt : w1.heap.size + 1 < w3.heap.size := HL3.out.t7.lt
            have y0 := HN8.out.t3.c0
            have y1 := HN8.out.t3.c1
            have y2 := HN8.out.t3.c2
            have z0 := HN8.out.t8.c0
            have z1 := HN8.out.t8.c1
            have z2 := HN8.out.t8.c2
            clear S8
            go_wp2_with fail
            refine (HCAi.out _).mono ?_
            rintro e w8 ⟨rfl, hb8'⟩
            have HN9 := Lib.hid (HN8.out.below hM (by omega) (by omega) hb8')
            have HNS := Lib.hid (HN9.out.set8 hM (by omega) (by omega) _ _ _ (atR r (i + 1)) rfl rfl rfl)
            clear hb8' x0 x1 x2 y0 y1 y2 z0 z1 z2
            have z0 := HN9.out.t8.c0
            have z1 := HN9.out.t8.c1
            have z2 := HN9.out.t8.c2
            have z3 := HN9.out.t8.f 0
            have z4 := HN9.out.t8.f 1
            have z5 := HN9.out.t8.f 2
            go_wp2
            go_roundg (cntR r + 1 - (i + 1))
            case measure => omega
            case rel => exact ⟨i + 1, w3.heap.size, rfl, by omega, rfl, rfl, hbt, by rw [HEq.out]; exact HNS⟩

          | false =>
            have HEq := Lib.hid (HPm.out hback)
            have HSN := Lib.hid (HCSi.out hback)
            clear HPb HCSi hback
            have HL3d := Lib.hid (HL3.out.below hM (by omega) (by omega) (Below.refl _ w3).drew)
            generalize hq : p.or s (valR r s) = q at HO HEq
            clear hq
            have hne78 : b8 ≠ w1.heap.size + 1 := by omega
            go_wp2_with fail
            refine wp_region_noPanic ?_
            refine wp_region_inv (by kernel_rfl) (by kernel_rfl) (fun D A W => ∃ v33 v34 v35 v36 v37 v38 v39, A = pAct w.heap.size w1.heap.size M b8 r s u23 u24 u25 u26 u27 u28 v33 v34 v35 v36 v37 v38 v39 u40 ∧ PInv w M (w1.heap.size + 1) b8 r s p q ((valR r s : Nat) : Int) D v33 v34 v35 v36 v37 v38 v39 W) ?h0 ?hs ?hd
            case h0 => exact ⟨u33, u34, u35, u36, u37, u38, u39, rfl, ⟨HL3d.out, nofun, nofun, nofun, nofun, nofun, nofun, nofun, nofun⟩⟩
            case hs =>
              rintro D _ W ⟨v33, v34, v35, v36, v37, v38, v39, rfl, hI⟩ i' o ho hD hA K hK
              have hi' : i' < 8 := (Array.getElem?_eq_some_iff.1 ho).1
              have HI := Lib.hid hI
              have HK := Lib.hid hK
              clear hI hK
              obtain rfl | rfl | rfl | rfl | rfl | rfl | rfl | rfl : i' = 0 ∨ i' = 1 ∨ i' = 2 ∨ i' = 3 ∨ i' = 4 ∨ i' = 5 ∨ i' = 6 ∨ i' = 7 := by omega
              all_goals (obtain rfl := Option.some.inj ho; clear ho hi'; simp [Region.binds] at hA; unfold pAct)
              · have hn7 : D 7 = false := (by rcases Bool.eq_false_or_eq_true (D 7) with h | h; (rw [(HI.out.o7 h).1] at hD; cases hD); exact h)
                have hlw := HI.out.lw
                rw [hn7] at hlw
                simp only [Bool.false_eq_true, if_false] at hlw
                have k0 := hlw.t7.c0
                have k1 := hlw.t7.c1
                have k2 := hlw.t7.c2
                have k3 := hlw.t7.c3
                have k4 := hlw.t7.c4
                clear hlw
                go_simp
                exact HK.out _ _ ⟨_, _, _, _, _, _, _, rfl, ⟨(by simpa using HI.out.lw), (fun _ => rfl), (by first | exact fun _ => rfl | simpa using HI.out.s34), (by first | exact fun _ => rfl | simpa using HI.out.s35), (by first | exact fun _ => rfl | simpa using HI.out.s36), (by first | exact fun _ => rfl | simpa using HI.out.s37), (by first | exact fun _ => rfl | simpa using HI.out.s38), (by first | exact fun _ => rfl | simpa using HI.out.s39), (fun h => by simp [hn7] at h)⟩⟩
              · have k0 := HI.out.lw.t8.c0
                have k1 := HI.out.lw.t8.c1
                have k2 := HI.out.lw.t8.c2
                go_simp
                exact HK.out _ _ ⟨_, _, _, _, _, _, _, rfl, ⟨(by simpa using HI.out.lw), (by first | exact fun _ => rfl | simpa using HI.out.s33), (fun _ => rfl), (by first | exact fun _ => rfl | simpa using HI.out.s35), (by first | exact fun _ => rfl | simpa using HI.out.s36), (by first | exact fun _ => rfl | simpa using HI.out.s37), (by first | exact fun _ => rfl | simpa using HI.out.s38), (by first | exact fun _ => rfl | simpa using HI.out.s39), (by simpa using HI.out.o7)⟩⟩
              · go_simp
                exact HK.out _ _ ⟨_, _, _, _, _, _, _, rfl, ⟨(by simpa using HI.out.lw), (by first | exact fun _ => rfl | simpa using HI.out.s33), (by first | exact fun _ => rfl | simpa using HI.out.s34), (fun _ => rfl), (by first | exact fun _ => rfl | simpa using HI.out.s36), (by first | exact fun _ => rfl | simpa using HI.out.s37), (by first | exact fun _ => rfl | simpa using HI.out.s38), (by first | exact fun _ => rfl | simpa using HI.out.s39), (by simpa using HI.out.o7)⟩⟩
              · have k0 := HI.out.lw.t3.c0
                have k1 := HI.out.lw.t3.c1
                have k2 := HI.out.lw.t3.c2
                go_simp
                exact HK.out _ _ ⟨_, _, _, _, _, _, _, rfl, ⟨(by simpa using HI.out.lw), (by first | exact fun _ => rfl | simpa using HI.out.s33), (by first | exact fun _ => rfl | simpa using HI.out.s34), (by first | exact fun _ => rfl | simpa using HI.out.s35), (fun _ => rfl), (by first | exact fun _ => rfl | simpa using HI.out.s37), (by first | exact fun _ => rfl | simpa using HI.out.s38), (by first | exact fun _ => rfl | simpa using HI.out.s39), (by simpa using HI.out.o7)⟩⟩
              · have k0 := HI.out.lw.t8.c0
                have k1 := HI.out.lw.t8.c1
                have k2 := HI.out.lw.t8.c2
                go_simp
                exact HK.out _ _ ⟨_, _, _, _, _, _, _, rfl, ⟨(by simpa using HI.out.lw), (by first | exact fun _ => rfl | simpa using HI.out.s33), (by first | exact fun _ => rfl | simpa using HI.out.s34), (by first | exact fun _ => rfl | simpa using HI.out.s35), (by first | exact fun _ => rfl | simpa using HI.out.s36), (fun _ => rfl), (by first | exact fun _ => rfl | simpa using HI.out.s38), (by first | exact fun _ => rfl | simpa using HI.out.s39), (by simpa using HI.out.o7)⟩⟩
              · obtain rfl := HI.out.s35 (by simp_all)
                obtain rfl := HI.out.s36 (by simp_all)
                obtain rfl := HI.out.s37 (by simp_all)
                simp only [rowV]
                go_simp
                refine (HSN.out W HI.out.lw.pm).mono ?_
                rintro e w4 ⟨rfl, hpm4, hw4⟩
                exact HK.out _ _ ⟨_, _, _, _, _, _, _, rfl, ⟨(by simpa using HI.out.lw.step hM (by omega) (by omega) hw4 hpm4), (by first | exact fun _ => rfl | simpa using HI.out.s33), (by first | exact fun _ => rfl | simpa using HI.out.s34), (by first | exact fun _ => rfl | simpa using HI.out.s35), (by first | exact fun _ => rfl | simpa using HI.out.s36), (by first | exact fun _ => rfl | simpa using HI.out.s37), (fun _ => rfl), (by first | exact fun _ => rfl | simpa using HI.out.s39), (by simpa using HI.out.o7)⟩⟩
              · obtain rfl := HI.out.s33 (by simp_all)
                obtain rfl := HI.out.s34 (by simp_all)
                obtain rfl := HI.out.s38 (by simp_all)
                simp only [rowV, planV]
                go_simp
                refine (HO.out W).mono ?_
                rintro e w4 ⟨rfl, hb4⟩
                exact HK.out _ _ ⟨_, _, _, _, _, _, _, rfl, ⟨(by simpa using HI.out.lw.below hM (by omega) (by omega) hb4), (by first | exact fun _ => rfl | simpa using HI.out.s33), (by first | exact fun _ => rfl | simpa using HI.out.s34), (by first | exact fun _ => rfl | simpa using HI.out.s35), (by first | exact fun _ => rfl | simpa using HI.out.s36), (by first | exact fun _ => rfl | simpa using HI.out.s37), (by first | exact fun _ => rfl | simpa using HI.out.s38), (fun _ => rfl), (fun h => by have h7 := HI.out.o7 (by simpa using h); simp [h7.1])⟩⟩
              · obtain rfl := HI.out.s39 (by simp_all)
                have hlw := HI.out.lw
                rw [hD] at hlw
                simp only [Bool.false_eq_true, if_false] at hlw
                have c0 := hlw.t7.c0
                have c1 := hlw.t7.c1
                have c2 := hlw.t7.c2
                have c3 := hlw.t7.c3
                have c4 := hlw.t7.c4
                have g0 := hlw.t7.f 0
                have g1 := hlw.t7.f 1
                have g2 := hlw.t7.f 2
                have g3 := hlw.t7.f 3
                have g4 := hlw.t7.f 4
                have HLw := Lib.hid (hlw.set7 hM (by omega) hne78 q)
                clear hlw
                simp only [planV]
                go_simp
                exact HK.out _ (set5 W (w1.heap.size + 1) (.int .i64 (q.need : Int)) (.int .i64 (q.first.1 : Int)) (.int .i64 (q.first.2.1 : Int)) (.int .i64 (q.first.2.2 : Int)) (.int .i64 (q.many : Int))) ⟨_, _, _, _, _, _, _, rfl, ⟨(by simpa using HLw.out), (by first | exact fun _ => rfl | simpa using HI.out.s33), (by first | exact fun _ => rfl | simpa using HI.out.s34), (by first | exact fun _ => rfl | simpa using HI.out.s35), (by first | exact fun _ => rfl | simpa using HI.out.s36), (by first | exact fun _ => rfl | simpa using HI.out.s37), (by first | exact fun _ => rfl | simpa using HI.out.s38), (by first | exact fun _ => rfl | simpa using HI.out.s39), (fun _ => by simp_all)⟩⟩
            case hd =>
              rintro D _ W ⟨v33, v34, v35, v36, v37, v38, v39, rfl, hI⟩ hall
              have h7 : D 7 = true := hall 7 (by decide)
              have hlw := hI.lw
              rw [h7] at hlw
              simp only [if_true] at hlw
              have HL6 := Lib.hid hlw
              clear hI hall hlw h7 HO HSN HL3 HL3d
              simp only [pAct, rowV, zeroPlan]
              refine NoPanic.normal ?_
              have S8 := HL6.out.t8
              have x0 := S8.c0
              have x1 := S8.c1
              have x2 := S8.c2
              have HN8 := Lib.hid (HL6.out.new8 s)
              have hbt : w1.heap.size + 1 < W.heap.size := HL6.out.t7.lt
              have y0 := HN8.out.t3.c0
              have y1 := HN8.out.t3.c1
              have y2 := HN8.out.t3.c2
              have z0 := HN8.out.t8.c0
              have z1 := HN8.out.t8.c1
              have z2 := HN8.out.t8.c2
              clear S8
              go_wp2_with fail
              refine (HCAi.out _).mono ?_
              rintro e w8 ⟨rfl, hb8'⟩
              have HN9 := Lib.hid (HN8.out.below hM (by omega) (by omega) hb8')
              have HNS := Lib.hid (HN9.out.set8 hM (by omega) (by omega) _ _ _ (atR r (i + 1)) rfl rfl rfl)
              clear hb8' x0 x1 x2 y0 y1 y2 z0 z1 z2
              have z0 := HN9.out.t8.c0
              have z1 := HN9.out.t8.c1
              have z2 := HN9.out.t8.c2
              have z3 := HN9.out.t8.f 0
              have z4 := HN9.out.t8.f 1
              have z5 := HN9.out.t8.f 2
              go_wp2
              go_roundg (cntR r + 1 - (i + 1))
              case measure => omega
              case rel => exact ⟨i + 1, W.heap.size, rfl, by omega, rfl, rfl, hbt, by rw [HEq.out]; exact HNS⟩
        · obtain rfl : i = cntR r := by omega
          rw [HE.out.symm] at HLW
          have hlt' : decide (cntR r < cntR r) = false := by simp
          obtain ⟨q0, q1, q2, s0, s1, s2, t0, t1, t2, t3, t4⟩ := HLW.out.S
          obtain ⟨D', hD'⟩ := HLW.out.pm
          have HD' := Lib.hid hD'
          have hsz : Maps.size D' < maxLen := by
            have h1 := hD'.size
            have h2 := cntM_le D'
            unfold maxLen
            omega
          have hown := hD'.owns
          have hkey := keyRow h8
          clear hD' HCB HCA HCS HVB HF HE HBD
          go_wp2_with (first
            | (at_mapUpdate; refine wpList_mapUpdate_own _ rfl _ _ _ 63 rfl 66 76 keyedRow Try.underlying63 heldR M (Maps.size D') D' rfl hown hsz _ _ (klR r) rfl rfl hkey (.held (planV (planR r))) [] rfl ?_; intro w9 hown9 hg9; have HP9 := Lib.hid (HD'.out.put h8 hown9); have HW9 := Lib.hid (HLW.out.wi.trans (within_put hg9)); have HUV := Lib.hid (HLW.out.t4.within (within_put hg9) (.inr (by omega))); have HUW := Lib.hid (HLW.out.t7.within (within_put hg9) (.inr (by omega))); clear hown9 hg9 hown; have m0 := HUW.out.c0; have m1 := HUW.out.c1; have m2 := HUW.out.c2; have m3 := HUW.out.c3; have m4 := HUW.out.c4; have c0 := HUV.out.c0; have f0 := HUV.out.f 0; have c1 := HUV.out.c1; have f1 := HUV.out.f 1; have c2 := HUV.out.c2; have f2 := HUV.out.f 2; have c3 := HUV.out.c3; have f3 := HUV.out.f 3; have c4 := HUV.out.c4; have f4 := HUV.out.f 4))
          have HFn := HUV.out.set (.int .i64 ((planR r).need : Int)) (.int .i64 ((planR r).first.1 : Int)) (.int .i64 ((planR r).first.2.1 : Int)) (.int .i64 ((planR r).first.2.2 : Int)) (.int .i64 ((planR r).many : Int))
          have HPf : PlanM (set5 w9 (w.heap.size + 1) (.int .i64 ((planR r).need : Int)) (.int .i64 ((planR r).first.1 : Int)) (.int .i64 ((planR r).first.2.1 : Int)) (.int .i64 ((planR r).first.2.2 : Int)) (.int .i64 ((planR r).many : Int))) M := HP9.out.heap (block_set5 (by omega) _ _ _ _ _)
          have HWf := within_far5 HW9.out (Nat.le_succ w.heap.size) (.int .i64 ((planR r).need : Int)) (.int .i64 ((planR r).first.1 : Int)) (.int .i64 ((planR r).first.2.1 : Int)) (.int .i64 ((planR r).first.2.2 : Int)) (.int .i64 ((planR r).many : Int))
          unfold set5 at HFn HPf HWf
          generalize (((((w9.setCell ⟨w.heap.size + 1, 0, none⟩ (.int .i64 ((planR r).need : Int))).setCell ⟨w.heap.size + 1, 1, none⟩ (.int .i64 ((planR r).first.1 : Int))).setCell ⟨w.heap.size + 1, 2, none⟩ (.int .i64 ((planR r).first.2.1 : Int))).setCell ⟨w.heap.size + 1, 3, none⟩ (.int .i64 ((planR r).first.2.2 : Int))).setCell ⟨w.heap.size + 1, 4, none⟩ (.int .i64 ((planR r).many : Int))) = wf at HFn HPf HWf ⊢
          have e0 := HFn.c0
          have e1 := HFn.c1
          have e2 := HFn.c2
          have e3 := HFn.c3
          have e4 := HFn.c4
          refine bodyPost_ret (v := .agg #[.int .i64 ((planR r).need : Int), .int .i64 ((planR r).first.1 : Int), .int .i64 ((planR r).first.2.1 : Int), .int .i64 ((planR r).first.2.2 : Int), .int .i64 ((planR r).many : Int)]) (by simp [results, go_sem, e0, e1, e2, e3, e4]) rfl ?_
          exact ⟨rfl, HPf, HWf⟩
theorem planLess : ∀ m, PlanLess m
  | 0 => fun r h => absurd h (by omega)
  | m + 1 => fun r h h8 w M hp => planOf_step m (planLess m) r h h8 w M hp
theorem planOf_any (r : Row) (h8 : rsum r ≤ 8) (w : World) (M : Nat) (hp : PlanM w M) :
    Calls Try.prog 108 #[.map (some M), .agg #[.int .i64 (r.1 : Int), .int .i64 (r.2.1 : Int), .int .i64 (r.2.2 : Int)]] w fun e w' => e = .returned (planV (planR r)) ∧ PlanM w' M ∧ Within M (M + 1) w w' :=
  planLess (massR r + 1) r (Nat.lt_succ_self _) h8 w M hp
theorem needOf_any (r : Row) (h8 : rsum r ≤ 8) (w : World) (M : Nat) (hp : PlanM w M) :
    Calls Try.prog 60 #[.map (some M), .agg #[.int .i64 (r.1 : Int), .int .i64 (r.2.1 : Int), .int .i64 (r.2.2 : Int)]] w fun e w' => e = .returned (.int .i64 ((needR r : Nat) : Int)) ∧ PlanM w' M ∧ Within M (M + 1) w w' :=
  needOf_of (massR r + 1) (planLess _) r w M (Nat.lt_succ_self _) h8 hp
end Go.Proofs.Ytdkffkgoalgjmab
namespace Go.Proofs.Ytdkffkgoalgjmab
open Go.RowKit Go.ChangeShapes Go.WideShapes
set_option linter.unusedVariables false

set_option maxRecDepth 100000 in
set_option maxHeartbeats 4000000 in
theorem needOf_impl (A : Option Addr) (c lo hi : Nat) (zs : List Int) (w : World) (hS : Ins w lo hi A zs) (hn : zs.length ≤ 1048576) :
    Calls Try.prog 17 #[.slice A zs.length c] w fun e w' => e = .returned (.tuple #[.int .i64 (if cOK zs then ((needR (rowL zs) : Nat) : Int) else 0), .bool (cOK zs)]) ∧ Below w.heap.size w w' := by
  have HC := Lib.hid (fun W h => areCounts_impl A c lo hi zs W h hn)
  have HS := Lib.hid hS
  clear hS
  cases hok : cOK zs with
  | false =>
    rw [hok] at HC
    go_enter Try.func17, Try.ntmps17
    go_wp2_with fail
    refine (HC.out w HS.out).mono ?_
    rintro e w1 ⟨rfl, rfl⟩
    go_wp2
    go_ret2
    exact ⟨rfl, Below.refl _ _⟩
  | true =>
    rw [hok] at HC
    obtain ⟨r, hr, hw, h8⟩ := cOK_row hok
    rw [if_pos rfl, rowL_eq hr hw]
    have hp := hw.le
    generalize zs.length = p at *
    have HR := Lib.hid (fun W h => rowOf_any A c lo hi p r W h hw)
    rw [← hr] at HR
    have HPl := Lib.hid (fun W M h => needOf_any r h8 W M h)
    have hmk := makePlans
    have B1 := (Below.refl w.heap.size w).alloc (Nat.le_refl _) (.map #[] 0)
    have HB1 := Lib.hid B1
    have HS1 := Lib.hid (HS.out.step B1)
    have HM1 := Lib.hid (PlanM.made w)
    clear hok hr B1
    go_enter Try.func17, Try.ntmps17
    go_wp2_with fail
    refine (HC.out w HS.out).mono ?_
    rintro e w1 ⟨rfl, rfl⟩
    clear HC
    go_wp2_with fail
    clear hmk
    generalize hwa : w1.alloc (.map #[] 0) = wa at HB1 HS1 HM1 ⊢
    clear hwa
    refine (HR.out wa HS1.out).mono ?_
    rintro e w2 ⟨rfl, hb2⟩
    have HM2 := Lib.hid (HM1.out.step hb2)
    have HB2 := Lib.hid (below_trans HB1.out hb2)
    clear hb2
    go_wp2_with fail
    refine (HPl.out w2 w1.heap.size HM2.out).mono ?_
    rintro e w3 ⟨rfl, hpm3, hw3⟩
    have HB3 := Lib.hid (HB2.out.trans (hw3.below (Nat.le_refl _) HB2.out.size))
    clear hpm3 hw3
    go_wp2
    go_ret2
    exact ⟨rfl, HB3.out⟩
set_option maxRecDepth 100000 in
set_option maxHeartbeats 4000000 in
theorem needOf_spec (A : Option Addr) (c lo hi : Nat) (zs : List Int) (w : World) (hS : Ins w lo hi A zs) (hn : zs.length ≤ 1048576) :
    Calls Try.prog 15 #[.slice A zs.length c] w fun e w' => e = .returned (.tuple #[.int .i64 (if cOK zs then ((needR (rowL zs) : Nat) : Int) else 0), .bool (cOK zs)]) ∧ Below w.heap.size w w' := by
  have HC := Lib.hid (fun W h => l4Counts_any A c lo hi zs W h hn)
  have HS := Lib.hid hS
  clear hS
  cases hok : cOK zs with
  | false =>
    rw [hok] at HC
    go_enter Try.func15, Try.ntmps15
    go_wp2_with fail
    refine (HC.out w HS.out).mono ?_
    rintro e w1 ⟨rfl, rfl⟩
    go_wp2
    go_ret2
    exact ⟨rfl, Below.refl _ _⟩
  | true =>
    rw [hok] at HC
    obtain ⟨r, hr, hw, h8⟩ := cOK_row hok
    rw [if_pos rfl, rowL_eq hr hw]
    have hp := hw.le
    generalize zs.length = p at *
    have HNs := Lib.hid (fun W => l4Needs_any p W hp)
    have HK := Lib.hid (fun W h => l4Key_any A c lo hi p r W h hw h8)
    rw [← hr] at HK
    have hkl := key_lt hw h8
    have HFA := Lib.hid (found_all h8)
    have HFL := Lib.hid (foundL_len p 10)
    clear hok hr
    generalize keyR r = ky at HK hkl HFA
    have hkyI : (ky : Int) < ((9 ^ p : Nat) : Int) := by omega
    go_enter Try.func15, Try.ntmps15
    go_wp2_with fail
    refine (HC.out w HS.out).mono ?_
    rintro e w1 ⟨rfl, rfl⟩
    clear HC
    go_wp2_with fail
    refine (HNs.out w1).mono ?_
    rintro e w2 ⟨g, cg, rfl, hg, ho, hb⟩
    have HB := Lib.hid hb
    have HS2 := Lib.hid (HS.out.step hb)
    have hcell := own_cell ho (k := ky) (by rw [HFL.out]; exact hkl)
    rw [show (foundL p 10).getD ky 0 = ((needR r : Nat) : Int) from by rw [← HFA.out]; simp [foundL, List.getD, hkl]] at hcell
    clear hb ho HNs
    go_wp2_with fail
    refine (HK.out w2 HS2.out).mono ?_
    rintro e w3 ⟨rfl, rfl⟩
    go_wp2
    go_ret2
    exact ⟨rfl, HB.out⟩
theorem needOf_both (zs : List Int) (h : zs.length ≤ 1048576) : ∃ (r0 : Int) (r1 : Bool),
    (∀ (w : World) (B : Option Addr) (c lo hi : Nat), Ins w lo hi B zs → Calls Try.prog 17 #[.slice B zs.length c] w fun e w' => e = .returned (.tuple #[.int .i64 r0, .bool r1]) ∧ Below w.heap.size w w') ∧
    (∀ (w : World) (B : Option Addr) (c lo hi : Nat), Ins w lo hi B zs → Calls Try.prog 15 #[.slice B zs.length c] w fun e w' => e = .returned (.tuple #[.int .i64 r0, .bool r1]) ∧ Below w.heap.size w w') :=
  ⟨_, _, fun w B c lo hi hS => needOf_impl B c lo hi zs w hS h, fun w B c lo hi hS => needOf_spec B c lo hi zs w hS h⟩
end Go.Proofs.Ytdkffkgoalgjmab
namespace Go.Proofs.Ytdkffkgoalgjmab
open Go.RowKit Go.ChangeShapes Go.WideShapes
set_option linter.unusedVariables false

def freshR (m n : Nat) : Row := if m = 0 then (0, 0, n) else if m = 1 then (0, n, 0) else (n, 0, 0)
theorem fresh_wide {m n : Nat} (hm : m ≤ 2) : Wide (m + 1) (freshR m n) := by
  obtain rfl | rfl | rfl : m = 0 ∨ m = 1 ∨ m = 2 := by omega
  · exact .inl ⟨rfl, rfl, rfl⟩
  · exact .inr (.inl ⟨rfl, rfl⟩)
  · exact .inr (.inr rfl)
theorem fresh_sum {m n : Nat} : rsum (freshR m n) = n := by
  unfold freshR rsum
  split
  · simp
  · split <;> simp
theorem fresh_lst {m n : Nat} (hm : m ≤ 2) : (List.replicate (m + 1) (0 : Int)).set 0 (n : Int) = lstR (m + 1) (freshR m n) := by
  obtain rfl | rfl | rfl : m = 0 ∨ m = 1 ∨ m = 2 := by omega
  · rfl
  · rfl
  · rfl
theorem fresh_arr {m n : Nat} (hm : m ≤ 2) : (Array.replicate (m + 1) (Value.int .i64 0)).setIfInBounds 0 (.int .i64 (n : Int)) = ((lstR (m + 1) (freshR m n)).map (Value.int .i64)).toArray := by
  obtain rfl | rfl | rfl : m = 0 ∨ m = 1 ∨ m = 2 := by omega
  · rfl
  · rfl
  · rfl
theorem fresh_own {m n : Nat} (hm : m ≤ 2) (w : World) : Own (w.alloc (.cells ((Array.replicate (m + 1) (Value.int .i64 0)).setIfInBounds 0 (.int .i64 (n : Int))) 3)) w.heap.size (w.heap.size + 1) (some ⟨w.heap.size, 0, none⟩) (lstR (m + 1) (freshR m n)) := by
  rw [fresh_arr hm]
  exact Own.new w _ _ _ (Nat.le_refl _) (Nat.lt_succ_self _)
set_option maxRecDepth 100000 in
set_option maxHeartbeats 800000 in
theorem l4Fresh_any (m n : Nat) (w : World) (hm : m ≤ 2) :
    Calls Try.prog 84 #[.int .i64 (n : Int), .int .i64 (m : Int)] w fun e w' => ∃ g, e = .returned (.slice (some ⟨g, 0, none⟩) (m + 1) (m + 1)) ∧ w.heap.size ≤ g ∧ Own w' g (g + 1) (some ⟨g, 0, none⟩) (lstR (m + 1) (freshR m n)) ∧ Below w.heap.size w w' := by
  have hmk := makeInts1 m (by omega)
  have HO3 := Lib.hid (fresh_own (n := n) hm w)
  have HB := Lib.hid ((Below.refl w.heap.size w).alloc (Nat.le_refl _) (.cells ((Array.replicate (m + 1) (Value.int .i64 0)).setIfInBounds 0 (.int .i64 (n : Int))) 3))
  go_enter Try.func84, Try.ntmps84
  go_wp2
  all_goals
    go_ret
    exact ⟨_, rfl, Nat.le_refl _, HO3.out, HB.out⟩
set_option maxRecDepth 100000 in
set_option maxHeartbeats 800000 in
theorem freshCounts_any (m n : Nat) (w : World) (hm : m ≤ 2) :
    Calls Try.prog 97 #[.int .i64 (n : Int), .int .i64 (m : Int)] w fun e w' => e = .returned (.agg #[.int .i64 ((freshR m n).1 : Int), .int .i64 ((freshR m n).2.1 : Int), .int .i64 ((freshR m n).2.2 : Int)]) ∧ Below w.heap.size w w' := by
  have hmk := makeInts1 m (by omega)
  have T0 := Three.new w (.int .i64 0) (.int .i64 0) (.int .i64 0) w.heap.size rfl
  have B0 := (Below.refl w.heap.size w).alloc (Nat.le_refl _) (.cells #[.int .i64 0, .int .i64 0, .int .i64 0] 66)
  have HT0 := Lib.hid T0
  have HB0 := Lib.hid B0
  clear T0 B0
  go_enter Try.func97, Try.ntmps97
  go_upto_region 1 with fail
  generalize w.alloc (.cells #[.int .i64 0, .int .i64 0, .int .i64 0] 66) = wa at HT0 HB0 ⊢
  have A2 := (Below.refl _ wa).alloc (Nat.le_refl _) (.cells ((Array.replicate (m + 1) (Value.int .i64 0)).setIfInBounds 0 (.int .i64 (n : Int))) 3)
  have HT1 := Lib.hid (HT0.out.step A2)
  have HB1 := Lib.hid (below_trans HB0.out A2)
  have HO2 := fresh_own (n := n) hm wa
  have HI := Lib.hid (Ins.mk HO2.ints (own_lt HO2))
  clear HO2 A2
  have HR := Lib.hid (fun W h => rowOf_any (some ⟨wa.heap.size, 0, none⟩) (m + 1) wa.heap.size (wa.heap.size + 1) (m + 1) (freshR m n) W h (fresh_wide hm))
  go_wp2_with fail
  clear hmk
  refine (HR.out _ HI.out).mono ?_
  rintro e w2 ⟨rfl, hb⟩
  have HT2 := Lib.hid (HT1.out.step hb)
  have HB2 := Lib.hid (below_trans HB1.out hb)
  clear hb
  have c0 := HT2.out.c0
  have c1 := HT2.out.c1
  have c2 := HT2.out.c2
  have f0 := HT2.out.f 0
  have f1 := HT2.out.f 1
  have f2 := HT2.out.f 2
  go_wp2
  all_goals
    have HS := HT2.out.set (.int .i64 ((freshR m n).1 : Int)) (.int .i64 ((freshR m n).2.1 : Int)) (.int .i64 ((freshR m n).2.2 : Int))
    have HBf := below_set3 HB2.out (Nat.le_refl _) (.int .i64 ((freshR m n).1 : Int)) (.int .i64 ((freshR m n).2.1 : Int)) (.int .i64 ((freshR m n).2.2 : Int))
    generalize (((w2.setCell ⟨w.heap.size, 0, none⟩ (.int .i64 ((freshR m n).1 : Int))).setCell ⟨w.heap.size, 1, none⟩ (.int .i64 ((freshR m n).2.1 : Int))).setCell ⟨w.heap.size, 2, none⟩ (.int .i64 ((freshR m n).2.2 : Int))) = wf at HS HBf ⊢
    have e0 := HS.c0
    have e1 := HS.c1
    have e2 := HS.c2
    refine bodyPost_ret (v := .agg #[.int .i64 ((freshR m n).1 : Int), .int .i64 ((freshR m n).2.1 : Int), .int .i64 ((freshR m n).2.2 : Int)]) (by simp [results, go_sem, e0, e1, e2]) rfl ?_
    exact ⟨rfl, HBf⟩
end Go.Proofs.Ytdkffkgoalgjmab
namespace Go.Proofs.Ytdkffkgoalgjmab
open Go.RowKit Go.ChangeShapes Go.WideShapes Go.Maps
set_option linter.unusedVariables false

theorem ins_none (w : World) : Ins w 0 0 none [] := ⟨Ints.nil, Nat.zero_le _⟩
set_option maxRecDepth 100000 in
set_option maxHeartbeats 4000000 in
theorem moreThanSets_impl (n m : Nat) (w : World) (h1 : 1 ≤ n) (h5 : n ≤ 5) (hm : m ≤ 1) :
    Calls Try.prog 47 #[.int .i64 (n : Int), .int .i64 (m : Int)] w fun e w' => e = .returned (.tuple #[.int .i64 ((needL m (List.replicate n 0) : Int) - ((needR (freshR m n) : Nat) : Int)), .bool true]) ∧ Below w.heap.size w w' := by
  have hsz : Short m (List.replicate n 0) := zeros_short hm h1 h5
  have HS := Lib.hid (fun W => startState_impl n (m : Int) W h1 (by omega) (inB_t (by omega) (by omega)))
  have HL := fun g c W h => lessNeed_yes (some ⟨g, 0, none⟩) c g (g + 1) (List.replicate n 0) m W h hsz
  rw [List.length_replicate] at HL
  have HL := Lib.hid HL
  have HF := Lib.hid (fun W => freshCounts_any m n W (by omega))
  have h8 : rsum (freshR m n) ≤ 8 := by rw [fresh_sum]; omega
  have HP := Lib.hid (fun W B h => needOf_any (freshR m n) h8 W B h)
  have hb1 := needS_le hsz
  have hb2 := need_le h8
  have hmk := makePlans
  generalize needL m (List.replicate n 0) = nl at HL hb1 ⊢
  generalize freshR m n = r at *
  clear hsz h8
  go_enter Try.func47, Try.ntmps47
  go_wp2_with fail
  refine (HS.out w).mono ?_
  rintro e w1 ⟨g, rfl, hg, hr, hb⟩
  have HO := Lib.hid (own_insB (zeros6_own hr))
  have hbx := (Below.refl w1.heap.size w1).alloc (Nat.le_refl _) (.cells #[.slice (some ⟨g, 0, none⟩) n n, .int .i64 (m : Int)] 36)
  replace HO := Lib.hid (HO.out.step hbx)
  have HB := Lib.hid (below_trans hb hbx)
  clear hr hb hbx HS hg
  go_wp2_with fail
  generalize w1.alloc (.cells #[.slice (some ⟨g, 0, none⟩) n n, .int .i64 (m : Int)] 36) = w2 at HO HB ⊢
  refine (HL.out g n w2 HO.out).mono ?_
  rintro e w3 ⟨rfl, hb⟩
  replace HB := Lib.hid (below_trans HB.out hb)
  clear hb HL HO
  have HPM0 := Lib.hid (PlanM.made w3)
  have hbm := (Below.refl w3.heap.size w3).alloc (Nat.le_refl _) (.map #[] 0)
  have HB4 := Lib.hid (below_trans HB.out hbm)
  clear hbm
  go_wp2_with fail
  generalize w3.alloc (.map #[] 0) = w4 at HPM0 HB4 ⊢
  refine (HF.out w4).mono ?_
  rintro e w5 ⟨rfl, hb⟩
  have HPM := Lib.hid (HPM0.out.step hb)
  replace HB4 := Lib.hid (below_trans HB4.out hb)
  clear hb HF HPM0
  go_wp2_with fail
  refine (HP.out w5 w3.heap.size HPM.out).mono ?_
  rintro e w6 ⟨rfl, hpm, hw⟩
  have HB6 := Lib.hid (HB4.out.trans (hw.below HB.out.size HB4.out.size))
  clear hpm hw HP HPM
  generalize hnr : needR r = nr at hb2
  have HNR := Lib.hid hnr
  clear hnr
  go_wp2
  go_ret2
  exact ⟨by rw [HNR.out]; rfl, HB6.out⟩
set_option maxRecDepth 100000 in
set_option maxHeartbeats 4000000 in
theorem moreThanSets_spec (n m : Nat) (w : World) (h1 : 1 ≤ n) (h5 : n ≤ 5) (hm : m ≤ 1) :
    Calls Try.prog 46 #[.int .i64 (n : Int), .int .i64 (m : Int)] w fun e w' => e = .returned (.tuple #[.int .i64 ((needL m (List.replicate n 0) : Int) - ((needR (freshR m n) : Nat) : Int)), .bool true]) ∧ Below w.heap.size w w' := by
  have HC1 := Lib.hid (fun W => l1In_any (n : Int) 1 5 W)
  rw [inB_t (by omega) (by omega)] at HC1
  have HC2 := Lib.hid (fun W => l1In_any (m : Int) 0 1 W)
  rw [inB_t (by omega) (by omega)] at HC2
  have hsz : Short m (List.replicate n 0) := zeros_short hm h1 h5
  have HNd := Lib.hid (fun W => l6Needs_any n m W hm h1 h5)
  have HSt := Lib.hid (fun W => l2Start_any n (m : Int) W (by omega))
  have HKy := fun gq cq W h => l6Key_any (some ⟨gq, 0, none⟩) cq gq (gq + 1) (List.replicate n 0) m W h hsz
  have hky := keyTo_lt hsz.fit
  have HNC := fun W gq h => needs_cell (w := W) (g := gq) h hsz
  rw [List.length_replicate] at HKy hky HNC
  have HKy := Lib.hid HKy
  have HNC := Lib.hid HNC
  have hpw := pow_top hm h1 h5
  have hb1 := needS_le hsz
  have h8 : rsum (freshR m n) ≤ 8 := by rw [fresh_sum]; omega
  have hw4 : Wide (m + 1) (freshR m n) := fresh_wide (by omega)
  have hb2 := need_le h8
  have H4N := fun W => l4Needs_any (m + 1) W (by omega)
  rw [show ((m + 1 : Nat) : Int) = (m : Int) + 1 from by omega] at H4N
  have H4N := Lib.hid H4N
  have H4F := Lib.hid (fun W => l4Fresh_any m n W (by omega))
  have H4K := Lib.hid (fun g c W h => l4Key_any (some ⟨g, 0, none⟩) c g (g + 1) (m + 1) (freshR m n) W h hw4 h8)
  have hk4 := key_lt hw4 h8
  have HFA := Lib.hid (found_all h8)
  have HFL := Lib.hid (foundL_len (m + 1) 10)
  have hp9 := pow9 (p := m + 1) (by omega)
  have HFC : Hid (∀ (W : World) (g : Nat), Own W g (g + 1) (some ⟨g, 0, none⟩) (foundL (m + 1) 10) → W.cell? ⟨g, keyR (freshR m n), none⟩ = some (.int .i64 ((needR (freshR m n) : Nat) : Int))) := Lib.hid (fun W g h => by
    have h2 := own_cell h (k := keyR (freshR m n)) (by rw [HFL.out]; exact hk4)
    rw [show (foundL (m + 1) 10).getD (keyR (freshR m n)) 0 = ((needR (freshR m n) : Nat) : Int) from by rw [← HFA.out]; simp [foundL, List.getD, hk4]] at h2
    exact h2)
  clear hsz h8 hw4 HFA HFL
  generalize keyS m (List.replicate n 0) = ky at HKy hky HNC
  generalize needL m (List.replicate n 0) = nl at HNC hb1 ⊢
  have hkyI : (ky : Int) < (((m + 2) ^ n : Nat) : Int) := by omega
  generalize (m + 2) ^ n = top at HNd hky hpw hkyI
  generalize keyR (freshR m n) = kr at H4K hk4 HFC
  generalize needR (freshR m n) = nr at HFC hb2 ⊢
  have hkrI : (kr : Int) < ((9 ^ (m + 1) : Nat) : Int) := by omega
  generalize 9 ^ (m + 1) = top4 at H4N hk4 hp9 hkrI
  go_enter Try.func46, Try.ntmps46
  go_wp2_with fail
  refine (HC1.out w).mono ?_
  rintro e w1 ⟨rfl, hww⟩
  have hww := hww.symm
  subst hww
  go_wp2_with fail
  refine (HC2.out w).mono ?_
  rintro e w1 ⟨rfl, hww⟩
  have hww := hww.symm
  subst hww
  clear HC1 HC2
  go_wp2_with fail
  refine (HNd.out w).mono ?_
  rintro e w2 ⟨g2, c2, rfl, hg2, ho2, hb2'⟩
  have HN2 := Lib.hid ho2
  have HB := Lib.hid hb2'
  clear ho2 hb2' HNd
  go_wp2_with fail
  refine (HSt.out w2).mono ?_
  rintro e w3 ⟨g3, rfl, hg3, hr3, hb3⟩
  have HI3 := Lib.hid (own_insB (zeros6_own hr3))
  replace HN2 := Lib.hid (own_same HN2.out (hb3.block _ (own_lt HN2.out)))
  replace HB := Lib.hid (below_trans HB.out hb3)
  clear hr3 hb3 HSt
  go_wp2_with fail
  refine (HKy.out g3 n w3 HI3.out).mono ?_
  rintro e w4 ⟨rfl, hb4⟩
  replace HN2 := Lib.hid (own_same HN2.out (hb4.block _ (own_lt HN2.out)))
  replace HB := Lib.hid (below_trans HB.out hb4)
  clear hb4 HKy HI3
  have hcy := HNC.out w4 g2 HN2.out
  go_wp2_with fail
  refine (H4N.out w4).mono ?_
  rintro e w5 ⟨g5, c5, rfl, hg5, ho5, hb5⟩
  have HN5 := Lib.hid ho5
  replace HB := Lib.hid (below_trans HB.out hb5)
  clear ho5 hb5 H4N hcy
  go_wp2_with fail
  refine (H4F.out w5).mono ?_
  rintro e w6 ⟨g6, rfl, hg6, ho6, hb6⟩
  have HI6 := Lib.hid (own_insB ho6)
  replace HN5 := Lib.hid (own_same HN5.out (hb6.block _ (own_lt HN5.out)))
  replace HB := Lib.hid (below_trans HB.out hb6)
  clear ho6 hb6 H4F
  go_wp2_with fail
  refine (H4K.out g6 (m + 1) w6 HI6.out).mono ?_
  rintro e w7 ⟨rfl, hww⟩
  have hww := hww.symm
  subst hww
  have hcn := HFC.out w6 g5 HN5.out
  clear H4K HI6
  go_wp2
  go_ret2
  exact ⟨rfl, HB.out⟩
set_option maxRecDepth 100000 in
set_option maxHeartbeats 4000000 in
theorem moreThanSets_both (n m : Int) : ∃ (r0 : Int) (r1 : Bool),
    (∀ (w : World), Calls Try.prog 47 #[.int .i64 n, .int .i64 m] w fun e w' => e = .returned (.tuple #[.int .i64 r0, .bool r1]) ∧ Below w.heap.size w w') ∧
    (∀ (w : World), Calls Try.prog 46 #[.int .i64 n, .int .i64 m] w fun e w' => e = .returned (.tuple #[.int .i64 r0, .bool r1]) ∧ Below w.heap.size w w') := by
  by_cases hok : (1 ≤ n ∧ n ≤ 5) ∧ 0 ≤ m ∧ m ≤ 1
  · obtain ⟨a, rfl⟩ : ∃ a : Nat, n = (a : Int) := ⟨n.toNat, by omega⟩
    obtain ⟨b, rfl⟩ : ∃ b : Nat, m = (b : Int) := ⟨m.toNat, by omega⟩
    exact ⟨_, true, fun w => moreThanSets_impl a b w (by omega) (by omega) (by omega), fun w => moreThanSets_spec a b w (by omega) (by omega) (by omega)⟩
  · refine ⟨0, false, fun w => ?_, fun w => ?_⟩
    · by_cases hst : inB n 1 12 = false ∨ inB m 0 2 = false
      · have HS := Lib.hid (fun W => startState_no n m W hst)
        have HL := Lib.hid (fun W => lessNeed_no none 0 0 0 [] 0 W (ins_none W) (by simp) (by decide))
        clear hst hok
        go_enter Try.func47, Try.ntmps47
        go_wp2_with fail
        refine (HS.out w).mono ?_
        rintro e w1 ⟨rfl, hb⟩
        have HB := Lib.hid (hb.alloc hb.size (.cells #[.slice none 0 0, .int .i64 0] 36))
        clear hb
        go_wp2_with fail
        generalize w1.alloc (.cells #[.slice none 0 0, .int .i64 0] 36) = w2 at HB ⊢
        refine (HL.out w2).mono ?_
        rintro e w3 ⟨rfl, hb⟩
        replace HB := Lib.hid (below_trans HB.out hb)
        clear hb
        go_wp2
        go_ret2
        exact ⟨rfl, HB.out⟩
      · have hn : inB n 1 12 = true := by
          cases h : inB n 1 12 with
          | true => rfl
          | false => exact absurd (.inl h) hst
        have hmm : inB m 0 2 = true := by
          cases h : inB m 0 2 with
          | true => rfl
          | false => exact absurd (.inr h) hst
        have hn2 := inB_iff.1 hn
        have hm2 := inB_iff.1 hmm
        obtain ⟨a, rfl⟩ : ∃ a : Nat, n = (a : Int) := ⟨n.toNat, by omega⟩
        have HS := Lib.hid (fun W => startState_impl a m W (by omega) (by omega) hmm)
        have hsh : shortB (List.replicate a 0) m = false := by
          by_cases h5 : a ≤ 5
          · exact shortB_m (by omega)
          · exact shortB_l (by rw [List.length_replicate]; exact h5)
        have HL := fun g c W h => lessNeed_no (some ⟨g, 0, none⟩) c g (g + 1) (List.replicate a 0) m W h (by rw [List.length_replicate]; omega) hsh
        rw [List.length_replicate] at HL
        have HL := Lib.hid HL
        clear hst hok hn hmm hsh
        go_enter Try.func47, Try.ntmps47
        go_wp2_with fail
        refine (HS.out w).mono ?_
        rintro e w1 ⟨g, rfl, hg, hr, hb⟩
        have HO := Lib.hid (own_insB (zeros6_own hr))
        have hbx := (Below.refl w1.heap.size w1).alloc (Nat.le_refl _) (.cells #[.slice (some ⟨g, 0, none⟩) a a, .int .i64 m] 36)
        replace HO := Lib.hid (HO.out.step hbx)
        have HB := Lib.hid (below_trans hb hbx)
        clear hr hb hbx HS hg
        go_wp2_with fail
        generalize w1.alloc (.cells #[.slice (some ⟨g, 0, none⟩) a a, .int .i64 m] 36) = w2 at HO HB ⊢
        refine (HL.out g a w2 HO.out).mono ?_
        rintro e w3 ⟨rfl, hb⟩
        replace HB := Lib.hid (below_trans HB.out hb)
        clear hb
        go_wp2
        go_ret2
        exact ⟨rfl, HB.out⟩
    · have HC1 := Lib.hid (fun W => l1In_any n 1 5 W)
      have HC2 := Lib.hid (fun W => l1In_any m 0 1 W)
      cases hn : inB n 1 5 with
      | false =>
        rw [hn] at HC1
        clear hn hok
        go_enter Try.func46, Try.ntmps46
        go_wp2_with fail
        refine (HC1.out w).mono ?_
        rintro e w1 ⟨rfl, hww⟩
        have hww := hww.symm
        subst hww
        go_wp2
        go_ret2
        exact ⟨rfl, Below.refl _ _⟩
      | true =>
        have hmm : inB m 0 1 = false := by
          cases h : inB m 0 1 with
          | false => rfl
          | true => exact absurd ⟨inB_iff.1 hn, inB_iff.1 h⟩ hok
        rw [hn] at HC1
        rw [hmm] at HC2
        clear hn hok hmm
        go_enter Try.func46, Try.ntmps46
        go_wp2_with fail
        refine (HC1.out w).mono ?_
        rintro e w1 ⟨rfl, hww⟩
        have hww := hww.symm
        subst hww
        go_wp2_with fail
        refine (HC2.out w).mono ?_
        rintro e w1 ⟨rfl, hww⟩
        have hww := hww.symm
        subst hww
        go_wp2
        go_ret2
        exact ⟨rfl, Below.refl _ _⟩
end Go.Proofs.Ytdkffkgoalgjmab
namespace Go.Proofs.Ytdkffkgoalgjmab
open Go.RowKit
set_option linter.unusedVariables false

set_option maxHeartbeats 4000000 in
theorem fnExactMoreThanSets_walk (n : Int) (m : Int) (W : World) (wfn : (Lit.int .i64 n).wf = true) (wfm : (Lit.int .i64 m).wf = true) (hsh : W.ShapedOpen Try.prog) :
    Calls Try.prog 12 #[.int .i64 n, .int .i64 m] W fun e w' => e = .returned (.bool true) ∧ Below W.heap.size W w' := by
  clear hsh
  obtain ⟨r0, r1, hI, hC⟩ := moreThanSets_both n m
  have CI := Lib.hid hI
  have CS := Lib.hid hC
  clear hI hC
  have HB := Lib.hid (Below.refl W.heap.size W)
  have ZB := Lib.hid HB.out.size
  go_enter Try.func12, Try.ntmps12
  go_wp2_with fail
  go_wp2_with fail
  refine (CS.out _  ).mono ?_
  rintro e w1 ⟨rfl, hb⟩
  have Z0 := Lib.hid hb.size
  replace HB := Lib.hid (below_trans HB.out hb)
  clear hb
  go_wp2_with fail
  refine (CI.out _  ).mono ?_
  rintro e w2 ⟨rfl, hb⟩
  have Z1 := Lib.hid hb.size
  replace HB := Lib.hid (below_trans HB.out hb)
  clear hb
  go_wp2
  go_ret
  exact ⟨rfl, HB.out⟩
end Go.Proofs.Ytdkffkgoalgjmab
