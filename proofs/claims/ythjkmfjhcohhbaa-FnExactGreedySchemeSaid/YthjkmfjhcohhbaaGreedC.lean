/- There are twelve greedy words of fourteen answers at least; the first of them as integers, and how many answers they need. -/
import Derived.Test.YthjkmfjhcohhbaaGreedN
import Derived.Test.YthjkmfjhcohhbaaBit
import Derived.Test.YthjkmfjhcohhbaaNearN
namespace Go.Proofs.Ythjkmfjhcohhbaa
open Go.RowKit Go.ChangeShapes Go.WideShapes
set_option linter.unusedVariables false

/-- Words that are taken from W on, behind a list. -/
def grFrom (d : Nat) (L : List Nat) (W : Nat) : Nat → List Nat
  | 0 => L
  | k + 1 => if farB d (grFrom d L W k) (W + k) then grFrom d L W k ++ [W + k] else grFrom d L W k
theorem grFrom_is (d : Nat) {L : List Nat} {W : Nat} (h : gr d W = L) : ∀ k, gr d (W + k) = grFrom d L W k
  | 0 => h
  | k + 1 => by rw [← Nat.add_assoc, gr, grFrom, grFrom_is d h k]
theorem gr_enough0 : 12 ≤ (gr 0 12).length := by decide +kernel
theorem gr_enough2 : 12 ≤ (gr 2 128).length := by decide +kernel
theorem gc64 : grFrom 4 [] 0 64 = [0, 31] := by decide +kernel
theorem gc128 : grFrom 4 [0, 31] 64 64 = [0, 31] := by decide +kernel
theorem gc192 : grFrom 4 [0, 31] 128 64 = [0, 31] := by decide +kernel
theorem gc256 : grFrom 4 [0, 31] 192 64 = [0, 31, 227, 252] := by decide +kernel
theorem gc320 : grFrom 4 [0, 31, 227, 252] 256 64 = [0, 31, 227, 252] := by decide +kernel
theorem gc384 : grFrom 4 [0, 31, 227, 252] 320 64 = [0, 31, 227, 252] := by decide +kernel
theorem gc448 : grFrom 4 [0, 31, 227, 252] 384 64 = [0, 31, 227, 252] := by decide +kernel
theorem gc512 : grFrom 4 [0, 31, 227, 252] 448 64 = [0, 31, 227, 252] := by decide +kernel
theorem gc576 : grFrom 4 [0, 31, 227, 252] 512 64 = [0, 31, 227, 252] := by decide +kernel
theorem gc640 : grFrom 4 [0, 31, 227, 252] 576 64 = [0, 31, 227, 252] := by decide +kernel
theorem gc704 : grFrom 4 [0, 31, 227, 252] 640 64 = [0, 31, 227, 252] := by decide +kernel
theorem gc768 : grFrom 4 [0, 31, 227, 252] 704 64 = [0, 31, 227, 252] := by decide +kernel
theorem gc832 : grFrom 4 [0, 31, 227, 252] 768 64 = [0, 31, 227, 252, 805, 826] := by decide +kernel
theorem gc896 : grFrom 4 [0, 31, 227, 252, 805, 826] 832 64 = [0, 31, 227, 252, 805, 826] := by decide +kernel
theorem gc960 : grFrom 4 [0, 31, 227, 252, 805, 826] 896 64 = [0, 31, 227, 252, 805, 826] := by decide +kernel
theorem gc1024 : grFrom 4 [0, 31, 227, 252, 805, 826] 960 64 = [0, 31, 227, 252, 805, 826, 966, 985] := by decide +kernel
theorem gc1088 : grFrom 4 [0, 31, 227, 252, 805, 826, 966, 985] 1024 64 = [0, 31, 227, 252, 805, 826, 966, 985] := by decide +kernel
theorem gc1152 : grFrom 4 [0, 31, 227, 252, 805, 826, 966, 985] 1088 64 = [0, 31, 227, 252, 805, 826, 966, 985] := by decide +kernel
theorem gc1216 : grFrom 4 [0, 31, 227, 252, 805, 826, 966, 985] 1152 64 = [0, 31, 227, 252, 805, 826, 966, 985] := by decide +kernel
theorem gc1280 : grFrom 4 [0, 31, 227, 252, 805, 826, 966, 985] 1216 64 = [0, 31, 227, 252, 805, 826, 966, 985] := by decide +kernel
theorem gc1344 : grFrom 4 [0, 31, 227, 252, 805, 826, 966, 985] 1280 64 = [0, 31, 227, 252, 805, 826, 966, 985] := by decide +kernel
theorem gc1408 : grFrom 4 [0, 31, 227, 252, 805, 826, 966, 985] 1344 64 = [0, 31, 227, 252, 805, 826, 966, 985, 1354, 1365] := by decide +kernel
theorem gc1463 : grFrom 4 [0, 31, 227, 252, 805, 826, 966, 985, 1354, 1365] 1408 55 = [0, 31, 227, 252, 805, 826, 966, 985, 1354, 1365, 1449, 1462] := by decide +kernel
theorem gr_enough4 : 12 ≤ (gr 4 1463).length := by
  have h0 : gr 4 0 = [] := rfl
  have h1 : gr 4 64 = _ := (grFrom_is 4 h0 64).trans gc64
  have h2 : gr 4 128 = _ := (grFrom_is 4 h1 64).trans gc128
  have h3 : gr 4 192 = _ := (grFrom_is 4 h2 64).trans gc192
  have h4 : gr 4 256 = _ := (grFrom_is 4 h3 64).trans gc256
  have h5 : gr 4 320 = _ := (grFrom_is 4 h4 64).trans gc320
  have h6 : gr 4 384 = _ := (grFrom_is 4 h5 64).trans gc384
  have h7 : gr 4 448 = _ := (grFrom_is 4 h6 64).trans gc448
  have h8 : gr 4 512 = _ := (grFrom_is 4 h7 64).trans gc512
  have h9 : gr 4 576 = _ := (grFrom_is 4 h8 64).trans gc576
  have h10 : gr 4 640 = _ := (grFrom_is 4 h9 64).trans gc640
  have h11 : gr 4 704 = _ := (grFrom_is 4 h10 64).trans gc704
  have h12 : gr 4 768 = _ := (grFrom_is 4 h11 64).trans gc768
  have h13 : gr 4 832 = _ := (grFrom_is 4 h12 64).trans gc832
  have h14 : gr 4 896 = _ := (grFrom_is 4 h13 64).trans gc896
  have h15 : gr 4 960 = _ := (grFrom_is 4 h14 64).trans gc960
  have h16 : gr 4 1024 = _ := (grFrom_is 4 h15 64).trans gc1024
  have h17 : gr 4 1088 = _ := (grFrom_is 4 h16 64).trans gc1088
  have h18 : gr 4 1152 = _ := (grFrom_is 4 h17 64).trans gc1152
  have h19 : gr 4 1216 = _ := (grFrom_is 4 h18 64).trans gc1216
  have h20 : gr 4 1280 = _ := (grFrom_is 4 h19 64).trans gc1280
  have h21 : gr 4 1344 = _ := (grFrom_is 4 h20 64).trans gc1344
  have h22 : gr 4 1408 = _ := (grFrom_is 4 h21 64).trans gc1408
  have h23 : gr 4 1463 = _ := (grFrom_is 4 h22 55).trans gc1463
  rw [h23]
  decide
theorem gr_enough {M : Nat} (h : M ≤ 2) : 12 ≤ (gr (2 * M) 1463).length := by
  obtain rfl | rfl | rfl : M = 0 ∨ M = 1 ∨ M = 2 := by omega
  · exact Nat.le_trans gr_enough0 (gr_mono _ (by omega))
  · exact Nat.le_trans gr_enough2 (gr_mono _ (by omega))
  · exact gr_enough4
/-- All words are looked at. -/
structure GW (M W : Nat) : Prop where
  eq : W = 16384
  len : 12 ≤ (gr (2 * M) W).length
theorem GW.ex {M : Nat} (h : M ≤ 2) : ∃ W, GW M W := by
  obtain ⟨W, hW⟩ : ∃ W, W = 16384 := ⟨_, rfl⟩
  exact ⟨W, hW, Nat.le_trans (gr_enough h) (gr_mono _ (by omega))⟩
/-- The first words, as integers. -/
def gI (d k : Nat) : List Int := (gr d k).map Int.ofNat
theorem gI_len (d k : Nat) : (gI d k).length = (gr d k).length := by simp [gI]
theorem gI_yes {d W : Nat} (h : farB d (gr d W) W = true) : gI d (W + 1) = gI d W ++ [(W : Int)] := by simp [gI, gr_yes h]
theorem gI_no {d W : Nat} (h : farB d (gr d W) W = false) : gI d (W + 1) = gI d W := by simp [gI, gr_no h]
/-- The n words of a greedy scheme. -/
def gwI (M n W : Nat) : List Int := ((gr (2 * M) W).take n).map Int.ofNat
theorem gwI_len {M n W : Nat} (hG : GW M W) (hn : n ≤ 12) : (gwI M n W).length = n := by
  have := hG.len
  simp [gwI]; omega
theorem gwI_of {M n k W : Nat} (hk : k ≤ W) (h : (gr (2 * M) k).length = n) : gI (2 * M) k = gwI M n W := by
  unfold gI gwI
  rw [gr_take (2 * M) hk (by omega), List.take_of_length_le (by omega)]
theorem gwI_take {M n k W : Nat} (hk : k ≤ W) (h : n ≤ (gr (2 * M) k).length) : ((gr (2 * M) k).take n).map Int.ofNat = gwI M n W := by
  unfold gwI
  rw [gr_take (2 * M) hk h]
/-- The greatest of them. -/
def gLast (M n W : Nat) : Nat := (gr (2 * M) W).getD (n - 1) 0
theorem gLast_lt {M n W : Nat} (hG : GW M W) (hn : 1 ≤ n ∧ n ≤ 12) : gLast M n W < 16384 := by
  have := hG.len
  have hl : n - 1 < (gr (2 * M) W).length := by omega
  unfold gLast
  have e : (gr (2 * M) W).getD (n - 1) 0 = (gr (2 * M) W)[n - 1] := by simp [List.getD, hl]
  rw [e]
  have h1 := gr_lt _ _ (List.getElem_mem hl)
  have h2 := hG.eq
  omega
theorem gwI_mem {M n W : Nat} (hG : GW M W) (hn : n ≤ 12) {z : Int} : z ∈ gwI M n W ↔ ∃ j, j < n ∧ z = ((gr (2 * M) W).getD j 0 : Nat) := by
  have he := hG.len
  unfold gwI
  rw [List.mem_map]
  constructor
  · rintro ⟨a, ha, rfl⟩
    obtain ⟨j, hj, rfl⟩ := List.getElem_of_mem ha
    rw [List.length_take] at hj
    refine ⟨j, by omega, ?_⟩
    rw [List.getElem_take]
    have hl : j < (gr (2 * M) W).length := by omega
    simp [List.getD, hl]
  · rintro ⟨j, hj, rfl⟩
    have hl : j < (gr (2 * M) W).length := by omega
    refine ⟨(gr (2 * M) W)[j], ?_, by simp [List.getD, hl]⟩
    rw [List.mem_iff_getElem]
    exact ⟨j, by rw [List.length_take]; omega, by rw [List.getElem_take]⟩
theorem gwI_le {M n W : Nat} (hG : GW M W) (hn : 1 ≤ n ∧ n ≤ 12) : ∀ z ∈ gwI M n W, 0 ≤ z ∧ z ≤ (gLast M n W : Int) := by
  intro z hz
  obtain ⟨j, hj, rfl⟩ := (gwI_mem hG hn.2).1 hz
  have he := hG.len
  unfold gLast
  by_cases e : j = n - 1
  · subst e; omega
  · have := gr_asc (2 * M) W (i := j) (j := n - 1) (by omega) (by omega)
    omega
theorem gwI_max {M n W : Nat} (hG : GW M W) (hn : 1 ≤ n ∧ n ≤ 12) : Lib.maxOf (gwI M n W) = (gLast M n W : Int) :=
  maxOf_is ((gwI_mem hG hn.2).2 ⟨n - 1, by omega, rfl⟩) (fun z hz => (gwI_le hG hn z hz).2)
/-- How many answers they need. -/
def gQ (M n W : Nat) : Nat := Lib.bitLen (gLast M n W)
theorem gQ_le {M n W : Nat} (hG : GW M W) (hn : 1 ≤ n ∧ n ≤ 12) : gQ M n W ≤ 14 := bitLen_14 (gLast_lt hG hn)
theorem gQ_iff {M n q W : Nat} (hG : GW M W) (hn : 1 ≤ n ∧ n ≤ 12) (hq : q ≤ 14) : n ≤ (gr (2 * M) (2 ^ q)).length ↔ gQ M n W ≤ q := by
  have hl := gLast_lt hG hn
  have he := hG.len
  have h2 : 2 ^ q ≤ W := by rw [hG.eq]; exact pow_mono14 hq
  unfold gQ
  rw [← bitLen_lt (by omega)]
  have := gr_last (2 * M) (V := 2 ^ q) (W := W) (n := n - 1) h2 (by omega)
  unfold gLast
  rw [this]
  omega
theorem gQ_ok {M n W : Nat} (hG : GW M W) (hn : 1 ≤ n ∧ n ≤ 12) : sOK (gwI M n W) (gQ M n W : Int) = true := by
  rw [sOK_iff, gwI_len hG hn.2]
  have hq := gQ_le hG hn
  refine ⟨hn, by omega, fun u hu => ?_⟩
  rw [Int.toNat_natCast, wOK_iff]
  have h1 := gwI_le hG hn u hu
  have h2 := (bitLen_lt (x := gLast M n W) (q := gQ M n W) (by have := gLast_lt hG hn; omega)).2 (Nat.le_refl _)
  have e : (2 : Int) ^ gQ M n W = ((2 ^ gQ M n W : Nat) : Int) := by norm_cast
  rw [e]
  omega
/-- Whether the first of a list are far from a word. -/
def farTo (d : Nat) (ws : List Nat) (x j : Nat) : Prop := ∀ i, i < j → d < apartN x (ws.getD i 0)
theorem farTo_all {d x : Nat} {ws : List Nat} (h : farTo d ws x ws.length) : farB d ws x = true := by
  unfold farB
  rw [List.all_eq_true]
  intro o ho
  obtain ⟨i, hi, rfl⟩ := List.getElem_of_mem ho
  have := h i hi
  simpa [List.getD, hi] using this
theorem farTo_not {d x j : Nat} {ws : List Nat} (hj : j < ws.length) (h : ¬ d < apartN x (ws.getD j 0)) : farB d ws x = false := by
  unfold farB
  rw [List.all_eq_false]
  exact ⟨ws[j], List.getElem_mem hj, by simpa [List.getD, hj] using h⟩
theorem farTo_step {d x j : Nat} {ws : List Nat} (h : farTo d ws x j) (hj : d < apartN x (ws.getD j 0)) : farTo d ws x (j + 1) := fun i hi => by
  by_cases e : i = j
  · subst e; exact hj
  · exact h i (by omega)
theorem filt_in {p : Nat → Bool} : ∀ {k i : Nat}, i < k → p i = true → (i : Int) ∈ filt p k
  | 0, i, h, _ => absurd h (by omega)
  | k + 1, i, h, hp => by
    by_cases e : i = k
    · subst e; rw [filt_yes hp]; simp
    · have := filt_in (p := p) (k := k) (i := i) (by omega) hp
      cases hq : p k with
      | true => rw [filt_yes hq]; simp [this]
      | false => rw [filt_no hq]; exact this
theorem fit_far {ws : List Nat} {x m : Nat} : (fitL ws x m).length = 0 ↔ farB m ws x = true := by
  unfold fitL fitTo farB
  rw [List.all_eq_true]
  constructor
  · intro h o ho
    obtain ⟨i, hi, rfl⟩ := List.getElem_of_mem ho
    rw [decide_eq_true_iff]
    rcases Nat.lt_or_ge m (apartN x ws[i]) with h1 | h1
    · exact h1
    · exfalso
      have e : ws.getD i 0 = ws[i] := by simp [List.getD, hi]
      have hm : (i : Int) ∈ filt (fun j => decide (apartN (ws.getD j 0) x ≤ m)) ws.length := filt_in hi (by rw [decide_eq_true_iff, e, apartN_comm]; exact h1)
      rw [List.eq_nil_of_length_eq_zero h] at hm
      cases hm
  · intro h
    rw [filt_none ws.length (fun i hi => ?_)]
    · rfl
    · have := h ws[i] (List.getElem_mem hi)
      rw [decide_eq_true_iff] at this
      rw [decide_eq_false_iff_not]
      have e : ws.getD i 0 = ws[i] := by simp [List.getD, hi]
      rw [e, apartN_comm]
      omega
end Go.Proofs.Ythjkmfjhcohhbaa
