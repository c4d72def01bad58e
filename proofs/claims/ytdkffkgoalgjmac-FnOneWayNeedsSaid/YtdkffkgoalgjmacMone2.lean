/- The draws of one-way needs. -/
import Derived.Test.YtdkffkgoalgjmacQuest
import Derived.Test.YtdkffkgoalgjmacCounts
import Derived.Test.YtdkffkgoalgjmacUpd
import Derived.Test.YtdkffkgoalgjmacNums
import Derived.Test.YtdkffkgoalgjmacAfter
import Derived.Test.YtdkffkgoalgjmacTold
import Derived.Test.YtdkffkgoalgjmacCur
import Derived.Test.YtdkffkgoalgjmacOwn
namespace Go.Proofs.Ytdkffkgoalgjmac
open Go.RowKit Go.ChangeShapes Go.WideShapes
set_option linter.unusedVariables false

def ways (q : Nat) : Nat → Nat
  | 0 => 1
  | k + 1 => ways q k * (q - k) / (k + 1)
def ballTo (q : Nat) : Nat → Nat
  | 0 => 0
  | k + 1 => ballTo q k + ways q k
/-- The ways in which at most k of q answers can be chosen. -/
def ball (q k : Nat) : Nat := ballTo q (k + 1)
theorem ways_bd (q k : Nat) (hq : q ≤ 30) (hk : k ≤ q) : ways q k * (q - k) ≤ 1099511627776 ∧ ways q k ≤ 1073741824 ∧ ballTo q k ≤ 1073741824 ∧ ballTo q (k + 1) ≤ 1073741824 := by
  have : ∀ q, q ≤ 30 → ∀ k, k ≤ q → (ways q k * (q - k) ≤ 1099511627776 ∧ ways q k ≤ 1073741824 ∧ ballTo q k ≤ 1073741824 ∧ ballTo q (k + 1) ≤ 1073741824) := by decide +kernel
  exact this q hq k hk
theorem ways_prod (q k : Nat) (hk : k ≤ q) : (ways q k : Int) * ((q : Int) - (k : Int)) = ((ways q k * (q - k) : Nat) : Int) := by
  rw [show ((q : Int) - (k : Int)) = ((q - k : Nat) : Int) by omega]
  norm_cast
theorem ways_step (q k : Nat) (hk : k ≤ q) : (ways q k : Int) * ((q : Int) - (k : Int)) / ((k : Int) + 1) = ((ways q (k + 1) : Nat) : Int) := by
  rw [ways_prod q k hk, ways]
  norm_cast
theorem ball_bd (q k : Nat) (hq : q ≤ 30) (hk : k ≤ q) : ball q k ≤ 1073741824 := (ways_bd q k hq hk).2.2.2
theorem ball_pos (q k : Nat) (hq : q ≤ 30) (hk : k ≤ q) : 1 ≤ ball q k := by
  have : ∀ q, q ≤ 30 → ∀ k, k ≤ q → 1 ≤ ball q k := by decide +kernel
  exact this q hq k hk
/-- Whether k is a number of q answers. -/
def part (q k : Int) : Bool := inB q 0 30 && inB k 0 q
theorem part_iff {q k : Int} : part q k = true ↔ (0 ≤ q ∧ q ≤ 30) ∧ 0 ≤ k ∧ k ≤ q := by simp [part, inB]

end Go.Proofs.Ytdkffkgoalgjmac
namespace Go.Proofs.Ytdkffkgoalgjmac
open Go.RowKit Go.ChangeShapes Go.WideShapes
set_option linter.unusedVariables false

theorem ball_at {q k j : Nat} (hj : j ≤ min k q + 1) (h : ¬ (j ≤ k ∧ j ≤ q)) : ballTo q j = ball q (min k q) := by
  have : j = min k q + 1 := by omega
  rw [this]; rfl
end Go.Proofs.Ytdkffkgoalgjmac
namespace Go.Proofs.Ytdkffkgoalgjmac
open Go.RowKit Go.ChangeShapes Go.WideShapes
set_option linter.unusedVariables false

/-- The weight of a number with a false answers, of M at most, with q questions ahead. -/
def wOf (M q : Nat) (a : Nat) : Int := (ball q (min (M - a) q) : Int)
def tabs (M q : Nat) : List Int := (List.range (M + 1)).map (wOf M q)
theorem tabs_len (M q : Nat) : (tabs M q).length = M + 1 := by simp [tabs]
theorem wOf_bd (M q a : Nat) (hq : q ≤ 30) : 1 ≤ wOf M q a ∧ wOf M q a ≤ 1073741824 := by
  have h1 := ball_bd q (min (M - a) q) hq (by omega)
  have h2 := ball_pos q (min (M - a) q) hq (by omega)
  unfold wOf
  omega
theorem tabs_at {M q a : Nat} (h : a < M + 1) : (tabs M q)[a]? = some (wOf M q a) := by
  simp [tabs, h]

/-- The first k weights of the table. -/
def tabTo (M q k : Nat) : List Int := (List.range k).map (wOf M q)
theorem tabTo_succ (M q k : Nat) : tabTo M q (k + 1) = tabTo M q k ++ [wOf M q k] := by simp [tabTo, List.range_succ]
theorem tabTo_len (M q k : Nat) : (tabTo M q k).length = k := by simp [tabTo]

theorem row_res {w : World} {l : List Int} {lo g : Nat} (h : lo ≤ g) (hr : w.heap[g]? = some (.cells (l.map (Value.int .i64)).toArray 3 (0, 0))) : Res w lo w.heap.size (some ⟨g, 0, none⟩) l :=
  ⟨.inr ⟨g, _, rfl, h, row_ltI hr, hr, by simp, fun j x hx => by simp [hx]⟩, Nat.le_refl _⟩
end Go.Proofs.Ytdkffkgoalgjmac
namespace Go.Proofs.Ytdkffkgoalgjmac
open Go.RowKit Go.ChangeShapes Go.WideShapes
set_option linter.unusedVariables false

/-- The weight of a number with z false answers (-1: not open), of M at most, with q questions ahead. -/
def numW (q M : Nat) (z : Int) : Nat := if 0 ≤ z then ball q (min (M - z.toNat) q) else 0
theorem numW_no {q M : Nat} {z : Int} (h : ¬ 0 ≤ z) : numW q M z = 0 := if_neg h
theorem numW_at (q M a : Nat) : ((numW q M (a : Int) : Nat) : Int) = wOf M q a := by
  unfold numW wOf
  rw [if_pos (by omega), Int.toNat_natCast]
theorem numW_bd (q M : Nat) (z : Int) (hq : q ≤ 30) : numW q M z ≤ 1073741824 := by
  by_cases h : 0 ≤ z
  · unfold numW; rw [if_pos h]; exact ball_bd _ _ hq (by omega)
  · rw [numW_no h]; omega
/-- The weights of the first k numbers together. -/
def stWTo (q M : Nat) (zs : List Int) : Nat → Nat
  | 0 => 0
  | k + 1 => stWTo q M zs k + numW q M (zs.getD k (-1))
def stW (q M : Nat) (zs : List Int) : Nat := stWTo q M zs zs.length
theorem stWTo_bd (q M : Nat) (zs : List Int) (hq : q ≤ 30) : ∀ k, stWTo q M zs k ≤ k * 1073741824
  | 0 => by simp [stWTo]
  | k + 1 => by
    have h1 := stWTo_bd q M zs hq k
    have h2 := numW_bd q M (zs.getD k (-1)) hq
    rw [stWTo]
    omega
theorem stW_bd {q M : Nat} {zs : List Int} (hq : q ≤ 30) (hn : zs.length ≤ 12) : stW q M zs ≤ 12884901888 := by
  have := stWTo_bd q M zs hq zs.length
  unfold stW
  omega

end Go.Proofs.Ytdkffkgoalgjmac
namespace Go.Proofs.Ytdkffkgoalgjmac
open Go.RowKit Go.ChangeShapes Go.WideShapes
set_option linter.unusedVariables false

theorem least_ex (p : Nat → Prop) [DecidablePred p] : ∀ n, p n → ∃ b, b ≤ n ∧ p b ∧ ∀ j, j < b → ¬ p j := by
  intro n
  induction n using Nat.strongRecOn with
  | ind n ih =>
    intro h
    by_cases hx : ∃ j, j < n ∧ p j
    · obtain ⟨j, hj, hp⟩ := hx
      obtain ⟨b, hb, h1, h2⟩ := ih j hj hp
      exact ⟨b, by omega, h1, h2⟩
    · exact ⟨n, Nat.le_refl _, h, fun j hj hp => hx ⟨j, hj, hp⟩⟩
theorem numW_30 {M : Nat} (hM : M ≤ 2) (z : Int) : numW 30 M z ≤ 466 := by
  have : ∀ j, j ≤ 2 → ball 30 j ≤ 466 := by decide +kernel
  by_cases h : 0 ≤ z
  · unfold numW; rw [if_pos h]; exact this _ (by omega)
  · rw [numW_no h]; omega
theorem stWTo_30 {M : Nat} (hM : M ≤ 2) (zs : List Int) : ∀ k, stWTo 30 M zs k ≤ k * 466
  | 0 => by simp [stWTo]
  | k + 1 => by
    have h1 := stWTo_30 hM zs k
    have h2 := numW_30 hM (zs.getD k (-1))
    rw [stWTo]
    omega
theorem bound_ex (M : Nat) (zs : List Int) (hM : M ≤ 2) (hn : zs.length ≤ 12) : ∃ b, b ≤ 30 ∧ stW b M zs ≤ 2 ^ b ∧ ∀ j, j < b → ¬ stW j M zs ≤ 2 ^ j :=
  least_ex (fun b => stW b M zs ≤ 2 ^ b) 30 (by
    have := stWTo_30 hM zs zs.length
    show stW 30 M zs ≤ 2 ^ 30
    unfold stW
    omega)
theorem pow_le30 (k : Nat) (h : k ≤ 30) : (1 : Int) ≤ 2 ^ k ∧ (2 : Int) ^ k ≤ 1073741824 := by
  have : ∀ k, k ≤ 30 → ((1 : Int) ≤ 2 ^ k ∧ (2 : Int) ^ k ≤ 1073741824) := by decide +kernel
  exact this k h
theorem wrap_pow30 (k : Nat) (h : k ≤ 30) : wrap64 ((2 : Int) ^ k) = 2 ^ k := by
  have : ∀ k, k ≤ 30 → wrap64 ((2 : Int) ^ k) = 2 ^ k := by decide +kernel
  exact this k h
theorem pow_cast (k : Nat) : (((2 ^ k : Nat)) : Int) = (2 : Int) ^ k := by norm_cast
end Go.Proofs.Ytdkffkgoalgjmac
namespace Go.Proofs.Ytdkffkgoalgjmac
open Go.RowKit Go.ChangeShapes Go.WideShapes
set_option linter.unusedVariables false

theorem l1Least_any (x y : Int) (w : World) :
    Calls Try.prog 145 #[.int .i64 x, .int .i64 y] w fun e w' => e = .returned (.int .i64 (if x ≤ y then x else y)) ∧ w' = w := by
  by_cases h : x < y
  · rw [if_pos (by omega)]
    go_enter Try.func145, Try.ntmps145
    go_wp2
    go_ret
    exact ⟨rfl, rfl⟩
  · by_cases h2 : x = y
    · subst h2
      rw [if_pos (by omega)]
      go_enter Try.func145, Try.ntmps145
      go_wp2
      go_ret
      exact ⟨rfl, rfl⟩
    · have h3 : y < x := by omega
      rw [if_neg (by omega)]
      go_enter Try.func145, Try.ntmps145
      go_wp2
      go_ret
      exact ⟨rfl, rfl⟩
/-- Whether most of q answers can be false, and no more than can be at all. -/
def mOK (q k : Int) : Bool := part q k && inB k 0 2
theorem mOK_iff {q k : Int} : mOK q k = true ↔ ((0 ≤ q ∧ q ≤ 30) ∧ 0 ≤ k ∧ k ≤ q) ∧ 0 ≤ k ∧ k ≤ 2 := by
  unfold mOK; rw [Bool.and_eq_true, part_iff, inB_iff]
theorem least_part {q k : Int} (hq : inB q 0 30 = true) : inB k 0 (if (2 : Int) ≤ q then 2 else q) = mOK q k := by
  have := inB_iff.1 hq
  rw [Bool.eq_iff_iff, mOK_iff, inB_iff]
  split <;> omega
theorem mOK_noq {q k : Int} (hq : inB q 0 30 = false) : mOK q k = false := by simp [mOK, part, hq]

end Go.Proofs.Ytdkffkgoalgjmac
namespace Go.Proofs.Ytdkffkgoalgjmac
open Go.RowKit Go.ChangeShapes Go.WideShapes
set_option linter.unusedVariables false

/-- A value that is a number of some kind. -/
def isNum (p : Int → Bool) (v : Value) : Bool := match v with | .int .i64 x => p x | _ => false
theorem isNum_some {p : Int → Bool} {v : Value} (h : isNum p v = true) : ∃ x : Int, p x = true ∧ v = .int .i64 x := by
  unfold isNum at h
  split at h
  · exact ⟨_, h, rfl⟩
  · cases h
theorem list_num {p : Int → Bool} (w : World) (cs : Array Value) (t : TypeId) (m : Nat) (hm : m ≤ cs.size) (h : cs.toList.all (isNum p) = true) : ∀ j, j < m → ∃ x : Int, p x = true ∧ (w.alloc (.cells cs t)).cell? ⟨w.heap.size, j, none⟩ = some (.int .i64 x) := fun j hj => by
  have hj2 : j < cs.size := by omega
  rw [World.cell?_alloc_at _ _ _ _ rfl, Array.getElem?_eq_getElem hj2]
  obtain ⟨x, h1, e⟩ := isNum_some (List.all_eq_true.1 h cs[j] (by simp))
  exact ⟨x, h1, by rw [e]⟩
/-- What a drawn number leaves: the cursor, at most d further on. -/
def DrewNum (p : Int → Bool) (d : Nat) (w : World) (b : Nat) (A : Option Addr) (n c k : Nat) (e : Ending) (w' : World) : Prop :=
  ∃ x : Int, e = .returned (.int .i64 x) ∧ p x = true ∧ ∃ k2 : Nat, k2 ≤ k + d ∧ Cur w' b A n c k2 ∧ w.grownBy w' (some b)

set_option maxHeartbeats 1000000 in
theorem amongP_any (p : Int → Bool) (b : Nat) (A : Option Addr) (n c k : Nat) (m g c2 : Nat) (w : World) (h : Cur w b A n c k) (hk : k ≤ 999998) (hn : n ≤ 65536) (h1 : 1 ≤ m) (hm : m ≤ 1000000)
    (hL : ∀ j, j < m → ∃ x : Int, p x = true ∧ w.cell? ⟨g, j, none⟩ = some (.int .i64 x)) (hgb : g ≠ b) (hgl : g < w.heap.size) :
    Calls Try.prog 138 #[.pointer (some ⟨b, 0, none⟩), .slice (some ⟨g, 0, none⟩) m c2] w (DrewNum p 2 w b A n c k) := by
  have HC := Lib.hid h
  have HL := Lib.hid hL
  have HG := Lib.hid hgb
  clear h hL hgb
  go_enter Try.func138, Try.ntmps138
  go_wp2_with fail
  refine (pick_any b A n c k m w HC.out hk hn h1 hm).mono ?_
  rintro e w1 ⟨v, k2, hv, rfl, hk2, hc1, hg1⟩
  obtain ⟨x, hx1, hcell⟩ := HL.out v hv
  have hc : w1.cell? ⟨g, v, none⟩ = some (.int .i64 x) := (World.cell?_of_block (hg1.block g hgl (fun e => HG.out (by injection e)))).trans hcell
  have hvi : (v : Int) < (m : Int) := by omega
  have HX := Lib.hid hx1
  have H1 := Lib.hid (show ∃ k2 : Nat, k2 ≤ k + 2 ∧ Cur w1 b A n c k2 ∧ w.grownBy w1 (some b) from ⟨k2, hk2, hc1, hg1⟩)
  clear hc1 hg1 hcell hx1
  go_wp2_with fail
  refine bodyPost_ret (results_tmp rfl _ _ _) rfl ⟨x, rfl, HX.out, H1.out⟩
/-- The greatest number of lies that is drawn. -/
def liesP (x : Int) : Bool := decide (-1 ≤ x ∧ x ≤ 3)
theorem lies_any (b : Nat) (A : Option Addr) (n c k : Nat) (w : World) (h : Cur w b A n c k) (hk : k ≤ 999998) (hn : n ≤ 65536) :
    Calls Try.prog 85 #[.pointer (some ⟨b, 0, none⟩)] w (DrewNum liesP 2 w b A n c k) := by
  have HC := Lib.hid h
  clear h
  go_enter Try.func85, Try.ntmps85
  go_wp2_with fail
  refine (amongP_any liesP b A n c k 12 w.heap.size 12 _ (HC.out.alloc _) hk hn (by omega) (by omega) ?hL (by have := HC.out.lt; omega) (by simp)).mono ?_
  case hL => exact list_num w _ _ 12 (Nat.le_refl _) rfl
  rintro e w1 ⟨x, rfl, hx, k2, hk2, hc1, hg1⟩
  have HX := Lib.hid hx
  have H1 := Lib.hid (show ∃ k2 : Nat, k2 ≤ k + 2 ∧ Cur w1 b A n c k2 ∧ w.grownBy w1 (some b) from ⟨k2, hk2, hc1, (only_alloc (World.grownBy.refl w _) _).trans hg1⟩)
  clear hc1 hg1 hx
  go_wp2_with fail
  refine bodyPost_ret (results_tmp rfl _ _ _) rfl ⟨x, rfl, HX.out, H1.out⟩
/-- The number of numbers that is drawn. -/
def manyP (x : Int) : Bool := decide (0 ≤ x ∧ x ≤ 13)
theorem many_any (b : Nat) (A : Option Addr) (n c k : Nat) (w : World) (h : Cur w b A n c k) (hk : k ≤ 999998) (hn : n ≤ 65536) :
    Calls Try.prog 84 #[.pointer (some ⟨b, 0, none⟩)] w (DrewNum manyP 2 w b A n c k) := by
  have HC := Lib.hid h
  clear h
  go_enter Try.func84, Try.ntmps84
  go_wp2_with fail
  refine (amongP_any manyP b A n c k 16 w.heap.size 16 _ (HC.out.alloc _) hk hn (by omega) (by omega) ?hL (by have := HC.out.lt; omega) (by simp)).mono ?_
  case hL => exact list_num w _ _ 16 (Nat.le_refl _) rfl
  rintro e w1 ⟨x, rfl, hx, k2, hk2, hc1, hg1⟩
  have HX := Lib.hid hx
  have H1 := Lib.hid (show ∃ k2 : Nat, k2 ≤ k + 2 ∧ Cur w1 b A n c k2 ∧ w.grownBy w1 (some b) from ⟨k2, hk2, hc1, (only_alloc (World.grownBy.refl w _) _).trans hg1⟩)
  clear hc1 hg1 hx
  go_wp2_with fail
  refine bodyPost_ret (results_tmp rfl _ _ _) rfl ⟨x, rfl, HX.out, H1.out⟩
/-- Any number. -/
def anyP (x : Int) : Bool := true
set_option maxHeartbeats 2000000 in
theorem question_any (b : Nat) (A : Option Addr) (n c k : Nat) (N : Nat) (w : World) (h : Cur w b A n c k) (hk : k ≤ 999994) (hn : n ≤ 65536) (hN : N ≤ 1048576) :
    Calls Try.prog 133 #[.pointer (some ⟨b, 0, none⟩), .int .i64 (N : Int)] w (DrewNum anyP 4 w b A n c k) := by
  have HC := Lib.hid h
  have HL13 := Lib.hid (fun W => l1Least_any (N : Int) 13 W)
  have HL12 := Lib.hid (fun W => l1Least_any (N : Int) 12 W)
  rw [show (if (N : Int) ≤ 13 then (N : Int) else 13) = ((min N 13 : Nat) : Int) by split <;> omega] at HL13
  rw [show (if (N : Int) ≤ 12 then (N : Int) else 12) = ((min N 12 : Nat) : Int) by split <;> omega] at HL12
  obtain ⟨a, ha⟩ : ∃ a, min N 13 = a := ⟨_, rfl⟩
  obtain ⟨d, hd⟩ : ∃ d, min N 12 = d := ⟨_, rfl⟩
  have ha13 : a ≤ 13 := by omega
  have hd12 : d ≤ 12 := by omega
  rw [ha] at HL13
  rw [hd] at HL12
  have HM13 := Lib.hid (fun W => l1Most_any 0 (a : Int) W)
  have HM12 := Lib.hid (fun W => l1Most_any 0 (d : Int) W)
  rw [show (if (a : Int) ≤ 0 then 0 else (a : Int)) = (a : Int) by split <;> omega] at HM13
  rw [show (if (d : Int) ≤ 0 then 0 else (d : Int)) = (d : Int) by split <;> omega] at HM12
  have hp := pow_le d hd12
  have hpn : 1 ≤ 2 ^ d ∧ 2 ^ d ≤ 4096 := by
    have : ∀ d, d ≤ 12 → 1 ≤ 2 ^ d ∧ 2 ^ d ≤ 4096 := by decide
    exact this d hd12
  have hpc := pow_cast d
  have HP := Lib.hid hpc
  have HPN := Lib.hid hpn
  clear h ha hd hpc hpn
  go_enter Try.func133, Try.ntmps133
  go_wp2_with fail
  refine (one_any b A n c k 24 w HC.out (by omega) hn (by omega) (by omega)).mono ?_
  rintro e w1 ⟨x, rfl, k1, hk1, hc1, hg1⟩
  have H1 := Lib.hid hc1
  have G1 := Lib.hid hg1
  clear hc1 hg1
  cases x
  · go_wp2_with (first | (go_at_call 145; refine (HL12.out _).mono ?_; rintro e w9 ⟨rfl, hw9⟩; have hw9 := hw9.symm; subst hw9) | (go_at_call 123; refine (HM12.out _).mono ?_; rintro e w9 ⟨rfl, hw9⟩; have hw9 := hw9.symm; subst hw9))
    rw [← HP.out]
    refine (pick_any b A n c k1 (2 ^ d) _ H1.out (by omega) hn HPN.out.1 (by have := HPN.out.2; omega)).mono ?_
    rintro e w2 ⟨v, k2, hv, rfl, hk2, hc2, hg2⟩
    have H2 := Lib.hid (show ∃ k2 : Nat, k2 ≤ k + 4 ∧ Cur w2 b A n c k2 ∧ w.grownBy w2 (some b) from ⟨k2, by omega, hc2, G1.out.trans hg2⟩)
    clear hc2 hg2
    go_wp2_with fail
    refine bodyPost_ret (results_tmp rfl _ _ _) rfl ⟨_, rfl, rfl, H2.out⟩
  · go_wp2_with (first | (go_at_call 145; refine (HL13.out _).mono ?_; rintro e w9 ⟨rfl, hw9⟩; have hw9 := hw9.symm; subst hw9) | (go_at_call 123; refine (HM13.out _).mono ?_; rintro e w9 ⟨rfl, hw9⟩; have hw9 := hw9.symm; subst hw9))
    refine (amongP_any anyP b A n c k1 3 w1.heap.size 3 _ (H1.out.alloc _) (by omega) hn (by omega) (by omega) ?hL (by have := H1.out.lt; omega) (by simp)).mono ?_
    case hL => exact list_num w1 _ _ 3 (Nat.le_refl _) rfl
    rintro e w2 ⟨x, rfl, hx, k2, hk2, hc2, hg2⟩
    have H2 := Lib.hid (show ∃ k2 : Nat, k2 ≤ k + 4 ∧ Cur w2 b A n c k2 ∧ w.grownBy w2 (some b) from ⟨k2, by omega, hc2, (only_alloc G1.out _).trans hg2⟩)
    clear hc2 hg2
    go_wp2_with fail
    refine bodyPost_ret (results_tmp rfl _ _ _) rfl ⟨x, rfl, hx, H2.out⟩
def aheadP (x : Int) : Bool := decide (-1 ≤ x ∧ x ≤ 31)
end Go.Proofs.Ytdkffkgoalgjmac
namespace Go.Proofs.Ytdkffkgoalgjmac
open Go.RowKit Go.ChangeShapes Go.WideShapes
set_option linter.unusedVariables false

theorem farC_same {w w' : World} {b i : Nat} (hg : w.grownBy w' (some b)) (hi : i < w.heap.size) (hne : i ≠ b) : w'.heap[i]? = w.heap[i]? := hg.block i hi (fun e => hne (by injection e))
theorem Ins.far {w w' : World} {b lo hi : Nat} {A : Option Addr} {zs : List Int} (h : Ins w lo hi A zs) (hg : w.grownBy w' (some b)) (hb : b < lo) : Ins w' lo hi A zs :=
  ⟨fun h0 => by
    obtain ⟨g, o, e, h1, h2, hc⟩ := h.ints h0
    exact ⟨g, o, e, h1, h2, fun j x hx => (World.cell?_of_block (a := ⟨g, o + j, none⟩) (farC_same (i := g) hg (Nat.lt_of_lt_of_le h2 h.top) (Nat.ne_of_gt (Nat.lt_of_lt_of_le hb h1)))).trans (hc j x hx)⟩, Nat.le_trans h.top hg.size⟩
theorem owns_farC {w w' : World} {b B n : Nat} {v : Value} {xs : List Value} {e : TypeId} (h : w.ownsRow B e 1 v n xs) (hg : w.grownBy w' (some b)) (hb : b < B) : w'.ownsRow B e 1 v n xs :=
  h.kept hg (by
    cases hv : v.ownBlock with
    | none => exact .inl rfl
    | some g => exact .inr (fun e' => by injection e' with e'; have := h.lt g hv; omega))
theorem cur_ownC {w w1 : World} {b B n c k N : Nat} {A : Option Addr} {v : Value} {xs : List Value} {e : TypeId} (h : Cur w b A n c k) (ho : w.ownsRow B e 1 v N xs) (hB : b < B) (hg : w.grownBy w1 v.ownBlock) : Cur w1 b A n c k :=
  h.grown hg (fun g e' => by have := ho.lt g e'; omega)
theorem grown_ownC {a w w1 : World} {b B n : Nat} {v : Value} {xs : List Value} {e : TypeId} (h : a.grownBy w (some b)) (ho : w.ownsRow B e 1 v n xs) (hB : a.heap.size ≤ B) (hg : w.grownBy w1 v.ownBlock) : a.grownBy w1 (some b) :=
  ⟨hg.os.trans h.os, hg.tape.trans h.tape, hg.output.trans h.output, Nat.le_trans h.size hg.size, fun j hj hne => (hg.block j (Nat.lt_of_lt_of_le hj h.size) (fun e' => by have := ho.lt j e'.symm; omega)).trans (h.block j hj hne)⟩
theorem own_placeC {w : World} {lo hi k : Nat} {A : Option Addr} {l : List Int} (h : Own w lo hi A l) (hk : k < l.length) :
    ∃ g cur, A = some ⟨g, 0, none⟩ ∧ lo ≤ g ∧ g < hi ∧ w.heap[g]? = some (.cells cur 3 (0, 0)) ∧ w.cell? ⟨g, k, none⟩ = some (.int .i64 (l.getD k 0)) ∧ ∀ v : Int, Own (w.setCell ⟨g, k, none⟩ (.int .i64 v)) lo hi (some ⟨g, 0, none⟩) (l.set k v) := by
  rcases h with ⟨_, rfl⟩ | ⟨g, cur, rfl, h1, h2, hr, h3, h4⟩
  · simp at hk
  · refine ⟨g, cur, rfl, h1, h2, hr, ?_, fun v => .inr ⟨g, _, rfl, h1, h2, row_setI hr k _, by simpa using h3, fun j x hx => ?_⟩⟩
    · rw [row_cellI hr, h4 k l[k] (List.getElem?_eq_getElem hk)]
      simp [List.getD, hk]
    · rw [List.getElem?_set] at hx
      by_cases hj : k = j
      · subst hj
        rw [if_pos rfl, if_pos hk] at hx
        injection hx with hx
        subst hx
        have : k < cur.size := by omega
        simp [this]
      · rw [if_neg hj] at hx
        rw [Array.getElem?_setIfInBounds_ne hj]
        exact h4 j x hx
theorem grown_setC (w : World) (g i : Nat) (u : Value) : w.grownBy (w.setCell ⟨g, i, none⟩ u) (some g) :=
  ⟨rfl, rfl, rfl, by simp [World.setCell], fun k hk hne => Below.heap_setCell w ⟨g, i, none⟩ u k (fun e => hne (by have e' : k = g := e; rw [e']))⟩
theorem grown_set_farC {a w : World} {b g i : Nat} (h : a.grownBy w (some b)) (hg : a.heap.size ≤ g) (u : Value) : a.grownBy (w.setCell ⟨g, i, none⟩ u) (some b) :=
  ⟨h.os, h.tape, h.output, by simpa [World.setCell] using h.size, fun j hj hne => (Below.heap_setCell w ⟨g, i, none⟩ u j (fun e => by have e' : j = g := e; omega)).trans (h.block j hj hne)⟩
theorem three_new (w : World) : ∀ (j : Nat) (u : Value), [Value.int .i64 0, .int .i64 0, .int .i64 0][j]? = some u → (w.alloc (.cells #[.int .i64 0, .int .i64 0, .int .i64 0] 3)).cell? ((⟨w.heap.size, 0, none⟩ : Addr).add j) = some u := by
  intro j u hu
  have hadd : (⟨w.heap.size, 0, none⟩ : Addr).add j = ⟨w.heap.size, j, none⟩ := by unfold Addr.add; split <;> simp_all
  rw [hadd, World.cell?_alloc_at _ _ _ _ rfl, ← hu]
  simp
def cntP (x : Int) : Bool := decide (0 ≤ x ∧ x ≤ 8)
def plcP (x : Int) : Bool := decide (1 ≤ x ∧ x ≤ 3)
def oddP (x : Int) : Bool := decide (-1 ≤ x ∧ x ≤ 9)
/-- A list that is drawn: short, in memory of its own; the cursor goes on. -/
def DrewL (P : Int → Prop) (lim d : Nat) (w : World) (b : Nat) (A : Option Addr) (n c k : Nat) (e : Ending) (w' : World) : Prop :=
  ∃ (zs : List Int) (B : Option Addr) (c' : Nat), e = .returned (.slice B zs.length c') ∧ zs.length ≤ lim ∧ (∀ z ∈ zs, P z) ∧ Res w' w.heap.size w'.heap.size B zs ∧ ∃ k2 : Nat, k2 ≤ k + d ∧ Cur w' b A n c k2 ∧ w.grownBy w' (some b)

set_option maxRecDepth 100000 in
set_option maxHeartbeats 4000000 in
theorem counts_any (b : Nat) (A : Option Addr) (n c k : Nat) (w : World) (h : Cur w b A n c k) (hk : k ≤ 999000) (hn : n ≤ 65536) :
    Calls Try.prog 140 #[.pointer (some ⟨b, 0, none⟩)] w (DrewL (fun z => -1 ≤ z ∧ z ≤ 9) 7 20 w b A n c k) := by
  have hbw := h.lt
  obtain ⟨i0, hi0, hz0, hz1, hz2⟩ := info_parts infoI3
  have HC := Lib.hid (h.alloc (.cells #[] 3))
  have HO := Lib.hid (O0_any w w.heap.size (Nat.le_refl _))
  have HG := Lib.hid (only_alloc (World.grownBy.refl w (some b)) (.cells #[] 3))
  clear h
  go_enter Try.func140, Try.ntmps140
  go_wp2_with fail
  have hsa : (w.alloc (.cells #[] 3)).heap.size = w.heap.size + 1 := by simp
  generalize w.alloc (.cells #[] 3) = wa at HC HO HG hsa ⊢
  rw [← hsa]
  refine (amongP_any cntP b A n c k 9 wa.heap.size 9 _ (HC.out.alloc _) (by omega) hn (by omega) (by omega) ?hL (by omega) (by simp)).mono ?_
  case hL => exact list_num wa _ _ 9 (Nat.le_refl _) rfl
  rintro e w1 ⟨x, rfl, hx, k1, hk1, hc1, hg1⟩
  have hg1' := (only_alloc (World.grownBy.refl wa (some b)) _).trans hg1
  have HC1 := Lib.hid hc1
  have HO1 := Lib.hid (owns_farC HO.out hg1' hbw)
  have HG1 := Lib.hid (HG.out.trans hg1')
  have hxb : 0 ≤ x ∧ x ≤ 8 := of_decide_eq_true hx
  obtain ⟨L0, rfl⟩ : ∃ L : Nat, x = (L : Int) := ⟨x.toNat, by omega⟩
  clear hc1 hg1 hg1' hx HC HO HG
  go_wp2_with fail
  refine (amongP_any plcP b A n c k1 7 w1.heap.size 7 _ (HC1.out.alloc _) (by omega) hn (by omega) (by omega) ?hL (by have := HC1.out.lt; omega) (by simp)).mono ?_
  case hL => exact list_num w1 _ _ 7 (Nat.le_refl _) rfl
  rintro e w2 ⟨x, rfl, hx, k2, hk2, hc2, hg2⟩
  have hg2' := (only_alloc (World.grownBy.refl w1 (some b)) _).trans hg2
  have HC2 := Lib.hid hc2
  have HO2 := Lib.hid (owns_farC HO1.out hg2' hbw)
  have HG2 := Lib.hid (HG1.out.trans hg2')
  have hxb2 : 1 ≤ x ∧ x ≤ 3 := of_decide_eq_true hx
  obtain ⟨P0, rfl⟩ : ∃ L : Nat, x = (L : Int) := ⟨x.toNat, by omega⟩
  have hP0 : 1 ≤ P0 ∧ P0 ≤ 3 := by omega
  have hL0 : L0 ≤ 8 := by omega
  clear hc2 hg2 hg2' hx HC1 HO1 HG1 hxb hxb2
  go_wp2_with fail
  go_loopw [3, 4, 5] (fun out l p wr => ∃ (f : List Int) (L P kk : Nat), l = .int .i64 (L : Int) ∧ p = .int .i64 (P : Int) ∧ L ≤ 8 ∧ f.length + P = P0 ∧ kk + 2 * P ≤ k + 10 ∧ Hid (∀ z ∈ f, 0 ≤ z ∧ z ≤ 8) ∧ Hid (wr.ownsRow w.heap.size 3 1 out f.length (f.map (Value.int .i64))) ∧ Hid (Cur wr b A n c kk) ∧ Hid (w.grownBy wr (some b))) (fun _ _ p _ => (intOf p).toNat)
  case atStart => exact ⟨[], L0, P0, k2, rfl, rfl, hL0, by simp, by omega, Lib.hid (by simp), HO2, HC2, HG2⟩
  case round =>
    clear HO2 HC2 HG2
    obtain ⟨f, L, P, kk, rfl, rfl, hL, hfl, hkk, HB, HO, HC, HG⟩ := hrel
    rename World => wr
    have hsz := HG.out.size
    by_cases hp : 0 < P
    · have hpI : (0 : Int) < (P : Int) := by omega
      have hc1 : ((L + 1 : Nat) : Int) = (L : Int) + 1 := by push_cast; rfl
      have HPk := Lib.hid (pick_any b A n c kk (L + 1) wr HC.out (by omega) hn (by omega) (by omega))
      rw [hc1] at HPk
      clear hc1
      go_wp2_with fail
      refine HPk.out.mono ?_
      rintro e w3 ⟨v, k3, hv, rfl, hk3, hc3, hg3⟩
      have hown := owns_farC HO.out hg3 hbw
      have HC3 := Lib.hid hc3
      have HG3 := Lib.hid (HG.out.trans hg3)
      have hsz3 := HG3.out.size
      clear hc3 hg3 HPk HO HC HG
      go_wp2_with (at_builtin; refine wpList_append_own _ rfl _ _ 26 rfl w.heap.size 3 i0 (.int .i64 0) 1 8 Try.underlying26 hi0 hz0 hz1 hz2 rfl (by decide) _ _ _ rfl (hown.alloc _) ⟨_, 0, none⟩ 1 1 [.int .i64 (v : Int)] rfl rfl (cell_one_new _ _ _) (by simp [Value.oneCell']) (by unfold maxLen; omega) (by omega) (by simp; omega) ?_; intro v' w5 hown' hgrow _)
      have HO5 := Lib.hid (own_snocI hown' rfl)
      have HC5 := Lib.hid (cur_ownC (HC3.out.alloc _) (hown.alloc _) hbw hgrow)
      have HG5 := Lib.hid (grown_ownC (only_alloc HG3.out _) (hown.alloc _) (Nat.le_refl _) hgrow)
      have HB5 : Hid (∀ z ∈ f ++ [(v : Int)], 0 ≤ z ∧ z ≤ 8) := Lib.hid (fun z hz => by
        rcases List.mem_append.1 hz with hz | hz
        · exact HB.out z hz
        · simp at hz; omega)
      clear hown' hgrow hown HC3 HG3
      go_wp2
      go_roundw
      case rel => exact ⟨f ++ [(v : Int)], L - v, P - 1, k3, by congr 1; omega, by congr 1; omega, by omega, by simp; omega, by omega, HB5, HO5, HC5, HG5⟩
      case measure => simp [intOf]; omega
    · have hp0 : P = 0 := by omega
      subst hp0
      obtain ⟨A3, c3, hv3, hlc3, hr3⟩ := own_res HO.out rfl
      subst hv3
      have HR := Lib.hid hr3
      have HPk := Lib.hid (pick_any b A n c kk 40 wr HC.out (by omega) hn (by omega) (by omega))
      clear hr3
      go_wp2_with fail
      refine HPk.out.mono ?_
      rintro e w3 ⟨v, k3, hv, rfl, hk3, hc3, hg3⟩
      have hown := owns_farC HO.out hg3 hbw
      have HC3 := Lib.hid hc3
      have HG3 := Lib.hid (HG.out.trans hg3)
      have hsz3 := HG3.out.size
      clear hc3 hg3 HPk HO HC HG HR
      obtain rfl | rfl | rfl | hv3 : v = 0 ∨ v = 1 ∨ v = 2 ∨ 3 ≤ v := by omega
      · clear hown
        go_wp2
        go_ret
        exact ⟨[], _, 0, rfl, by simp, by simp, empty_res w3 w.heap.size hsz3, k3, by omega, HC3.out.alloc _, only_alloc HG3.out _⟩
      · obtain ⟨A4, c4, hv4, _, hr4⟩ := own_res hown rfl
        injection hv4 with hA4 _ hc4
        subst hA4 hc4
        have HR := Lib.hid hr4
        clear hown hr4
        go_wp2_with fail
        refine (amongP_any oddP b A n c k3 3 w3.heap.size 3 _ (HC3.out.alloc _) (by omega) hn (by omega) (by omega) ?hL (by have := HC3.out.lt; omega) (by simp)).mono ?_
        case hL => exact list_num w3 _ _ 3 (Nat.le_refl _) rfl
        rintro e w4 ⟨x, rfl, hx, k4, hk4, hc4, hg4⟩
        have hg4' := (only_alloc (World.grownBy.refl w3 (some b)) _).trans hg4
        have hR4 : Own w4 w.heap.size w3.heap.size A3 f := by
          rcases HR.out.own with h | ⟨g, cur, rfl, h1, h2, hr, h3, h4⟩
          · exact .inl h
          · exact .inr ⟨g, cur, rfl, h1, h2, (farC_same hg4' (row_ltI hr) (by omega)).trans hr, h3, h4⟩
        have HC4 := Lib.hid hc4
        have HG4 := Lib.hid (HG3.out.trans hg4')
        have hxb : -1 ≤ x ∧ x ≤ 9 := of_decide_eq_true hx
        have hs4 := hg4'.size
        obtain ⟨g, cur, hA, hglo, hghi, hrow, hcell, hset⟩ := own_placeC hR4 (k := 0) (by omega)
        subst hA
        have hfr := row_freeI hrow 0
        have HS := Lib.hid (hset x)
        have HC5 := Lib.hid (HC4.out.grown (grown_setC w4 g 0 (.int .i64 x)) (fun g' e => by injection e; omega))
        have HG5 := Lib.hid (grown_set_farC (i := 0) HG4.out hglo (.int .i64 x))
        have hfl0 : 0 < f.length := by omega
        have hflI : (0 : Int) < (f.length : Int) := by omega
        clear hc4 hg4 hg4' hx hR4 hset hrow HR HC3 HG3 HC4 HG4
        go_wp2
        go_ret
        refine ⟨f.set 0 x, _, c3, by rw [List.length_set]; rfl, by rw [List.length_set]; omega, fun z hz => ?_, ⟨HS.out.wide (Nat.le_refl _) (by simp [World.setCell]; omega), Nat.le_refl _⟩, k4, by omega, HC5.out, HG5.out⟩
        rcases List.mem_or_eq_of_mem_set hz with hz | hz
        · have := HB.out z hz; omega
        · omega
      · go_wp2_with (at_builtin; refine wpList_append_own _ rfl _ _ 26 rfl w.heap.size 3 i0 (.int .i64 0) 1 8 Try.underlying26 hi0 hz0 hz1 hz2 rfl (by decide) _ _ _ rfl (hown.alloc _) ⟨w3.heap.size, 0, none⟩ 3 3 [.int .i64 0, .int .i64 0, .int .i64 0] rfl rfl (three_new w3) (by simp [Value.oneCell']) (by unfold maxLen; omega) (by omega) (by simp; omega) ?_; intro v' w5 hown' hgrow _)
        have HO5 : Hid (w5.ownsRow w.heap.size 3 1 v' (f ++ [0, 0, 0]).length ((f ++ [0, 0, 0]).map (Value.int .i64))) := Lib.hid (by simpa using hown')
        have HC5 := Lib.hid (cur_ownC (HC3.out.alloc _) (hown.alloc _) hbw hgrow)
        have HG5 := Lib.hid (grown_ownC (only_alloc HG3.out _) (hown.alloc _) (Nat.le_refl _) hgrow)
        clear hown' hgrow hown HC3 HG3
        obtain ⟨A6, c6, rfl, _, hr6⟩ := own_res HO5.out rfl
        have HR6 := Lib.hid hr6
        clear hr6 HO5
        go_wp2
        go_ret
        refine ⟨f ++ [0, 0, 0], A6, c6, rfl, by simp; omega, fun z hz => ?_, HR6.out, k3, by omega, HC5.out, HG5.out⟩
        rcases List.mem_append.1 hz with hz | hz
        · have := HB.out z hz; omega
        · simp at hz; omega
      · obtain ⟨A4, c4, hv4, _, hr4⟩ := own_res hown rfl
        injection hv4 with hA4 _ hc4
        subst hA4 hc4
        have HR := Lib.hid hr4
        clear hown hr4
        have q0 : ¬ v = 0 := by omega
        have q1 : ¬ v = 1 := by omega
        have q2 : ¬ v = 2 := by omega
        have p0 : ((v : Int) == 0) = false := by simp; omega
        have p1 : ((v : Int) == 1) = false := by simp; omega
        have p2 : ((v : Int) == 2) = false := by simp; omega
        go_wp2
        go_ret
        exact ⟨f, A3, c3, rfl, by omega, fun z hz => by have := HB.out z hz; omega, HR.out, k3, by omega, HC3.out, HG3.out⟩

theorem owns_set {w : World} {B n g c k : Nat} {f : List Int} (h : w.ownsRow B 3 1 (.slice (some ⟨g, 0, none⟩) n c) n (f.map (Value.int .i64))) (x : Int) :
    (w.setCell ⟨g, k, none⟩ (.int .i64 x)).ownsRow B 3 1 (.slice (some ⟨g, 0, none⟩) n c) n ((f.set k x).map (Value.int .i64)) := by
  obtain ⟨hl, ⟨h0, _⟩ | ⟨g', cap, cur, hv, hb, hg, hn, hm, hs, ht⟩⟩ := h
  · cases h0
  · injection hv with hv1 _ hv3
    injection hv1 with hv1
    injection hv1 with hv1
    subst hv1 hv3
    refine ⟨by simpa using hl, .inr ⟨g, c, _, rfl, hb, row_setI hg k _, hn, hm, by simpa using hs, ?_⟩⟩
    rw [Array.toList_setIfInBounds, List.take_set, ht, List.map_set]
theorem owns_cell0 {w : World} {B n : Nat} {v : Value} {f : List Int} (h : w.ownsRow B 3 1 v n (f.map (Value.int .i64))) (h0 : 0 < n) :
    ∃ g c u, v = .slice (some ⟨g, 0, none⟩) n c ∧ B ≤ g ∧ g < w.heap.size ∧ w.cell? ⟨g, 0, none⟩ = some u ∧ w.frozen? ⟨g, 0, none⟩ = false := by
  rcases h.2 with ⟨_, h1⟩ | ⟨g, cap, cur, rfl, hb, hg, hn, hm, hs, ht⟩
  · omega
  · have hl : 0 < cur.size := by omega
    exact ⟨g, cap, cur[0], rfl, hb, row_ltI hg, by rw [row_cellI hg, Array.getElem?_eq_getElem hl], row_freeI hg 0⟩

set_option maxRecDepth 100000 in
set_option maxHeartbeats 4000000 in
theorem split_any (b : Nat) (A : Option Addr) (n c k : Nat) (A2 : Option Addr) (c2 lo hi : Nat) (zs : List Int) (w : World) (h : Cur w b A n c k) (hk : k ≤ 999000) (hn : n ≤ 65536) (hS : Ins w lo hi A2 zs) (hlo : b < lo) (hl : zs.length ≤ 7) (hz9 : ∀ z ∈ zs, -1 ≤ z ∧ z ≤ 9) :
    Calls Try.prog 146 #[.pointer (some ⟨b, 0, none⟩), .slice A2 zs.length c2] w (DrewL (fun _ => True) 8 40 w b A n c k) := by
  have hbw := h.lt
  obtain ⟨i0, hi0, hz0, hz1, hz2⟩ := info_parts infoI3
  have HC := Lib.hid (h.alloc (.cells #[] 3))
  have HO := Lib.hid (O0_any w w.heap.size (Nat.le_refl _))
  have HG := Lib.hid (only_alloc (World.grownBy.refl w (some b)) (.cells #[] 3))
  have HI := Lib.hid (hS.step ((Below.refl _ _).alloc (Nat.le_refl _) (.cells #[] 3)))
  have HZ := Lib.hid hz9
  have HTop := Lib.hid hS.top
  clear h hS hz9
  go_enter Try.func146, Try.ntmps146
  go_wp2_with fail
  generalize w.alloc (.cells #[] 3) = wa at HC HO HG HI ⊢
  go_loopw [5, 6] (fun out i wr => ∃ (f : List Int) (j kk : Nat), i = .int .i64 (j : Int) ∧ j ≤ zs.length ∧ f.length = j ∧ kk ≤ k + 2 * j ∧ Hid (wr.ownsRow w.heap.size 3 1 out f.length (f.map (Value.int .i64))) ∧ Hid (Cur wr b A n c kk) ∧ Hid (w.grownBy wr (some b)) ∧ Hid (Ins wr lo hi A2 zs)) (fun _ i _ => zs.length - (intOf i).toNat)
  case atStart => exact ⟨[], 0, k, rfl, Nat.zero_le _, rfl, by omega, HO, HC, HG, HI⟩
  case round =>
    clear HO HC HG HI
    obtain ⟨f, j, kk, rfl, hj, hfl, hkk, HO, HC, HG, HI⟩ := hrel
    rename World => wr
    have hsz := HG.out.size
    by_cases hlt : j < zs.length
    · obtain ⟨b2, o2, rfl, _, hb2, hc2⟩ := HI.out.ints.at_ hlt
      have hzb := HZ.out _ (List.getElem_mem hlt)
      generalize zs[j] = z at hc2 hzb
      obtain ⟨M, hM, hM1, hM2⟩ : ∃ M : Nat, (M : Int) = (if z + 1 ≤ 1 then 1 else z + 1) ∧ 1 ≤ M ∧ M ≤ 10 := ⟨(if z + 1 ≤ 1 then 1 else z + 1).toNat, by split <;> omega, by split <;> omega, by split <;> omega⟩
      have HMX := Lib.hid (l1Most_any 1 (z + 1) wr)
      rw [← hM] at HMX
      have HPk := Lib.hid (pick_any b A n c kk M wr HC.out (by omega) hn hM1 (by omega))
      clear hM
      go_wp2_with fail
      refine HMX.out.mono ?_
      rintro e w9 ⟨rfl, hw9⟩
      have hw9 := hw9.symm
      subst hw9
      go_wp2_with fail
      refine HPk.out.mono ?_
      rintro e w3 ⟨v, k3, hv, rfl, hk3, hc3, hg3⟩
      have hown := owns_farC HO.out hg3 hbw
      have HC3 := Lib.hid hc3
      have HG3 := Lib.hid (HG.out.trans hg3)
      have HI3 := Lib.hid (HI.out.far hg3 hlo)
      have hsz3 := HG3.out.size
      have hhi := HI3.out.top
      clear hc3 hg3 HPk HO HC HG HMX hc2
      go_wp2_with (at_builtin; refine wpList_append_own _ rfl _ _ 26 rfl w.heap.size 3 i0 (.int .i64 0) 1 8 Try.underlying26 hi0 hz0 hz1 hz2 rfl (by decide) _ _ _ rfl (hown.alloc _) ⟨_, 0, none⟩ 1 1 [.int .i64 (v : Int)] rfl rfl (cell_one_new _ _ _) (by simp [Value.oneCell']) (by unfold maxLen; omega) (by omega) (by simp; omega) ?_; intro v' w5 hown' hgrow _)
      have HO5 := Lib.hid (own_snocI hown' rfl)
      have HC5 := Lib.hid (cur_ownC (HC3.out.alloc _) (hown.alloc _) hbw hgrow)
      have HG5 := Lib.hid (grown_ownC (only_alloc HG3.out _) (hown.alloc _) (Nat.le_refl _) hgrow)
      have HI5 := Lib.hid (HI3.out.past (B := w.heap.size) (Past.grown hown hgrow) HTop.out)
      clear hown' hgrow hown HC3 HG3
      go_wp2
      go_roundw
      case rel => exact ⟨f ++ [(v : Int)], j + 1, k3, by go_num, by omega, by simp; omega, by omega, HO5, HC5, HG5, HI5⟩
      case measure => simp [intOf]; omega
    · obtain rfl : j = zs.length := by omega
      obtain ⟨A3, c3, hv3, hlc3, hr3⟩ := own_res HO.out rfl
      subst hv3
      clear hr3
      rw [hfl] at HO ⊢
      by_cases h0 : zs.length = 0
      · have h0d : decide ((0 : Int) < (zs.length : Int)) = false := decide_eq_false (by omega)
        have h0n : ¬ (0 : Int) < (zs.length : Int) := by omega
        clear h0
        have HON := Lib.hid (one_any b A n c kk 40 wr HC.out (by omega) hn (by omega) (by omega))
        have hsz7 := HG.out.size
        go_wp2_with fail
        refine HON.out.mono ?_
        rintro e w7 ⟨y, rfl, k7, hk7, hc7, hg7⟩
        have hown := owns_farC HO.out hg7 hbw
        have HC7 := Lib.hid hc7
        have HG7 := Lib.hid (HG.out.trans hg7)
        have hs7 := HG7.out.size
        clear hc7 hg7 HON
        cases y
        · obtain ⟨A4, c4, hv4, _, hr4⟩ := own_res hown (hfl).symm
          injection hv4 with hA4 hq4 hc4
          subst hA4 hc4
          clear hq4
          have HR := Lib.hid hr4
          clear hown hr4
          go_wp2
          go_ret
          exact ⟨f, A3, c3, by rw [hfl]; rfl, by rw [hfl]; omega, fun _ _ => trivial, HR.out, k7, by omega, HC7.out, HG7.out⟩
        · go_wp2_with (at_builtin; refine wpList_append_own _ rfl _ _ 26 rfl w.heap.size 3 i0 (.int .i64 0) 1 8 Try.underlying26 hi0 hz0 hz1 hz2 rfl (by decide) _ _ _ rfl (hown.alloc _) ⟨_, 0, none⟩ 1 1 [.int .i64 0] rfl rfl (cell_one_new _ _ _) (by simp [Value.oneCell']) (by unfold maxLen; omega) (by omega) (by simp; omega) ?_; intro v' w8 hown' hgrow _)
          have HO8 := Lib.hid (own_snocI hown' (hfl).symm)
          have HC8 := Lib.hid (cur_ownC (HC7.out.alloc _) (hown.alloc _) hbw hgrow)
          have HG8 := Lib.hid (grown_ownC (only_alloc HG7.out _) (hown.alloc _) (Nat.le_refl _) hgrow)
          clear hown' hgrow hown HC7 HG7
          obtain ⟨A6, c6, rfl, _, hr6⟩ := own_res HO8.out rfl
          have HR6 := Lib.hid hr6
          have hl6 : (f ++ [(0 : Int)]).length ≤ 8 := by rw [List.length_append, hfl]; simp; omega
          have HL6 := Lib.hid hl6
          clear hr6 HO8 hl6
          go_wp2
          go_ret
          exact ⟨f ++ [0], A6, c6, rfl, HL6.out, fun _ _ => trivial, HR6.out, k7, by omega, HC8.out, HG8.out⟩
      · have h0I : (0 : Int) < (zs.length : Int) := by omega
        have h0d : decide ((0 : Int) < (zs.length : Int)) = true := decide_eq_true (by omega)
        have HN1 := Lib.hid (one_any b A n c kk 24 wr HC.out (by omega) hn (by omega) (by omega))
        go_wp2_with fail
        refine HN1.out.mono ?_
        rintro e w4 ⟨x, rfl, k4, hk4, hc4, hg4⟩
        have HO4 := Lib.hid (owns_farC HO.out hg4 hbw)
        have HC4 := Lib.hid hc4
        have HG4 := Lib.hid (HG.out.trans hg4)
        have HI4 := Lib.hid (HI.out.far hg4 hlo)
        clear hc4 hg4 HN1 HO HC HG HI
        cases x
        · clear HI4
          have HON := Lib.hid (one_any b A n c k4 40 w4 HC4.out (by omega) hn (by omega) (by omega))
          have hsz7 := HG4.out.size
          go_wp2_with fail
          refine HON.out.mono ?_
          rintro e w7 ⟨y, rfl, k7, hk7, hc7, hg7⟩
          have hown := owns_farC HO4.out hg7 hbw
          have HC7 := Lib.hid hc7
          have HG7 := Lib.hid (HG4.out.trans hg7)
          have hs7 := HG7.out.size
          clear hc7 hg7 HON
          cases y
          · obtain ⟨A4, c4, hv4, _, hr4⟩ := own_res hown (hfl).symm
            injection hv4 with hA4 hq4 hc4
            subst hA4 hc4
            clear hq4
            have HR := Lib.hid hr4
            clear hown hr4
            go_wp2
            go_ret
            exact ⟨f, A3, c3, by rw [hfl]; rfl, by rw [hfl]; omega, fun _ _ => trivial, HR.out, k7, by omega, HC7.out, HG7.out⟩
          · go_wp2_with (at_builtin; refine wpList_append_own _ rfl _ _ 26 rfl w.heap.size 3 i0 (.int .i64 0) 1 8 Try.underlying26 hi0 hz0 hz1 hz2 rfl (by decide) _ _ _ rfl (hown.alloc _) ⟨_, 0, none⟩ 1 1 [.int .i64 0] rfl rfl (cell_one_new _ _ _) (by simp [Value.oneCell']) (by unfold maxLen; omega) (by omega) (by simp; omega) ?_; intro v' w8 hown' hgrow _)
            have HO8 := Lib.hid (own_snocI hown' (hfl).symm)
            have HC8 := Lib.hid (cur_ownC (HC7.out.alloc _) (hown.alloc _) hbw hgrow)
            have HG8 := Lib.hid (grown_ownC (only_alloc HG7.out _) (hown.alloc _) (Nat.le_refl _) hgrow)
            clear hown' hgrow hown HC7 HG7
            obtain ⟨A6, c6, rfl, _, hr6⟩ := own_res HO8.out rfl
            have HR6 := Lib.hid hr6
            have hl6 : (f ++ [(0 : Int)]).length ≤ 8 := by rw [List.length_append, hfl]; simp; omega
            have HL6 := Lib.hid hl6
            clear hr6 HO8 hl6
            go_wp2
            go_ret
            exact ⟨f ++ [0], A6, c6, rfl, HL6.out, fun _ _ => trivial, HR6.out, k7, by omega, HC8.out, HG8.out⟩
        · obtain ⟨b2, o2, rfl, _, hb2, hc2⟩ := HI4.out.ints.at_ (k := 0) (by omega)
          have hzb := HZ.out _ (List.getElem_mem (show 0 < zs.length by omega))
          rw [Nat.add_zero] at hc2
          generalize zs[0] = z at hc2 hzb
          go_wp2_with fail
          refine (amongP_any anyP b A n c k4 2 w4.heap.size 2 _ (HC4.out.alloc _) (by omega) hn (by omega) (by omega) ?hL (by have := HC4.out.lt; omega) (by simp)).mono ?_
          case hL => exact list_num w4 _ _ 2 (Nat.le_refl _) rfl
          rintro e w5 ⟨x, rfl, hx, k5, hk5, hc5, hg5⟩
          have hg5' := (only_alloc (World.grownBy.refl w4 (some b)) _).trans hg5
          have hown5 := owns_farC HO4.out hg5' hbw
          obtain ⟨g, c9, u, hv9, hgB, hgl, hcell, hfr⟩ := owns_cell0 hown5 (by omega)
          injection hv9 with hv91 _ hv93
          subst hv91 hv93
          have HO6 := Lib.hid (owns_set (k := 0) hown5 x)
          have HC6 := Lib.hid (hc5.grown (grown_setC w5 g 0 (.int .i64 x)) (fun g' e => by injection e; omega))
          have HG6 := Lib.hid (grown_set_farC (i := 0) (HG4.out.trans hg5') hgB (.int .i64 x))
          have hfl6 : (f.set 0 x).length = zs.length := by rw [List.length_set]; exact hfl
          have HF6 := Lib.hid hfl6
          generalize f.set 0 x = f6 at HO6 HF6 hfl6
          clear hc5 hg5 hg5' hown5 hc2 hx HO4 HC4 HG4 HI4
          go_wp2_with fail
          generalize hw6 : w5.setCell ⟨g, 0, none⟩ (.int .i64 x) = w6 at HO6 HC6 HG6 ⊢
          clear hw6 hcell hfr
          have HON := Lib.hid (one_any b A n c k5 40 w6 HC6.out (by omega) hn (by omega) (by omega))
          have hsz7 := HG6.out.size
          go_wp2_with fail
          refine HON.out.mono ?_
          rintro e w7 ⟨y, rfl, k7, hk7, hc7, hg7⟩
          have hown := owns_farC HO6.out hg7 hbw
          have HC7 := Lib.hid hc7
          have HG7 := Lib.hid (HG6.out.trans hg7)
          have hs7 := HG7.out.size
          clear hc7 hg7 HON
          cases y
          · obtain ⟨A4, c4, hv4, _, hr4⟩ := own_res hown (hfl6).symm
            injection hv4 with hA4 hq4 hc4
            subst hA4 hc4
            clear hq4
            have HR := Lib.hid hr4
            clear hown hr4
            go_wp2
            go_ret
            exact ⟨f6, some ⟨g, 0, none⟩, c3, by rw [hfl6]; rfl, by rw [hfl6]; omega, fun _ _ => trivial, HR.out, k7, by omega, HC7.out, HG7.out⟩
          · go_wp2_with (at_builtin; refine wpList_append_own _ rfl _ _ 26 rfl w.heap.size 3 i0 (.int .i64 0) 1 8 Try.underlying26 hi0 hz0 hz1 hz2 rfl (by decide) _ _ _ rfl (hown.alloc _) ⟨_, 0, none⟩ 1 1 [.int .i64 0] rfl rfl (cell_one_new _ _ _) (by simp [Value.oneCell']) (by unfold maxLen; omega) (by omega) (by simp; omega) ?_; intro v' w8 hown' hgrow _)
            have HO8 := Lib.hid (own_snocI hown' (hfl6).symm)
            have HC8 := Lib.hid (cur_ownC (HC7.out.alloc _) (hown.alloc _) hbw hgrow)
            have HG8 := Lib.hid (grown_ownC (only_alloc HG7.out _) (hown.alloc _) (Nat.le_refl _) hgrow)
            clear hown' hgrow hown HC7 HG7
            obtain ⟨A6, c6, rfl, _, hr6⟩ := own_res HO8.out rfl
            have HR6 := Lib.hid hr6
            have hl6 : (f6 ++ [(0 : Int)]).length ≤ 8 := by rw [List.length_append, hfl6]; simp; omega
            have HL6 := Lib.hid hl6
            clear hr6 HO8 hl6
            go_wp2
            go_ret
            exact ⟨f6 ++ [0], A6, c6, rfl, HL6.out, fun _ _ => trivial, HR6.out, k7, by omega, HC8.out, HG8.out⟩

/-- What DrawSplitNeed draws. -/
def DrewSN (w : World) (e : Ending) (w' : World) : Prop :=
  ∃ (zs ss : List Int) (B B2 : Option Addr) (c c2 : Nat), e = .returned (.tuple #[.slice B zs.length c, .slice B2 ss.length c2]) ∧ zs.length ≤ 8 ∧ ss.length ≤ 8 ∧ (∃ lo hi, Ins w' lo hi B zs) ∧ (∃ lo hi, Ins w' lo hi B2 ss) ∧ Below w.heap.size w w'
set_option maxRecDepth 100000 in
set_option maxHeartbeats 4000000 in
theorem drawYC_any (A : Option Addr) (n c : Nat) (w : World) (hC : Code w w.heap.size A n) (hn : n ≤ 65536) :
    Calls Try.prog 101 #[.slice A n c] w (DrewSN w) := by
  have HC := Lib.hid (Cur.new (c := c) hC)
  have HB := Lib.hid ((Below.refl w.heap.size w).alloc (Nat.le_refl _) (.cells #[.slice A n c, .int .i64 0, .int .u64 0] 99))
  clear hC
  go_enter Try.func101, Try.ntmps101
  go_wp2_with fail
  generalize w.alloc (.cells #[.slice A n c, .int .i64 0, .int .u64 0] 99) = wa at HC HB ⊢
  have hbw := HC.out.lt
  refine (counts_any w.heap.size A n c 0 wa HC.out (by omega) hn).mono ?_
  rintro e w1 ⟨zs, B, c1, rfl, hl, hz, hr, k1, hk1, hc1, hg1⟩
  have HC1 := Lib.hid hc1
  have HI1 := Lib.hid hr.ins
  have hs1 := HB.out.size
  have HG1 := Lib.hid hg1
  clear hr hc1 hg1 HC
  go_wp2_with fail
  refine (split_any w.heap.size A n c k1 B c1 wa.heap.size w1.heap.size zs w1 HC1.out (by omega) hn HI1.out hbw (by omega) hz).mono ?_
  rintro e w2 ⟨ss, B2, c2, rfl, hl2, _, hr2, k2, hk2, hc2, hg2⟩
  have HI2 := Lib.hid (HI1.out.far hg2 hbw)
  have HJ2 := Lib.hid hr2.ins
  have HG2 := Lib.hid (HG1.out.trans hg2)
  clear hr2 hc2 hg2
  go_wp2
  go_ret2
  exact ⟨zs, ss, B, B2, c1, c2, rfl, by omega, hl2, ⟨_, _, HI2.out⟩, ⟨_, _, HJ2.out⟩, ⟨HG2.out.os.trans HB.out.os, HG2.out.tape.trans HB.out.tape, HG2.out.output.trans HB.out.output, Nat.le_trans HB.out.size HG2.out.size, fun j hj => (HG2.out.block j (Nat.lt_of_lt_of_le hj HB.out.size) (fun e => by injection e; omega)).trans (HB.out.block j hj)⟩⟩
end Go.Proofs.Ytdkffkgoalgjmac
namespace Go.Proofs.Ytdkffkgoalgjmac
open Go.RowKit Go.ChangeShapes Go.WideShapes
set_option linter.unusedVariables false
set_option linter.unusedSimpArgs false

theorem grownO_below {w w' : World} {b : Nat} (h : w.grownBy w' (some b)) {B : Nat} (hB : B ≤ b) (hs : B ≤ w.heap.size) : Below B w w' :=
  ⟨h.os, h.tape, h.output, h.size, fun j hj => h.block j (by omega) (fun e => by injection e; omega)⟩
set_option maxRecDepth 100000 in
set_option maxHeartbeats 4000000 in
theorem drawNTo_any (A : Option Addr) (n c : Nat) (w : World) (h : Code w w.heap.size A n) (hn : n ≤ 65536) :
    Calls Try.prog 107 #[.slice A n c] w fun e w' => ∃ x : Int, e = .returned (.int .i64 x) ∧ Below w.heap.size w w' := by
  have HC := Lib.hid (Cur.new (c := c) h)
  have HB := Lib.hid ((Below.refl w.heap.size w).alloc (Nat.le_refl _) (.cells #[.slice A n c, .int .i64 0, .int .u64 0] 99))
  clear h
  go_enter Try.func107, Try.ntmps107
  go_wp2_with fail
  generalize w.alloc (.cells #[.slice A n c, .int .i64 0, .int .u64 0] 99) = wa at HC HB ⊢
  refine (lies_any w.heap.size A n c 0 wa HC.out (by omega) hn).mono ?_
  rintro e wb ⟨x, rfl, hx, k2, hk2, hc1, hg1⟩
  have HB2 := Lib.hid (HB.out.trans (grownO_below hg1 (Nat.le_refl _) HB.out.size))
  clear hc1 hg1 hx
  go_wp2
  go_ret
  exact ⟨x, rfl, HB2.out⟩
set_option maxRecDepth 100000 in
set_option maxHeartbeats 4000000 in
theorem drawMNo_any (A : Option Addr) (n c : Nat) (w : World) (h : Code w w.heap.size A n) (hn : n ≤ 65536) :
    Calls Try.prog 111 #[.slice A n c] w fun e w' => ∃ x y : Int, e = .returned (.tuple #[.int .i64 x, .int .i64 y]) ∧ Below w.heap.size w w' := by
  have HC := Lib.hid (Cur.new (c := c) h)
  have HB := Lib.hid ((Below.refl w.heap.size w).alloc (Nat.le_refl _) (.cells #[.slice A n c, .int .i64 0, .int .u64 0] 99))
  clear h
  go_enter Try.func111, Try.ntmps111
  go_wp2_with fail
  have hsa : (w.alloc (.cells #[.slice A n c, .int .i64 0, .int .u64 0] 99)).heap.size = w.heap.size + 1 := by simp
  generalize w.alloc (.cells #[.slice A n c, .int .i64 0, .int .u64 0] 99) = wa at HC HB hsa ⊢
  rw [← hsa]
  refine (amongP_any anyP w.heap.size A n c 0 13 wa.heap.size 13 _ (HC.out.alloc _) (by omega) hn (by omega) (by omega) ?hL (by omega) (by simp)).mono ?_
  case hL => exact list_num wa _ _ 13 (Nat.le_refl _) rfl
  rintro e w1 ⟨x, rfl, hx, k1, hk1, hc1, hg1⟩
  have hg1' := (only_alloc (World.grownBy.refl wa (some w.heap.size)) _).trans hg1
  have HC1 := Lib.hid hc1
  have HB1 := Lib.hid (HB.out.trans (grownO_below hg1' (Nat.le_refl _) HB.out.size))
  clear hc1 hg1 hg1' hx HC
  go_wp2_with fail
  refine (lies_any w.heap.size A n c k1 w1 HC1.out (by omega) hn).mono ?_
  rintro e wb ⟨y, rfl, hy, k2, hk2, hc1, hg1⟩
  have HB2 := Lib.hid (HB1.out.trans (grownO_below hg1 (Nat.le_refl _) HB1.out.size))
  clear hc1 hg1 hy
  go_wp2
  go_ret2
  exact ⟨x, y, rfl, HB2.out⟩
set_option maxRecDepth 100000 in
theorem drawACo_any (A : Option Addr) (n c : Nat) (w : World) (hC : Code w w.heap.size A n) (hn : n ≤ 65536) :
    Calls Try.prog 90 #[.slice A n c] w (fun e w' => ∃ (zs : List Int) (B : Option Addr) (c1 : Nat), e = .returned (.slice B zs.length c1) ∧ zs.length ≤ 8 ∧ (∃ lo hi, Ins w' lo hi B zs) ∧ Below w.heap.size w w') := by
  have HC := Lib.hid (Cur.new (c := c) hC)
  have HB := Lib.hid ((Below.refl w.heap.size w).alloc (Nat.le_refl _) (.cells #[.slice A n c, .int .i64 0, .int .u64 0] 99))
  clear hC
  go_enter Try.func90, Try.ntmps90
  go_wp2_with fail
  generalize w.alloc (.cells #[.slice A n c, .int .i64 0, .int .u64 0] 99) = wa at HC HB ⊢
  refine (counts_any w.heap.size A n c 0 wa HC.out (by omega) hn).mono ?_
  rintro e w1 ⟨zs, B, c1, rfl, hl, hz, hr, k1, hk1, hc1, hg1⟩
  have HI1 := Lib.hid hr.ins
  have HB2 := Lib.hid (HB.out.trans (grownO_below hg1 (Nat.le_refl _) HB.out.size))
  clear hr hc1 hg1 HC
  go_wp2
  go_ret
  exact ⟨zs, B, c1, rfl, by omega, ⟨_, _, HI1.out⟩, HB2.out⟩
set_option maxRecDepth 100000 in
theorem drawON_any (A : Option Addr) (n c : Nat) (w : World) (hC : Code w w.heap.size A n) (hn : n ≤ 65536) :
    Calls Try.prog 33 #[.slice A n c] w (fun e w' => ∃ (zs : List Int) (B : Option Addr) (c1 : Nat), e = .returned (.slice B zs.length c1) ∧ zs.length ≤ 8 ∧ (∃ lo hi, Ins w' lo hi B zs) ∧ Below w.heap.size w w') := by
  have HD := Lib.hid (drawACo_any A n c w hC hn)
  clear hC
  go_enter Try.func33, Try.ntmps33
  go_wp2_with fail
  refine (HD.out).mono ?_
  rintro e w1 ⟨zs, B, c1, rfl, hl, hI, hb⟩
  have HI := Lib.hid hI
  have HB := Lib.hid hb
  clear hI hb HD
  go_wp2
  go_ret
  exact ⟨zs, B, c1, rfl, hl, HI.out, HB.out⟩
set_option maxRecDepth 100000 in
theorem drawOY_any (A : Option Addr) (n c : Nat) (w : World) (hC : Code w w.heap.size A n) (hn : n ≤ 65536) :
    Calls Try.prog 44 #[.slice A n c] w (DrewSN w) := by
  have HD := Lib.hid (drawYC_any A n c w hC hn)
  clear hC
  go_enter Try.func44, Try.ntmps44
  go_wp2_with fail
  refine (HD.out).mono ?_
  rintro e w1 ⟨zs, ss, B, B2, c1, c2, rfl, hl, hl2, hI, hJ, hb⟩
  have HI := Lib.hid hI
  have HJ := Lib.hid hJ
  have HB := Lib.hid hb
  clear hI hJ hb HD
  go_wp2
  go_ret2
  exact ⟨zs, ss, B, B2, c1, c2, rfl, hl, hl2, HI.out, HJ.out, HB.out⟩
set_option maxRecDepth 100000 in
theorem drawOT_any (A : Option Addr) (n c : Nat) (w : World) (hC : Code w w.heap.size A n) (hn : n ≤ 65536) :
    Calls Try.prog 49 #[.slice A n c] w (fun e w' => ∃ x : Int, e = .returned (.int .i64 x) ∧ Below w.heap.size w w') := by
  have HD := Lib.hid (drawNTo_any A n c w hC hn)
  clear hC
  go_enter Try.func49, Try.ntmps49
  go_wp2_with fail
  refine (HD.out).mono ?_
  rintro e w1 ⟨x, rfl, hb⟩
  have HB := Lib.hid hb
  clear hb HD
  go_wp2
  go_ret
  exact ⟨x, rfl, HB.out⟩
set_option maxRecDepth 100000 in
theorem drawOM_any (A : Option Addr) (n c : Nat) (w : World) (hC : Code w w.heap.size A n) (hn : n ≤ 65536) :
    Calls Try.prog 52 #[.slice A n c] w (fun e w' => ∃ x y : Int, e = .returned (.tuple #[.int .i64 x, .int .i64 y]) ∧ Below w.heap.size w w') := by
  have HD := Lib.hid (drawMNo_any A n c w hC hn)
  clear hC
  go_enter Try.func52, Try.ntmps52
  go_wp2_with fail
  refine (HD.out).mono ?_
  rintro e w1 ⟨x, y, rfl, hb⟩
  have HB := Lib.hid hb
  clear hb HD
  go_wp2
  go_ret2
  exact ⟨x, y, rfl, HB.out⟩
theorem codeO_below {w w' : World} {A : Option Addr} {n : Nat} (h : Code w w.heap.size A n) (hb : Below w.heap.size w w') : Code w' w'.heap.size A n := fun h0 => by
  obtain ⟨b, o, e, h1, h2⟩ := h h0
  exact ⟨b, o, e, Nat.lt_of_lt_of_le h1 hb.size, fun j hj => by
    obtain ⟨z, hz⟩ := h2 j hj
    exact ⟨z, (hb.cell (p := ⟨b, o + j, none⟩) h1).trans hz⟩⟩
end Go.Proofs.Ytdkffkgoalgjmac
