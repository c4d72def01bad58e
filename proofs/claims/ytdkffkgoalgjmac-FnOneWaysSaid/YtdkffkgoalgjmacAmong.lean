/- Drawn numbers: one of a list. -/
import Derived.Test.YtdkffkgoalgjmacCur
import Derived.Test.YtdkffkgoalgjmacTold
import Derived.Test.YtdkffkgoalgjmacMostW
namespace Go.Proofs.Ytdkffkgoalgjmac
open Go.RowKit Go.ChangeShapes Go.WideShapes
set_option linter.unusedVariables false

/-- A value that is a number of some kind. -/
def isNum (p : Int → Bool) (v : Value) : Bool := match v with | .int .i64 x => p x | _ => false
theorem isNum_some {p : Int → Bool} {v : Value} (h : isNum p v = true) : ∃ x : Int, p x = true ∧ v = .int .i64 x := by
  unfold isNum at h
  split at h
  · exact ⟨_, h, rfl⟩
  · cases h
theorem list_num {p : Int → Bool} (w : World) (cs : Array Value) (t : TypeId) (m : Nat) (hm : m ≤ cs.size) (h : cs.toList.all (isNum p) = true) : ∀ j, j < m → ∃ x : Int, p x = true ∧ (w.alloc (.cells cs t)).cell? ⟨w.heap.size, j, none⟩ = some (.int .i64 x) := fun j hj => by
  have hj2 : j < cs.size := by omega
  rw [World.cell?_alloc_at _ _ _ _ rfl, Array.getElem?_eq_getElem hj2]
  obtain ⟨x, h1, e⟩ := isNum_some (List.all_eq_true.1 h cs[j] (by simp))
  exact ⟨x, h1, by rw [e]⟩
/-- What a drawn number leaves: the cursor, at most d further on. -/
def DrewNum (p : Int → Bool) (d : Nat) (w : World) (b : Nat) (A : Option Addr) (n c k : Nat) (e : Ending) (w' : World) : Prop :=
  ∃ x : Int, e = .returned (.int .i64 x) ∧ p x = true ∧ ∃ k2 : Nat, k2 ≤ k + d ∧ Cur w' b A n c k2 ∧ w.grownBy w' (some b)

set_option maxHeartbeats 1000000 in
theorem amongP_any (p : Int → Bool) (b : Nat) (A : Option Addr) (n c k : Nat) (m g c2 : Nat) (w : World) (h : Cur w b A n c k) (hk : k ≤ 999998) (hn : n ≤ 65536) (h1 : 1 ≤ m) (hm : m ≤ 1000000)
    (hL : ∀ j, j < m → ∃ x : Int, p x = true ∧ w.cell? ⟨g, j, none⟩ = some (.int .i64 x)) (hgb : g ≠ b) (hgl : g < w.heap.size) :
    Calls Try.prog 138 #[.pointer (some ⟨b, 0, none⟩), .slice (some ⟨g, 0, none⟩) m c2] w (DrewNum p 2 w b A n c k) := by
  have HC := Lib.hid h
  have HL := Lib.hid hL
  have HG := Lib.hid hgb
  clear h hL hgb
  go_enter Try.func138, Try.ntmps138
  go_wp2_with fail
  refine (pick_any b A n c k m w HC.out hk hn h1 hm).mono ?_
  rintro e w1 ⟨v, k2, hv, rfl, hk2, hc1, hg1⟩
  obtain ⟨x, hx1, hcell⟩ := HL.out v hv
  have hc : w1.cell? ⟨g, v, none⟩ = some (.int .i64 x) := (World.cell?_of_block (hg1.block g hgl (fun e => HG.out (by injection e)))).trans hcell
  have hvi : (v : Int) < (m : Int) := by omega
  have HX := Lib.hid hx1
  have H1 := Lib.hid (show ∃ k2 : Nat, k2 ≤ k + 2 ∧ Cur w1 b A n c k2 ∧ w.grownBy w1 (some b) from ⟨k2, hk2, hc1, hg1⟩)
  clear hc1 hg1 hcell hx1
  go_wp2_with fail
  refine bodyPost_ret (results_tmp rfl _ _ _) rfl ⟨x, rfl, HX.out, H1.out⟩
/-- The greatest number of lies that is drawn. -/
def liesP (x : Int) : Bool := decide (-1 ≤ x ∧ x ≤ 3)
theorem lies_any (b : Nat) (A : Option Addr) (n c k : Nat) (w : World) (h : Cur w b A n c k) (hk : k ≤ 999998) (hn : n ≤ 65536) :
    Calls Try.prog 85 #[.pointer (some ⟨b, 0, none⟩)] w (DrewNum liesP 2 w b A n c k) := by
  have HC := Lib.hid h
  clear h
  go_enter Try.func85, Try.ntmps85
  go_wp2_with fail
  refine (amongP_any liesP b A n c k 12 w.heap.size 12 _ (HC.out.alloc _) hk hn (by omega) (by omega) ?hL (by have := HC.out.lt; omega) (by simp)).mono ?_
  case hL => exact list_num w _ _ 12 (Nat.le_refl _) rfl
  rintro e w1 ⟨x, rfl, hx, k2, hk2, hc1, hg1⟩
  have HX := Lib.hid hx
  have H1 := Lib.hid (show ∃ k2 : Nat, k2 ≤ k + 2 ∧ Cur w1 b A n c k2 ∧ w.grownBy w1 (some b) from ⟨k2, hk2, hc1, (only_alloc (World.grownBy.refl w _) _).trans hg1⟩)
  clear hc1 hg1 hx
  go_wp2_with fail
  refine bodyPost_ret (results_tmp rfl _ _ _) rfl ⟨x, rfl, HX.out, H1.out⟩
/-- The number of numbers that is drawn. -/
def manyP (x : Int) : Bool := decide (0 ≤ x ∧ x ≤ 13)
theorem many_any (b : Nat) (A : Option Addr) (n c k : Nat) (w : World) (h : Cur w b A n c k) (hk : k ≤ 999998) (hn : n ≤ 65536) :
    Calls Try.prog 84 #[.pointer (some ⟨b, 0, none⟩)] w (DrewNum manyP 2 w b A n c k) := by
  have HC := Lib.hid h
  clear h
  go_enter Try.func84, Try.ntmps84
  go_wp2_with fail
  refine (amongP_any manyP b A n c k 16 w.heap.size 16 _ (HC.out.alloc _) hk hn (by omega) (by omega) ?hL (by have := HC.out.lt; omega) (by simp)).mono ?_
  case hL => exact list_num w _ _ 16 (Nat.le_refl _) rfl
  rintro e w1 ⟨x, rfl, hx, k2, hk2, hc1, hg1⟩
  have HX := Lib.hid hx
  have H1 := Lib.hid (show ∃ k2 : Nat, k2 ≤ k + 2 ∧ Cur w1 b A n c k2 ∧ w.grownBy w1 (some b) from ⟨k2, hk2, hc1, (only_alloc (World.grownBy.refl w _) _).trans hg1⟩)
  clear hc1 hg1 hx
  go_wp2_with fail
  refine bodyPost_ret (results_tmp rfl _ _ _) rfl ⟨x, rfl, HX.out, H1.out⟩
/-- Any number. -/
def anyP (x : Int) : Bool := true
set_option maxHeartbeats 2000000 in
theorem question_any (b : Nat) (A : Option Addr) (n c k : Nat) (N : Nat) (w : World) (h : Cur w b A n c k) (hk : k ≤ 999994) (hn : n ≤ 65536) (hN : N ≤ 1048576) :
    Calls Try.prog 133 #[.pointer (some ⟨b, 0, none⟩), .int .i64 (N : Int)] w (DrewNum anyP 4 w b A n c k) := by
  have HC := Lib.hid h
  have HL13 := Lib.hid (fun W => l1Least_any (N : Int) 13 W)
  have HL12 := Lib.hid (fun W => l1Least_any (N : Int) 12 W)
  rw [show (if (N : Int) ≤ 13 then (N : Int) else 13) = ((min N 13 : Nat) : Int) by split <;> omega] at HL13
  rw [show (if (N : Int) ≤ 12 then (N : Int) else 12) = ((min N 12 : Nat) : Int) by split <;> omega] at HL12
  obtain ⟨a, ha⟩ : ∃ a, min N 13 = a := ⟨_, rfl⟩
  obtain ⟨d, hd⟩ : ∃ d, min N 12 = d := ⟨_, rfl⟩
  have ha13 : a ≤ 13 := by omega
  have hd12 : d ≤ 12 := by omega
  rw [ha] at HL13
  rw [hd] at HL12
  have HM13 := Lib.hid (fun W => l1Most_any 0 (a : Int) W)
  have HM12 := Lib.hid (fun W => l1Most_any 0 (d : Int) W)
  rw [show (if (a : Int) ≤ 0 then 0 else (a : Int)) = (a : Int) by split <;> omega] at HM13
  rw [show (if (d : Int) ≤ 0 then 0 else (d : Int)) = (d : Int) by split <;> omega] at HM12
  have hp := pow_le d hd12
  have hpn : 1 ≤ 2 ^ d ∧ 2 ^ d ≤ 4096 := by
    have : ∀ d, d ≤ 12 → 1 ≤ 2 ^ d ∧ 2 ^ d ≤ 4096 := by decide
    exact this d hd12
  have hpc := pow_cast d
  have HP := Lib.hid hpc
  have HPN := Lib.hid hpn
  clear h ha hd hpc hpn
  go_enter Try.func133, Try.ntmps133
  go_wp2_with fail
  refine (one_any b A n c k 24 w HC.out (by omega) hn (by omega) (by omega)).mono ?_
  rintro e w1 ⟨x, rfl, k1, hk1, hc1, hg1⟩
  have H1 := Lib.hid hc1
  have G1 := Lib.hid hg1
  clear hc1 hg1
  cases x
  · go_wp2_with (first | (go_at_call 145; refine (HL12.out _).mono ?_; rintro e w9 ⟨rfl, hw9⟩; have hw9 := hw9.symm; subst hw9) | (go_at_call 123; refine (HM12.out _).mono ?_; rintro e w9 ⟨rfl, hw9⟩; have hw9 := hw9.symm; subst hw9))
    rw [← HP.out]
    refine (pick_any b A n c k1 (2 ^ d) _ H1.out (by omega) hn HPN.out.1 (by have := HPN.out.2; omega)).mono ?_
    rintro e w2 ⟨v, k2, hv, rfl, hk2, hc2, hg2⟩
    have H2 := Lib.hid (show ∃ k2 : Nat, k2 ≤ k + 4 ∧ Cur w2 b A n c k2 ∧ w.grownBy w2 (some b) from ⟨k2, by omega, hc2, G1.out.trans hg2⟩)
    clear hc2 hg2
    go_wp2_with fail
    refine bodyPost_ret (results_tmp rfl _ _ _) rfl ⟨_, rfl, rfl, H2.out⟩
  · go_wp2_with (first | (go_at_call 145; refine (HL13.out _).mono ?_; rintro e w9 ⟨rfl, hw9⟩; have hw9 := hw9.symm; subst hw9) | (go_at_call 123; refine (HM13.out _).mono ?_; rintro e w9 ⟨rfl, hw9⟩; have hw9 := hw9.symm; subst hw9))
    refine (amongP_any anyP b A n c k1 3 w1.heap.size 3 _ (H1.out.alloc _) (by omega) hn (by omega) (by omega) ?hL (by have := H1.out.lt; omega) (by simp)).mono ?_
    case hL => exact list_num w1 _ _ 3 (Nat.le_refl _) rfl
    rintro e w2 ⟨x, rfl, hx, k2, hk2, hc2, hg2⟩
    have H2 := Lib.hid (show ∃ k2 : Nat, k2 ≤ k + 4 ∧ Cur w2 b A n c k2 ∧ w.grownBy w2 (some b) from ⟨k2, by omega, hc2, (only_alloc G1.out _).trans hg2⟩)
    clear hc2 hg2
    go_wp2_with fail
    refine bodyPost_ret (results_tmp rfl _ _ _) rfl ⟨x, rfl, hx, H2.out⟩
def aheadP (x : Int) : Bool := decide (-1 ≤ x ∧ x ≤ 31)
end Go.Proofs.Ytdkffkgoalgjmac
