/- Drawn numbers: one of a list. -/
import Derived.Test.YtdkffkgoalgjmabCur
import Derived.Test.YtdkffkgoalgjmabTold
import Derived.Test.YtdkffkgoalgjmabMostW
namespace Go.Proofs.Ytdkffkgoalgjmab
open Go.RowKit Go.ChangeShapes Go.WideShapes
set_option linter.unusedVariables false

/-- A value that is a number of some kind. -/
def isNum (p : Int → Bool) (v : Value) : Bool := match v with | .int .i64 x => p x | _ => false
theorem isNum_some {p : Int → Bool} {v : Value} (h : isNum p v = true) : ∃ x : Int, p x = true ∧ v = .int .i64 x := by
  unfold isNum at h
  split at h
  · exact ⟨_, h, rfl⟩
  · cases h
theorem list_num {p : Int → Bool} (w : World) (cs : Array Value) (t : TypeId) (m : Nat) (hm : m ≤ cs.size) (h : cs.toList.all (isNum p) = true) : ∀ j, j < m → ∃ x : Int, p x = true ∧ (w.alloc (.cells cs t)).cell? ⟨w.heap.size, j, none⟩ = some (.int .i64 x) := fun j hj => by
  have hj2 : j < cs.size := by omega
  rw [World.cell?_alloc_at _ _ _ _ rfl, Array.getElem?_eq_getElem hj2]
  obtain ⟨x, h1, e⟩ := isNum_some (List.all_eq_true.1 h cs[j] (by simp))
  exact ⟨x, h1, by rw [e]⟩
/-- What a drawn number leaves: the cursor, at most d further on. -/
def DrewNum (p : Int → Bool) (d : Nat) (w : World) (b : Nat) (A : Option Addr) (n c k : Nat) (e : Ending) (w' : World) : Prop :=
  ∃ x : Int, e = .returned (.int .i64 x) ∧ p x = true ∧ ∃ k2 : Nat, k2 ≤ k + d ∧ Cur w' b A n c k2 ∧ w.grownBy w' (some b)

set_option maxHeartbeats 1000000 in
theorem amongP_any (p : Int → Bool) (b : Nat) (A : Option Addr) (n c k : Nat) (m g c2 : Nat) (w : World) (h : Cur w b A n c k) (hk : k ≤ 999998) (hn : n ≤ 65536) (h1 : 1 ≤ m) (hm : m ≤ 1000000)
    (hL : ∀ j, j < m → ∃ x : Int, p x = true ∧ w.cell? ⟨g, j, none⟩ = some (.int .i64 x)) (hgb : g ≠ b) (hgl : g < w.heap.size) :
    Calls Try.prog 132 #[.pointer (some ⟨b, 0, none⟩), .slice (some ⟨g, 0, none⟩) m c2] w (DrewNum p 2 w b A n c k) := by
  have HC := Lib.hid h
  have HL := Lib.hid hL
  have HG := Lib.hid hgb
  clear h hL hgb
  go_enter Try.func132, Try.ntmps132
  go_wp2_with fail
  refine (pick_any b A n c k m w HC.out hk hn h1 hm).mono ?_
  rintro e w1 ⟨v, k2, hv, rfl, hk2, hc1, hg1⟩
  obtain ⟨x, hx1, hcell⟩ := HL.out v hv
  have hc : w1.cell? ⟨g, v, none⟩ = some (.int .i64 x) := (World.cell?_of_block (hg1.block g hgl (fun e => HG.out (by injection e)))).trans hcell
  have hvi : (v : Int) < (m : Int) := by omega
  have HX := Lib.hid hx1
  have H1 := Lib.hid (show ∃ k2 : Nat, k2 ≤ k + 2 ∧ Cur w1 b A n c k2 ∧ w.grownBy w1 (some b) from ⟨k2, hk2, hc1, hg1⟩)
  clear hc1 hg1 hcell hx1
  go_wp2_with fail
  refine bodyPost_ret (results_tmp rfl _ _ _) rfl ⟨x, rfl, HX.out, H1.out⟩
/-- The greatest number of lies that is drawn. -/
def liesP (x : Int) : Bool := decide (-1 ≤ x ∧ x ≤ 3)
/-- The number of numbers that is drawn. -/
def manyP (x : Int) : Bool := decide (0 ≤ x ∧ x ≤ 13)
/-- Any number. -/
def anyP (x : Int) : Bool := true
def aheadP (x : Int) : Bool := decide (-1 ≤ x ∧ x ≤ 31)
end Go.Proofs.Ytdkffkgoalgjmab
