/- The law FnBalanced: what its calls answer. -/
import Derived.Test.YtdolonmjhlhkeabCutV
import Derived.Test.YtdolonmjhlhkeabPascal
namespace Go.Proofs.Ytdolonmjhlhkeab
open Go.RowKit Go.ChangeShapes Go.WideShapes
set_option linter.unusedVariables false

theorem bestTo_lt (f : Nat → Nat) : ∀ j, 1 ≤ j → bestTo f j < j := by
  intro j
  induction j with
  | zero => intro h; omega
  | succ j ih =>
    intro _
    rw [bestTo]
    split
    · omega
    · by_cases hj : j = 0
      · subst hj; simp [bestTo]
      · have := ih (by omega); omega
theorem bestTo_qOK {M q : Nat} {zs : List Int} (hst : isSt zs (M : Int) = true) : qOK zs.length ((bestTo (wsN q M zs) (2 ^ zs.length) : Nat) : Int) = true := by
  have hl := isSt_len hst
  have h1 : 1 ≤ 2 ^ zs.length := Nat.one_le_two_pow
  have := bestTo_lt (wsN q M zs) _ h1
  have hc := pow_cast zs.length
  rw [qOK_iff, Int.toNat_natCast]
  omega
theorem other_qOK {n : Nat} {k : Int} (h : qOK n k = true) : qOK n (2 ^ n - 1 - k) = true := by
  rw [qOK_iff, Int.toNat_natCast] at h ⊢
  omega
set_option maxRecDepth 100000 in
theorem otherQuestion_yes (k : Nat) (q : Int) (w : World) (h : qOK k q = true) :
    Calls Try.prog 40 #[.int .i64 (k : Int), .int .i64 q] w fun e w' => e = .returned (.tuple #[.int .i64 (2 ^ k - 1 - q), .bool true]) ∧ Below w.heap.size w w' := by
  have HC := Lib.hid (fun W => isQuestion_any k q W)
  rw [h] at HC
  have hb := qOK_iff.1 h
  clear h
  have hp := pow_le k (by omega)
  rw [Int.toNat_natCast] at hb
  obtain ⟨⟨hb1, hb2⟩, hb3, hb4⟩ := hb
  go_enter Try.func40, Try.ntmps40
  go_wp2_with (go_at_call 89; refine (HC.out _).mono ?_; rintro e w1 ⟨rfl, rfl⟩)
  go_ret2
  exact ⟨rfl, Below.refl _ _⟩
theorem answerState_ins (A : Option Addr) (c lo hi : Nat) (zs : List Int) (m q : Int) (y : Bool) (w : World) (hS : Ins w lo hi A zs) (hst : isSt zs m = true) (hq : qOK zs.length q = true) :
    Calls Try.prog 41 #[.agg #[.slice A zs.length c, .int .i64 m], .agg #[.int .i64 q, .bool y]] w fun e w' => ∃ g, e = .returned (.tuple #[.agg #[.slice (some ⟨g, 0, none⟩) zs.length zs.length, .int .i64 m], .bool true]) ∧ Ins w' g (g + 1) (some ⟨g, 0, none⟩) (afters zs m q y) ∧ Below w.heap.size w w' := by
  refine (answerState_impl A c lo hi zs m q y w hS hst hq).mono ?_
  rintro e w' ⟨g, rfl, hg, hr, hb⟩
  exact ⟨g, rfl, row_insW hr, hb⟩
theorem behind_sW (A : Option Addr) (c lo hi : Nat) (zs : List Int) (M q : Nat) (k : Int) (w : World) (hS : Ins w lo hi A (afters zs (M : Int) k true)) (hst : isSt zs (M : Int) = true) (hq : q ≤ 30) :
    Calls Try.prog 10 #[.agg #[.slice A zs.length c, .int .i64 (M : Int)], .int .i64 (q : Int)] w fun e w' => e = .returned (.tuple #[.int .i64 (behW q M zs k true : Int), .bool true]) ∧ Below w.heap.size w w' := by
  have := stateWeight_impl A c lo hi (afters zs (M : Int) k true) M q w hS (afters_isSt k true hst) hq
  rw [afters_len] at this
  exact this
theorem vBig_any2 (A : Option Addr) (n c : Nat) (w : World) (hn : n ≤ maxLen) (h : n ≤ 65536) :
    Calls Try.prog 6 #[.slice A n c] w fun e w' => e = .returned (.bool false) ∧ w' = w := by
  refine (vBig_any A n c w hn).mono ?_
  rintro e w' ⟨rfl, rfl⟩
  exact ⟨by rw [decide_eq_false (by omega)], rfl⟩
end Go.Proofs.Ytdolonmjhlhkeab
