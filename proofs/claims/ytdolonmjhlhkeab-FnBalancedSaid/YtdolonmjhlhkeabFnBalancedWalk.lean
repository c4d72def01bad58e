/- The law FnBalanced: its walk, whatever the code. -/
import Derived.Test.YtdolonmjhlhkeabBalW
import Derived.Test.YtdolonmjhlhkeabBalK
namespace Go.Proofs.Ytdolonmjhlhkeab
open Go.RowKit Go.ChangeShapes Go.WideShapes
set_option linter.unusedVariables false

set_option maxRecDepth 100000 in
theorem fnBalanced_walk (A : Option Addr) (n c : Nat) (W : World) (hC : Code W W.heap.size A n) (h1 : n ≤ c) (h2 : c ≤ maxLen) (hA : A = none → c = 0) (hsh : W.ShapedOpen Try.prog) :
    Calls Try.prog 4 #[.slice A n c] W fun e W' => e = .returned (.bool true) ∧ Below W.heap.size W W' := by
  by_cases h : n ≤ 65536
  · exact fnBalanced_run A n c W hC (by omega) h (fun w hb => vCut_any A n c W hC h1 h2 h hA w hb)
  · have HV := Lib.hid (vBig_any A n c W (by omega))
    rw [decide_eq_true (by omega)] at HV
    clear hC hA hsh
    go_enter Try.func4, Try.ntmps4
    go_wp2_with fail
    refine (HV.out).mono ?_
    rintro e w' ⟨rfl, hw⟩
    have hw := hw.symm
    subst hw
    go_wp2
    go_ret
    exact ⟨rfl, Below.refl _ _⟩
end Go.Proofs.Ytdolonmjhlhkeab
