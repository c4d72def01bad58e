/- AreCounts: both. -/
import Derived.Test.YtmieognengfiiaaCnt4
import Derived.Test.YtmieognengfiiaaStates
namespace Go.Proofs.Ytmieognengfiiaa
open Go.RowKit Go.ChangeShapes Go.WideShapes
set_option linter.unusedVariables false
theorem areCounts_both (zs : List Int) (h : zs.length ≤ 1048576) : ∃ (r0 : Bool),
    (∀ (w : World) (B : Option Addr) (c lo hi : Nat), Ins w lo hi B zs → Calls Try.prog 16 #[.slice B zs.length c] w fun e w' => e = .returned (.bool r0) ∧ Below w.heap.size w w') ∧
    (∀ (w : World) (B : Option Addr) (c lo hi : Nat), Ins w lo hi B zs → Calls Try.prog 14 #[.slice B zs.length c] w fun e w' => e = .returned (.bool r0) ∧ Below w.heap.size w w') :=
  ⟨cOK zs, fun w B c lo hi hS => (areCounts_impl B c lo hi zs w hS h).mono (by rintro e w' ⟨rfl, rfl⟩; exact ⟨rfl, Below.refl _ _⟩),
    fun w B c lo hi hS => (specAreCounts_any B c lo hi zs w hS h).mono (by rintro e w' ⟨rfl, rfl⟩; exact ⟨rfl, Below.refl _ _⟩)⟩
end Go.Proofs.Ytmieognengfiiaa
