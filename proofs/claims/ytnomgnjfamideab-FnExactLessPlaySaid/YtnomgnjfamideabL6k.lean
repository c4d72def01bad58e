/- LessNeed, BestLess, NeedOfLess: both. -/
import Derived.Test.YtnomgnjfamideabL6j
import Derived.Test.YtnomgnjfamideabL6q
namespace Go.Proofs.Ytnomgnjfamideab
open Go.RowKit Go.ChangeShapes Go.WideShapes Go.Maps
set_option linter.unusedVariables false

theorem needs_cell {w : World} {g M : Nat} {zs : List Int} (h : Own w g (g + 1) (some ⟨g, 0, none⟩) (needsL M zs.length)) (hs : Short M zs) : w.cell? ⟨g, keyS M zs, none⟩ = some (.int .i64 (needL M zs : Int)) := by
  have hk : keyS M zs < (needsL M zs.length).length := by rw [needsL_len]; exact keyTo_lt hs.fit
  have := own_cell h hk
  rw [show (needsL M zs.length).getD (keyS M zs) 0 = (needL M zs : Int) from by
    have h2 := needsL_at hs hk
    simp only [List.getD, List.getElem?_eq_getElem hk, Option.getD_some]
    exact h2] at this
  exact this
theorem shortB_long {zs : List Int} {m : Int} (h : 5 < zs.length) : shortB zs m = false := shortB_l (by omega)

end Go.Proofs.Ytnomgnjfamideab
