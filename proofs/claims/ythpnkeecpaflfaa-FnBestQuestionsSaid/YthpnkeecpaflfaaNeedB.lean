/- NeedOf: both. -/
import Derived.Test.YthpnkeecpaflfaaNeeds
import Derived.Test.YthpnkeecpaflfaaSNeed
import Derived.Test.YthpnkeecpaflfaaPlanOf
namespace Go.Proofs.Ythpnkeecpaflfaa
open Go.RowKit Go.ChangeShapes Go.WideShapes
set_option linter.unusedVariables false

set_option maxRecDepth 100000 in
set_option maxHeartbeats 4000000 in
theorem needOf_impl (A : Option Addr) (c lo hi : Nat) (zs : List Int) (w : World) (hS : Ins w lo hi A zs) (hn : zs.length ≤ 1048576) :
    Calls Try.prog 19 #[.slice A zs.length c] w fun e w' => e = .returned (.tuple #[.int .i64 (if cOK zs then ((needR (rowL zs) : Nat) : Int) else 0), .bool (cOK zs)]) ∧ Below w.heap.size w w' := by
  have HC := Lib.hid (fun W h => areCounts_impl A c lo hi zs W h hn)
  have HS := Lib.hid hS
  clear hS
  cases hok : cOK zs with
  | false =>
    rw [hok] at HC
    go_enter Try.func19, Try.ntmps19
    go_wp2_with fail
    refine (HC.out w HS.out).mono ?_
    rintro e w1 ⟨rfl, rfl⟩
    go_wp2
    go_ret2
    exact ⟨rfl, Below.refl _ _⟩
  | true =>
    rw [hok] at HC
    obtain ⟨r, hr, hw, h8⟩ := cOK_row hok
    rw [if_pos rfl, rowL_eq hr hw]
    have hp := hw.le
    generalize zs.length = p at *
    have HR := Lib.hid (fun W h => rowOf_any A c lo hi p r W h hw)
    rw [← hr] at HR
    have HPl := Lib.hid (fun W M h => needOf_any r h8 W M h)
    have hmk := makePlans
    have B1 := (Below.refl w.heap.size w).alloc (Nat.le_refl _) (.map #[] 0)
    have HB1 := Lib.hid B1
    have HS1 := Lib.hid (HS.out.step B1)
    have HM1 := Lib.hid (PlanM.made w)
    clear hok hr B1
    go_enter Try.func19, Try.ntmps19
    go_wp2_with fail
    refine (HC.out w HS.out).mono ?_
    rintro e w1 ⟨rfl, rfl⟩
    clear HC
    go_wp2_with fail
    clear hmk
    generalize hwa : w1.alloc (.map #[] 0) = wa at HB1 HS1 HM1 ⊢
    clear hwa
    refine (HR.out wa HS1.out).mono ?_
    rintro e w2 ⟨rfl, hb2⟩
    have HM2 := Lib.hid (HM1.out.step hb2)
    have HB2 := Lib.hid (below_trans HB1.out hb2)
    clear hb2
    go_wp2_with fail
    refine (HPl.out w2 w1.heap.size HM2.out).mono ?_
    rintro e w3 ⟨rfl, hpm3, hw3⟩
    have HB3 := Lib.hid (HB2.out.trans (hw3.below (Nat.le_refl _) HB2.out.size))
    clear hpm3 hw3
    go_wp2
    go_ret2
    exact ⟨rfl, HB3.out⟩
end Go.Proofs.Ythpnkeecpaflfaa
