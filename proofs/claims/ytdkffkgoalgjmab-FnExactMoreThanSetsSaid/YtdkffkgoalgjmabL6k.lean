/- LessNeed, BestLess, NeedOfLess: both. -/
import Derived.Test.YtdkffkgoalgjmabL6j
import Derived.Test.YtdkffkgoalgjmabL6q
namespace Go.Proofs.Ytdkffkgoalgjmab
open Go.RowKit Go.ChangeShapes Go.WideShapes Go.Maps
set_option linter.unusedVariables false

theorem needs_cell {w : World} {g M : Nat} {zs : List Int} (h : Own w g (g + 1) (some ⟨g, 0, none⟩) (needsL M zs.length)) (hs : Short M zs) : w.cell? ⟨g, keyS M zs, none⟩ = some (.int .i64 (needL M zs : Int)) := by
  have hk : keyS M zs < (needsL M zs.length).length := by rw [needsL_len]; exact keyTo_lt hs.fit
  have := own_cell h hk
  rw [show (needsL M zs.length).getD (keyS M zs) 0 = (needL M zs : Int) from by
    have h2 := needsL_at hs hk
    simp only [List.getD, List.getElem?_eq_getElem hk, Option.getD_some]
    exact h2] at this
  exact this
theorem shortB_long {zs : List Int} {m : Int} (h : 5 < zs.length) : shortB zs m = false := shortB_l (by omega)

set_option maxRecDepth 100000 in
set_option maxHeartbeats 4000000 in
theorem lessNeed_no (A : Option Addr) (c lo hi : Nat) (zs : List Int) (m : Int) (w : World) (hS : Ins w lo hi A zs) (hn : zs.length ≤ 1048576) (hsh : shortB zs m = false) :
    Calls Try.prog 96 #[.agg #[.slice A zs.length c, .int .i64 m]] w fun e w' => e = .returned (.tuple #[.int .i64 0, .bool false]) ∧ Below w.heap.size w w' := by
  have HX := Lib.hid (Arg.next (Below.refl w.heap.size w) (.slice A zs.length c) (.int .i64 m) 36 w.heap.size rfl)
  have HI := Lib.hid (hS.step HX.out.below)
  have HH := Lib.hid (fun W h => isShort_any A c lo hi zs m W h hn)
  rw [hsh] at HH
  clear hS
  go_enter Try.func96, Try.ntmps96
  go_wp2_with fail
  generalize w.alloc (.cells #[.slice A zs.length c, .int .i64 m] 36) = w0 at HX HI ⊢
  have h0 := HX.out.c0
  have h1 := HX.out.c1
  refine (HH.out w0 HI.out).mono ?_
  rintro e w1 ⟨rfl, hb⟩
  replace HX := Lib.hid (HX.out.step hb)
  replace HI := Lib.hid (HI.out.step hb)
  replace h0 := HX.out.c0
  replace h1 := HX.out.c1
  clear hb
  go_wp2
  go_ret2
  exact ⟨rfl, HX.out.below⟩
set_option maxRecDepth 100000 in
set_option maxHeartbeats 4000000 in
theorem lessNeed_yes (A : Option Addr) (c lo hi : Nat) (zs : List Int) (M : Nat) (w : World) (hS : Ins w lo hi A zs) (hs : Short M zs) :
    Calls Try.prog 96 #[.agg #[.slice A zs.length c, .int .i64 (M : Int)]] w fun e w' => e = .returned (.tuple #[.int .i64 (needL M zs : Int), .bool true]) ∧ Below w.heap.size w w' := by
  have HX := Lib.hid (Arg.next (Below.refl w.heap.size w) (.slice A zs.length c) (.int .i64 (M : Int)) 36 w.heap.size rfl)
  have HI := Lib.hid (hS.step HX.out.below)
  have HH := Lib.hid (fun W h => isShort_any A c lo hi zs (M : Int) W h (by have := hs.len; omega))
  rw [shortB_iff.2 ⟨M, rfl, hs⟩] at HH
  have HN := Lib.hid (need_plan hs)
  have HSH := Lib.hid hs
  have hfd := field_lp
  clear hs
  clear hS
  go_enter Try.func96, Try.ntmps96
  go_wp2_with fail
  generalize w.alloc (.cells #[.slice A zs.length c, .int .i64 (M : Int)] 36) = w0 at HX HI ⊢
  have h0 := HX.out.c0
  have h1 := HX.out.c1
  refine (HH.out w0 HI.out).mono ?_
  rintro e w1 ⟨rfl, hb⟩
  replace HX := Lib.hid (HX.out.step hb)
  replace HI := Lib.hid (HI.out.step hb)
  replace h0 := HX.out.c0
  replace h1 := HX.out.c1
  clear hb
  have HX1l := HX.out.hi
  have hbm := (Below.refl w1.heap.size w1).alloc (Nat.le_refl _) (.map #[] 0)
  have HPM := Lib.hid (LPlanM.made w1)
  have hhi := HI.out.top
  replace HX := Lib.hid (HX.out.step hbm)
  replace HI := Lib.hid (HI.out.step hbm)
  replace h0 := HX.out.c0
  replace h1 := HX.out.c1
  clear hbm
  have hmk := makeLPlans
  have HXl : Hid (w.heap.size < w1.heap.size) := Lib.hid HX1l
  go_wp2_with fail
  generalize w1.alloc (.map #[] 0) = w2 at HX HI h0 h1 HPM ⊢
  refine (planOf6_any M zs HSH.out A c lo hi w2 w1.heap.size HPM.out HI.out (.inl hhi)).mono ?_
  rintro e w3 ⟨rfl, hpm, hw⟩
  have HB := Lib.hid (HX.out.below.trans (hw.below (Nat.le_of_lt HXl.out) HX.out.below.size))
  clear hpm hw
  unfold lpV
  generalize planS M zs = p at HN ⊢
  go_wp2
  go_ret2
  exact ⟨by rw [← HN.out]; rfl, HB.out⟩
end Go.Proofs.Ytdkffkgoalgjmab
