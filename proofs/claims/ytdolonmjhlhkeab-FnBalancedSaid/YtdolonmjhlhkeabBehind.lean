/- The weight behind an answer: the program's closure; its neighbours. -/
import Derived.Test.YtdolonmjhlhkeabRoom
import Derived.Test.YtdolonmjhlhkeabAnswer
namespace Go.Proofs.Ytdolonmjhlhkeab
open Go.RowKit Go.ChangeShapes Go.WideShapes
set_option linter.unusedVariables false

/-- A block of one cell. -/
structure One (w : World) (b : Nat) (x : Value) (t : TypeId) : Prop where
  row : w.heap[b]? = some (.cells #[x] t (0, 0))
theorem One.lt {w : World} {b : Nat} {x : Value} {t : TypeId} (h : One w b x t) : b < w.heap.size := row_ltI h.row
theorem One.step {w w' : World} {b : Nat} {x : Value} {t : TypeId} (h : One w b x t) (hb : Below w.heap.size w w') : One w' b x t := ⟨(hb.block b h.lt).trans h.row⟩
theorem One.new (w : World) (x : Value) (t : TypeId) (b : Nat) (hb : b = w.heap.size) : One (w.alloc (.cells #[x] t)) b x t := ⟨alloc_row' _ _ _ _ hb⟩
theorem One.c0 {w : World} {b : Nat} {x : Value} {t : TypeId} (h : One w b x t) : w.cell? ⟨b, 0, none⟩ = some x := by rw [row_cellI h.row]; rfl

theorem own_insG {w : World} {g : Nat} {l : List Int} (h : Own w g (g + 1) (some ⟨g, 0, none⟩) l) : Ins w g (g + 1) (some ⟨g, 0, none⟩) l := ⟨h.ints, own_lt h⟩
/-- The weight behind an answer, with q questions ahead. -/
def behW (q M : Nat) (zs : List Int) (k : Int) (y : Bool) : Nat := stW q M (afters zs (M : Int) k y)
theorem behW_bd {q M : Nat} {zs : List Int} (k : Int) (y : Bool) (hq : q ≤ 30) (hn : zs.length ≤ 12) : behW q M zs k y ≤ 12884901888 := stW_bd hq (by rw [afters_len]; exact hn)

set_option maxRecDepth 100000 in
set_option maxHeartbeats 4000000 in
theorem behind_any (A : Option Addr) (c lo hi : Nat) (zs : List Int) (M q : Nat) (k : Int) (y : Bool) (sb wb g : Nat) (w : World) (hT : Two w sb (.slice A zs.length c) (.int .i64 (M : Int)) 26) (hO : One w wb (.slice (some ⟨g, 0, none⟩) (M + 1) (M + 1)) 24) (hW : Ins w g (g + 1) (some ⟨g, 0, none⟩) (tabs M q)) (hS : Ins w lo hi A zs) (hst : isSt zs (M : Int) = true) (hq : q ≤ 30) (hk : qOK zs.length k = true) :
    Calls Try.prog 114 #[.agg #[.int .i64 k, .bool y], .pointer (some ⟨sb, 0, none⟩), .pointer (some ⟨wb, 0, none⟩)] w fun e w' => e = .returned (.int .i64 (behW q M zs k y : Int)) ∧ Below w.heap.size w w' := by
  have HBl := Lib.hid ((Below.refl w.heap.size w).alloc (Nat.le_refl _) (.cells #[.int .i64 k, .bool y] 51))
  have HU := Lib.hid (Two.new w (.int .i64 k) (.bool y) 51 w.heap.size rfl)
  have HT := Lib.hid (hT.step HBl.out)
  have HO := Lib.hid (hO.step HBl.out)
  have HW := Lib.hid (hW.step HBl.out)
  have HI := Lib.hid (hS.step HBl.out)
  have HAS := Lib.hid (fun W h => answerState_impl A c lo hi zs (M : Int) k y W h hst hk)
  have HSW := Lib.hid (fun Aw cw low hiw g' c' W h1 h2 => sumOfWeights_any Aw cw low hiw (some ⟨g', 0, none⟩) c' g' (g' + 1) (afters zs (M : Int) k y) M q W h1 h2 (afters_isSt k y hst) hq)
  have HR : Hid (stW q M (afters zs (M : Int) k y) = behW q M zs k y) := rfl
  rw [HR.out] at HSW
  rw [afters_len] at HSW
  generalize behW q M zs k y = x at HSW ⊢
  clear hT hO hW hS hst hk HR
  go_enter Try.func114, Try.ntmps114
  have h0 := HT.out.c0
  have h1 := HT.out.c1
  go_wp2_with fail
  generalize w.alloc (.cells #[.int .i64 k, .bool y] 51) = wa at HT HO HW HI HU HBl h0 h1 ⊢
  refine (HAS.out wa HI.out).mono ?_
  rintro e wc ⟨g', rfl, hg, hr, hb⟩
  have hlt := row_ltI hr
  have HB1 := Lib.hid ((Below.refl wc.heap.size wc).alloc (Nat.le_refl _) (.cells #[.slice (some ⟨g', 0, none⟩) zs.length zs.length, .int .i64 (M : Int)] 26))
  have HR2 := Lib.hid (row_insW ((HB1.out.block g' hlt).trans hr))
  have HB2 := Lib.hid (below_trans hb HB1.out)
  have HO2 := Lib.hid (HO.out.step HB2.out)
  have HW2 := Lib.hid (HW.out.step HB2.out)
  have HBz := Lib.hid (below_trans HBl.out HB2.out)
  have HN := Lib.hid (Two.new wc (.slice (some ⟨g', 0, none⟩) zs.length zs.length) (.int .i64 (M : Int)) 26 wc.heap.size rfl)
  have k0 := HO2.out.c0
  have k1 := HN.out.c0
  have k2 := HN.out.c1
  clear hb hr h0 h1 HT HO HW HI HU HBl
  go_wp2_with fail
  refine (HSW.out _ _ _ _ _ _ _ HW2.out HR2.out).mono ?_
  rintro e wd ⟨rfl, hb⟩
  have HB := Lib.hid (below_trans HBz.out hb)
  clear hb k0 k1 k2
  go_wp2
  go_ret
  exact ⟨rfl, HB.out⟩
end Go.Proofs.Ytdolonmjhlhkeab
