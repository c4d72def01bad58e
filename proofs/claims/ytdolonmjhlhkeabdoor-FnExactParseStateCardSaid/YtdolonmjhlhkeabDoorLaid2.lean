/- What the rows' lists of package variables give: the table of powers of ten, the two errors. -/
import Derived.Test.YtdolonmjhlhkeabDoorProg
import Derived.LaidLaws
import Derived.Lib.LaidTab
import Derived.Lib.ItoaNum
import Derived.Stop.LaidErr
import Derived.KernelRfl
import Derived.WalkSmall
import Derived.WalkKit
import Derived.Test.YtdolonmjhlhkeabDoorShelf
import Derived.Test.YtdolonmjhlhkeabDoorRows
namespace Go.Proofs.YtdolonmjhlhkeabDoor
open Go.RowKit

theorem g_pow : Tryd.prog.globalNamed "internal/strconv.uint64pow10" = some 3 := by kernel_rfl
theorem gt_pow : (Tryd.prog.globals[3]?).map (·.type) = some 81 := by kernel_rfl
theorem c_row20 : Tryd.prog.cellsOf 81 = 20 := by kernel_rfl
theorem c_u64 : Tryd.prog.cellsOf 62 = 1 := by kernel_rfl
theorem pow_data : (Rows.laid_internal_strconv_uint64pow10 : DataW Unit) = Lib.tabData .u64 Lib.pow10Tab := by kernel_rfl
theorem laid_pow {W : World} {a b : String × DataW Unit} {rest : List (String × DataW Unit)} (h : laidMet Tryd.prog (a :: b :: ("internal/strconv.uint64pow10", Rows.laid_internal_strconv_uint64pow10) :: rest) W) :
    Lib.TabIs Tryd.prog W "internal/strconv.uint64pow10" .u64 Lib.pow10Tab := by
  have h2 := h.tail.tail
  rw [pow_data] at h2
  exact Lib.tabIs_of_head g_pow gt_pow Tryd.underlying81 Tryd.underlying62 c_u64 c_row20 h2

theorem g_syn : Tryd.prog.globalNamed "strconv.ErrSyntax" = some 1 := by kernel_rfl
theorem gt_syn : (Tryd.prog.globals[1]?).map (·.type) = some 41 := by kernel_rfl
theorem g_ran : Tryd.prog.globalNamed "strconv.ErrRange" = some 2 := by kernel_rfl
theorem gt_ran : (Tryd.prog.globals[2]?).map (·.type) = some 41 := by kernel_rfl
theorem c_es : Tryd.prog.cellsOf 74 = 1 := by kernel_rfl
theorem c_str : Tryd.prog.cellsOf 9 = 1 := by kernel_rfl
theorem star_es : "*" ++ "errors.errorString" = "*errors.errorString" := by decide
theorem row_es (u : TypeId) (h : Tryd.prog.typeName? 3 u = some "*errors.errorString") : u = 72 :=
  typeName_ptr_named (nm := "errors.errorString") (by rw [star_es]; kernel_rfl) (by kernel_rfl) (by decide) u (by rw [star_es]; exact h)
theorem laid_errs {W : World} {a b c : String × DataW Unit} {rest : List (String × DataW Unit)} (h : laidMet Tryd.prog (a :: b :: c :: ("strconv.ErrRange", Rows.laid_strconv_ErrRange) :: ("strconv.ErrSyntax", Rows.laid_strconv_ErrSyntax) :: rest) W) :
    (∃ p, W.var? Tryd.prog "strconv.ErrRange" = some #[.iface 72 p]) ∧ (∃ p, W.var? Tryd.prog "strconv.ErrSyntax" = some #[.iface 72 p]) := by
  have h1 := h.tail.tail.tail
  obtain ⟨a0, s0, hv0, -, -, -⟩ := laid_sentinel h1 g_ran gt_ran Tryd.underlying41 row_es Tryd.underlying72 Tryd.underlying74 rfl rfl Tryd.underlying9 c_es c_str
  obtain ⟨a1, s1, hv1, -, -, -⟩ := laid_sentinel h1.tail g_syn gt_syn Tryd.underlying41 row_es Tryd.underlying72 Tryd.underlying74 rfl rfl Tryd.underlying9 c_es c_str
  exact ⟨⟨_, hv0⟩, ⟨_, hv1⟩⟩

theorem var_lt {P : Program} {W : World} {n : String} {g : Nat} {cs : Array Value} (hg : P.globalNamed n = some g) (hv : W.var? P n = some cs) : g < W.heap.size := by
  unfold World.var? at hv
  simp only [hg, Option.bind_some] at hv
  rcases Nat.lt_or_ge g W.heap.size with h | h
  · exact h
  · rw [Array.getElem?_eq_none h] at hv; cases hv
/-- The table is laid. -/
def Pow (W : World) : Prop := Lib.TabIs Tryd.prog W "internal/strconv.uint64pow10" .u64 Lib.pow10Tab
theorem Pow.below {W W' : World} (h : Pow W) (hb : Below W.heap.size W W') : Pow W' := var?_below hb g_pow (var_lt g_pow h) h
/-- The two errors are laid. -/
def Errs (W : World) : Prop := (∃ p, W.var? Tryd.prog "strconv.ErrRange" = some #[.iface 72 p]) ∧ (∃ p, W.var? Tryd.prog "strconv.ErrSyntax" = some #[.iface 72 p])
theorem Errs.below {W W' : World} (h : Errs W) (hb : Below W.heap.size W W') : Errs W' := by
  obtain ⟨⟨p, hp⟩, ⟨q, hq⟩⟩ := h
  exact ⟨⟨p, var?_below hb g_ran (var_lt g_ran hp) hp⟩, ⟨q, var?_below hb g_syn (var_lt g_syn hq) hq⟩⟩
/-- The library's limit is some number. -/
def MaxL (W : World) : Prop := 0 < W.heap.size ∧ ∃ m, W.cell? ⟨0, 0, none⟩ = some (.int .i64 m)
theorem MaxL.below {W W' : World} (h : MaxL W) (hb : Below W.heap.size W W') : MaxL W' := by
  obtain ⟨hl, m, hm⟩ := h
  exact ⟨Nat.lt_of_lt_of_le hl hb.size, m, (hb.cell (p := ⟨0, 0, none⟩) hl).trans hm⟩
theorem cell_lt {w : World} {a : Addr} {v : Value} (h : w.cell? a = some v) : a.block < w.heap.size := by
  rcases Nat.lt_or_ge a.block w.heap.size with hl | hg
  · exact hl
  · simp [World.cell?, Array.getElem?_eq_none hg] at h
theorem maxL_of {W : World} (h : W.ShapedOpen Tryd.prog) : MaxL W := by
  obtain ⟨m, hm⟩ := Tryd.laysM145.s1_3 W h
  exact ⟨cell_lt hm, m, hm⟩
theorem below_transL {a b c : World} (h : Below a.heap.size a b) (k : Below b.heap.size b c) : Below a.heap.size a c := h.trans (k.mono h.size)
end Go.Proofs.YtdolonmjhlhkeabDoor
