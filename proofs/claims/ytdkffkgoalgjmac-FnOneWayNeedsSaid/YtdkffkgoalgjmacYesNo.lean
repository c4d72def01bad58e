/- YesCounts, NoCounts: both. -/
import Derived.Test.YtdkffkgoalgjmacSp4b
import Derived.Test.YtdkffkgoalgjmacRow5
import Derived.Test.YtdkffkgoalgjmacConv
import Derived.Test.YtdkffkgoalgjmacStates
namespace Go.Proofs.Ytdkffkgoalgjmac
open Go.RowKit Go.ChangeShapes Go.WideShapes
set_option linter.unusedVariables false

set_option maxRecDepth 100000 in
set_option maxHeartbeats 4000000 in
theorem l4No_any (A : Option Addr) (c lo hi : Nat) (A2 : Option Addr) (c2 lo2 hi2 : Nat) (p : Nat) (r s : Row) (w : World) (hS : Ins w lo hi A (lstR p r)) (hS2 : Ins w lo2 hi2 A2 (lstR p s)) (hw : Wide p r) (h8 : rsum r ≤ 8) (hf : Fits s r) :
    Calls Try.prog 106 #[.slice A p c, .slice A2 p c2] w fun e w' => ∃ g c', e = .returned (.slice (some ⟨g, 0, none⟩) p c') ∧ w.heap.size ≤ g ∧ Own w' g (g + 1) (some ⟨g, 0, none⟩) (lstR p (noR r s)) ∧ Below w.heap.size w w' := by
  have hp := hw.le
  have HL := Lib.hid (lst_len hp (leftR r s))
  have HS := Lib.hid hS
  have HC := Lib.hid (fun W h h2 => l4Rest_any A c lo hi A2 c2 lo2 hi2 p r s W h h2 hp h8 hf)
  have HY := Lib.hid (fun B cB loB hiB W h h2 => l4Yes_any A c lo hi B cB loB hiB p r (leftR r s) W h h2 hw h8 left_fits)
  rw [show yesR r (leftR r s) = noR r s from rfl] at HY
  go_enter Try.func106, Try.ntmps106
  go_wp2_with fail
  refine (HC.out w hS hS2).mono ?_
  rintro e w1 ⟨v1, rfl, ho, hb⟩
  obtain ⟨B, cB, rfl, _, hres⟩ := own_res (zs := lstR p (leftR r s)) (n := p) ho HL.out.symm
  have HR := Lib.hid hres.ins
  have HB1 := Lib.hid hb
  have HS1 := Lib.hid (HS.out.step hb)
  clear hS hS2 ho hb hres HC
  rw [HL.out]
  go_wp2_with fail
  refine (HY.out B cB _ _ w1 HS1.out HR.out).mono ?_
  rintro e w2 ⟨g, cg, rfl, hg, ho, hb⟩
  have hsz := HB1.out.size
  have HO := Lib.hid ho
  have HB2 := Lib.hid (below_trans HB1.out hb)
  clear ho hb
  go_wp2
  go_ret
  exact ⟨g, cg, rfl, by omega, HO.out, HB2.out⟩

theorem own_ansR {w w' : World} {g c' p : Nat} {l : List Int} {e : Ending} (hl : l.length = p) (he : e = .returned (.tuple #[.slice (some ⟨g, 0, none⟩) p c', .bool true])) (hg : w.heap.size ≤ g) (hr : Own w' g (g + 1) (some ⟨g, 0, none⟩) l) (hb : Below w.heap.size w w') :
    ∃ B c', e = .returned (.tuple #[.slice B l.length c', .bool true]) ∧ Res w' w.heap.size w'.heap.size B l ∧ Below w.heap.size w w' :=
  ⟨_, c', by rw [he, hl], ⟨hr.wide hg (own_lt hr), Nat.le_refl _⟩, hb⟩
theorem row_own {w : World} {g : Nat} {l : List Int} (h : w.heap[g]? = some (.cells (l.map (Value.int .i64)).toArray 3 (0, 0))) : Own w g (g + 1) (some ⟨g, 0, none⟩) l :=
  .inr ⟨g, _, rfl, Nat.le_refl _, Nat.lt_succ_self _, h, by simp, fun j x hx => by simp [hx]⟩

/-- The row of a list. -/
def rowL : List Int → Row
  | [c] => (0, 0, c.toNat)
  | [b, c] => (0, b.toNat, c.toNat)
  | [a, b, c] => (a.toNat, b.toNat, c.toNat)
  | _ => (0, 0, 0)
theorem rowL_lst {p : Nat} {r : Row} (hw : Wide p r) : rowL (lstR p r) = r := by
  obtain ⟨a, b, c⟩ := r
  rcases hw with ⟨h1, h2, h3⟩ | ⟨h1, h2⟩ | h1 <;> subst h1 <;> simp_all [lstR, rowL]
theorem rowL_eq {p : Nat} {l : List Int} {r : Row} (h : l = lstR p r) (hw : Wide p r) : rowL l = r := by rw [h]; exact rowL_lst hw
theorem lst_short (p : Nat) (r : Row) : (lstR p r).length ≤ 3 := by simp [lstR]
theorem rows_len (q : Bool) (zs ss : List Int) (f : Nat → Row → Row → List Int) (hf : ∀ p r s, (f p r s).length ≤ 3) : (if q then f zs.length (rowL zs) (rowL ss) else []).length ≤ 1048576 := by
  cases q
  · simp
  · simp only [if_true]
    have := hf zs.length (rowL zs) (rowL ss)
    omega
/-- What the two functions answer. -/
def RowAns (w : World) (r0 : List Int) (r1 : Bool) (e : Ending) (w' : World) : Prop := ∃ B c', e = .returned (.tuple #[.slice B r0.length c', .bool r1]) ∧ Res w' w.heap.size w'.heap.size B r0 ∧ Below w.heap.size w w'
set_option maxRecDepth 100000 in
set_option maxHeartbeats 4000000 in
theorem noCounts_impl (A : Option Addr) (c lo hi : Nat) (zs : List Int) (A2 : Option Addr) (c2 lo2 hi2 : Nat) (ss : List Int) (w : World) (hS : Ins w lo hi A zs) (hS2 : Ins w lo2 hi2 A2 ss) (hn : zs.length ≤ 1048576) (hn2 : ss.length ≤ 1048576) :
    Calls Try.prog 105 #[.slice A zs.length c, .slice A2 ss.length c2] w (RowAns w (if cOK zs && fitL ss zs then (fun (p : Nat) (r s : Row) => lstR p (noR r s)) zs.length (rowL zs) (rowL ss) else []) (cOK zs && fitL ss zs)) := by
  have HC := Lib.hid (fun W h h2 => isSplit_any A c lo hi zs A2 c2 lo2 hi2 ss W h h2 hn hn2)
  cases hok : (cOK zs && fitL ss zs) with
  | false =>
    rw [hok] at HC
    rw [if_neg (by simp)]
    unfold RowAns
    go_enter Try.func105, Try.ntmps105
    go_wp2_with fail
    refine (HC.out w hS hS2).mono ?_
    rintro e w1 ⟨rfl, rfl⟩
    go_wp2
    go_ret2
    exact ⟨_, 0, rfl, empty_res w1 w1.heap.size (Nat.le_refl _), (Below.refl _ _).alloc (Nat.le_refl _) _⟩
  | true =>
    rw [hok] at HC
    rw [Bool.and_eq_true] at hok
    obtain ⟨r, hr, hw, h8⟩ := cOK_row hok.1
    have hf := hok.2
    rw [hr] at hf
    obtain ⟨s, hs, hws, hfs⟩ := fit_row hw hf
    have hp := hw.le
    rw [if_pos rfl, rowL_eq hr hw, rowL_eq (p := zs.length) hs hws]
    have hl2 : ss.length = zs.length := by rw [hs, lst_len hp]
    rw [hl2] at HC ⊢
    generalize zs.length = p at *
    have HS := Lib.hid hS
    have HS2 := Lib.hid hS2
    have HR1 := Lib.hid (fun W h => rowOf_any A c lo hi p r W h hw)
    have HR2 := Lib.hid (fun W h => rowOf_any A2 c2 lo2 hi2 p s W h hws)
    rw [← hr] at HR1
    rw [← hs] at HR2
    have HY := Lib.hid (fun W => noRow_any r s W h8 hfs)
    have HT := Lib.hid (fun W => listOf_any p (noR r s) W (yes_wide hw hfs).2)
    have HLn := Lib.hid (lst_len hp (noR r s))
    clear hok hf hr hs hS hS2
    unfold RowAns
    go_enter Try.func105, Try.ntmps105
    go_wp2_with fail
    refine (HC.out w HS.out HS2.out).mono ?_
    rintro e w1 ⟨rfl, rfl⟩
    clear HC
    go_wp2_with fail
    refine (HR1.out w1 HS.out).mono ?_
    rintro e w2 ⟨rfl, hb⟩
    have HB := Lib.hid hb
    have HS22 := Lib.hid (HS2.out.step hb)
    clear hb HR1
    go_wp2_with fail
    refine (HR2.out w2 HS22.out).mono ?_
    rintro e w3 ⟨rfl, hb⟩
    replace HB := Lib.hid (below_trans HB.out hb)
    clear hb HR2
    go_wp2_with fail
    refine (HY.out w3).mono ?_
    rintro e w4 ⟨rfl, hb⟩
    replace HB := Lib.hid (below_trans HB.out hb)
    clear hb HY
    go_wp2_with fail
    refine (HT.out w4).mono ?_
    rintro e w5 ⟨g, rfl, hg, hrow, hb⟩
    have hsz := HB.out.size
    replace HB := Lib.hid (below_trans HB.out hb)
    have HRw := Lib.hid hrow
    clear hb hrow HT
    go_wp2
    go_ret2
    exact own_ansR HLn.out rfl (by omega) (row_own HRw.out) HB.out
end Go.Proofs.Ytdkffkgoalgjmac
