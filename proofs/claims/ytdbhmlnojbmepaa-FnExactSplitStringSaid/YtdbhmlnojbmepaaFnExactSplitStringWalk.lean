/- The law of SplitString: its walk over the two functions' contracts, the marks among them. -/
import Derived.Test.YtdbhmlnojbmepaaSplitImpl
import Derived.Test.YtdbhmlnojbmepaaMark
namespace Go.Proofs.Ytdbhmlnojbmepaa
open Go.RowKit
set_option linter.unusedVariables false

theorem below_trans {a b c : World} (h : Below a.heap.size a b) (k : Below b.heap.size b c) : Below a.heap.size a c := h.trans (k.mono h.size)
/-- A known row reads as the strings that it holds. -/
theorem strs_row {w : World} {g : Nat} {cur : Array Value} {t : TypeId} {ss : List ByteArray} (h : w.heap[g]? = some (.cells cur t (0, 0))) (hc : ∀ (j : Nat) x, ss[j]? = some x → cur[j]? = some (.string x)) : Strs w (some ⟨g, 0, none⟩) ss := fun _ =>
  ⟨g, 0, rfl, row_ltM h, fun j x hx => by rw [Nat.zero_add, row_cellM h]; exact hc j x hx⟩
theorem marks_read {w : World} {g n : Nat} {cur : Array Value} {t : TypeId} (h : w.heap[g]? = some (.cells (markArr cur n) t (0, 0))) (hn : n ≤ cur.size) : ∀ j, j < n → w.cell? ⟨g, j, none⟩ = some (.string (mkT (j + 1))) := fun j hj => by
  rw [row_cellM h]; exact markArr_at cur n j hj (by omega)
theorem block_below {w w' : World} {g : Nat} {o : Obj} (h : w.heap[g]? = some o) (hb : Below w.heap.size w w') : w'.heap[g]? = some o := (hb.block g (row_ltM h)).trans h

set_option maxHeartbeats 2000000 in
theorem fnExactSplitString_walk (s sep : ByteArray) (W : World) (wa : s.size ≤ maxLen) (wb : sep.size ≤ maxLen) (hsh : W.ShapedOpen Try.prog) :
    Calls Try.prog 4 #[.string s, .string sep] W fun e w' => e = .returned (.bool true) ∧ Below W.heap.size W w' := by
  clear hsh
  unfold maxLen at wa wb
  by_cases h1 : s.size ≤ 1048576
  · by_cases h2 : sep.size ≤ 1048576
    · obtain ⟨ss, ok, hn, hi, hs⟩ := split_both s sep h1 h2
      have CI := Lib.hid hi
      have CS := Lib.hid hs
      clear hi hs
      go_enter Try.func4, Try.ntmps4
      go_wp2_with fail
      refine (CS.out W).mono ?_
      rintro e w1 ⟨g0, c0, cur0, rfl, hg0, hr0, hs0, hc0, hv0, hb⟩
      have R0 := Lib.hid hr0
      have V0 := Lib.hid hv0
      have B1 := Lib.hid hb
      have G0 := Lib.hid hg0
      clear hr0 hv0 hb hs0 hg0
      go_wp2_with fail
      refine (CI.out w1).mono ?_
      rintro e w2 ⟨g1, c1, cur1, rfl, hg1, hr1, hs1, hc1, hv1, hb⟩
      have R1 := Lib.hid hr1
      have V1 := Lib.hid hv1
      have S1 := Lib.hid hs1
      have NE := Lib.hid (show g0 ≠ g1 from by have := row_ltM R0.out; omega)
      have R0' := Lib.hid (block_below R0.out hb)
      have B2 := Lib.hid (below_trans B1.out hb)
      have GW := Lib.hid (show W.heap.size ≤ g1 from Nat.le_trans B1.out.size hg1)
      clear hr1 hv1 hb hs1 hg1 R0 B1
      go_wp2_with fail
      refine (eqStringS_same (some ⟨g1, 0, none⟩) (some ⟨g0, 0, none⟩) c1 c0 ss w2 (strs_row R1.out V1.out) (strs_row R0'.out V0.out) (by omega)).mono ?_
      rintro e w3 ⟨rfl, q, rfl⟩
      have R13 := Lib.hid (show (w2.drewN q).heap[g1]? = _ from R1.out)
      have R03 := Lib.hid (show (w2.drewN q).heap[g0]? = _ from R0'.out)
      have B3 := Lib.hid (below_drewN B2.out q)
      generalize w2.drewN q = w3 at R13 R03 B3 ⊢
      clear R1 R0' B2
      go_wp2_with fail
      refine (markStringS_any g1 c1 ss.length cur1 w3 R13.out S1.out (by omega)).mono ?_
      rintro e w4 ⟨rfl, hr4, hg4⟩
      have R14 := Lib.hid hr4
      have R04 := Lib.hid ((hg4.block g0 (row_ltM R03.out) (fun e => NE.out (by injection e))).trans R03.out)
      have B4 := Lib.hid (B3.out.grown hg4 B3.out.size (fun k e => by injection e with e; rw [← e]; exact GW.out))
      clear hr4 hg4 R13 R03 B3
      go_wp2_with fail
      refine (heldStringS_any g1 c1 ss.length w4 (marks_read R14.out S1.out) (row_ltM R14.out) (by omega)).mono ?_
      rintro e w5 ⟨rfl, hb⟩
      have R15 := Lib.hid (block_below R14.out hb)
      have R05 := Lib.hid (block_below R04.out hb)
      have B5 := Lib.hid (below_trans B4.out hb)
      clear hb R14 R04 B4
      go_wp2_with fail
      refine (CI.out w5).mono ?_
      rintro e w6 ⟨g2, c2, cur2, rfl, hg2, hr2, hs2, hc2, hv2, hb⟩
      have R26 := Lib.hid hr2
      have V2 := Lib.hid hv2
      have R16 := Lib.hid (block_below R15.out hb)
      have R06 := Lib.hid (block_below R05.out hb)
      have B6 := Lib.hid (below_trans B5.out hb)
      clear hr2 hv2 hb hs2 hg2 R15 R05 B5
      go_wp2_with fail
      refine (eqStringS_same (some ⟨g2, 0, none⟩) (some ⟨g0, 0, none⟩) c2 c0 ss w6 (strs_row R26.out V2.out) (strs_row R06.out V0.out) (by omega)).mono ?_
      rintro e w7 ⟨rfl, q7, rfl⟩
      have R17 := Lib.hid (show (w6.drewN q7).heap[g1]? = _ from R16.out)
      have B7 := Lib.hid (below_drewN B6.out q7)
      generalize w6.drewN q7 = w7 at R17 B7 ⊢
      clear R26 R16 R06 B6
      go_wp2_with fail
      refine (heldStringS_any g1 c1 ss.length w7 (marks_read R17.out S1.out) (row_ltM R17.out) (by omega)).mono ?_
      rintro e w8 ⟨rfl, hb⟩
      have B8 := Lib.hid (below_trans B7.out hb)
      clear hb R17 B7
      go_wp2_with fail
      go_ret
      exact ⟨rfl, B8.out⟩
    · go_enter Try.func4, Try.ntmps4
      go_wp2
      go_ret
      exact ⟨rfl, Below.refl _ _⟩
  · go_enter Try.func4, Try.ntmps4
    go_wp2
    go_ret
    exact ⟨rfl, Below.refl _ _⟩
end Go.Proofs.Ytdbhmlnojbmepaa
