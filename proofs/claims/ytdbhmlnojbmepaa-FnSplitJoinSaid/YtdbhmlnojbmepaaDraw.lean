/- The draws of the law on splitting and joining: short texts. -/
import Derived.Test.YtdbhmlnojbmepaaCur
import Derived.Test.YtdbhmlnojbmepaaStrs
import Derived.Maps.AppendAt
import Derived.RangeFuncBox
import Derived.Laws.IdiomStrings
namespace Go.Proofs.Ytdbhmlnojbmepaa
open Go.RowKit
set_option linter.unusedVariables false

def Two4000 (w : World) (e : Ending) (w' : World) : Prop := ∃ s t : ByteArray, e = .returned (.tuple #[.string s, .string t]) ∧ s.size ≤ 4000 ∧ t.size ≤ 4000 ∧ Below w.heap.size w w'

set_option maxHeartbeats 1000000 in
theorem drawSplit_any (A : Option Addr) (n c : Nat) (w : World) (h : Code w w.heap.size A n) (hn : n ≤ 65536) :
    Calls Try.prog 9 #[.slice A n c] w (Two4000 w) := by
  have H0 := Lib.hid (Cur.new (c := c) h)
  clear h
  go_enter Try.func9, Try.ntmps9
  go_wp2_with fail
  refine (any1_any w.heap.size A n c 0 _ H0.out (by omega) hn).mono ?_
  rintro e w1 ⟨s, rfl, hs, k2, hk2, hc1, hg1⟩
  have H1 := Lib.hid hc1
  have G1 := Lib.hid ((only_alloc (World.grownBy.refl w (some w.heap.size)) _).trans hg1)
  clear hc1 hg1
  go_wp2_with fail
  refine (of_any w.heap.size A n c k2 5 w1.heap.size 5 _ (H1.out.alloc _) (by omega) hn (by omega) (by omega) ?hL (by have := H1.out.lt; omega) (by simp)).mono ?_
  case hL => exact list_ok w1 _ _ 5 rfl rfl
  rintro e w2 ⟨t, rfl, ht, k3, hk3, hc2, hg2⟩
  have G2 := Lib.hid ((only_alloc G1.out _).trans hg2)
  clear hc2 hg2
  go_wp2_with fail
  go_ret2
  exact ⟨s, t, rfl, hs, ht, ⟨G2.out.os, G2.out.tape, G2.out.output, G2.out.size, fun j hj => G2.out.block j hj (fun e => by injection e; omega)⟩⟩

set_option maxHeartbeats 1000000 in
theorem drawLess_any (A : Option Addr) (n c : Nat) (w : World) (h : Code w w.heap.size A n) (hn : n ≤ 65536) :
    Calls Try.prog 14 #[.slice A n c] w (Two4000 w) := by
  have H0 := Lib.hid (Cur.new (c := c) h)
  clear h
  go_enter Try.func14, Try.ntmps14
  go_wp2_with fail
  refine (any1_any w.heap.size A n c 0 _ H0.out (by omega) hn).mono ?_
  rintro e w1 ⟨s, rfl, hs, k2, hk2, hc1, hg1⟩
  have H1 := Lib.hid hc1
  have G1 := Lib.hid ((only_alloc (World.grownBy.refl w (some w.heap.size)) _).trans hg1)
  clear hc1 hg1
  go_wp2_with fail
  refine (any1_any w.heap.size A n c k2 _ H1.out (by omega) hn).mono ?_
  rintro e w2 ⟨t, rfl, ht, k3, hk3, hc2, hg2⟩
  have G2 := Lib.hid (G1.out.trans hg2)
  clear hc2 hg2
  go_wp2_with fail
  go_ret2
  exact ⟨s, t, rfl, hs, ht, ⟨G2.out.os, G2.out.tape, G2.out.output, G2.out.size, fun j hj => G2.out.block j hj (fun e => by injection e; omega)⟩⟩

/-- m zero bytes, as cells and as a text. -/
def zeroRow (m : Nat) : Array Value := (List.replicate m (Value.int .u8 0)).toArray
def zeroText (m : Nat) : ByteArray := ⟨(List.replicate m (0 : UInt8)).toArray⟩
theorem zeroText_size (m : Nat) : (zeroText m).size = m := by simp [zeroText, ByteArray.size]
theorem infoByte : (Try.prog.info? 5).map (fun i => (i.zero, i.size, i.bytes)) = some (some (.int .u8 0), 1, 1) := by kernel_rfl
theorem makeZero (m : Nat) (h : m ≤ 1048576) (w : World) :
    (Instr.makeSlice 22 (.int .i64 (m : Int)) (.int .i64 (m : Int))).run Try.prog w = .ok (.slice (some ⟨w.heap.size, 0, none⟩) m m) (w.alloc (.cells (zeroRow m) 5)) := by
  obtain ⟨i, hi, hz, hs, hb⟩ := info_parts infoByte
  have h1 := run_make (P := Try.prog) w 22 5 i _ Try.underlying22 hi hz .i64 .i64 (m : Int) (m : Int) (by omega) (by omega) (by rw [hb]; omega) (by omega)
  rw [h1]
  have e : madeCells (Value.int .u8 0).cells ((m : Int).toNat * i.size) = zeroRow m := by
    rw [hs, Int.toNat_natCast, Nat.mul_one]
    apply Array.ext'
    rw [show (Value.int .u8 0).cells = #[Value.int .u8 0] from rfl, toList_madeCells_one]
    rfl
  rw [e, Int.toNat_natCast]
theorem zeroConv (m : Nat) (w : World) :
    (convert 22 9 (.slice (some ⟨w.heap.size, 0, none⟩) m m)).run Try.prog (w.alloc (.cells (zeroRow m) 5)) = .ok (.string (zeroText m)) (w.alloc (.cells (zeroRow m) 5)) := by
  have h := run_convert_bytes_back (P := Try.prog) (w.alloc (.cells (zeroRow m) 5)) 22 9 5 ⟨w.heap.size, 0, none⟩ m (List.replicate m (0 : UInt8)) Try.underlying22 Try.underlying5 Try.underlying9 (fun j hj => by
    have hj' : j < m := by simpa using hj
    have e : (⟨w.heap.size, 0, none⟩ : Addr).add j = ⟨w.heap.size, j, none⟩ := by
      unfold Addr.add
      by_cases h0 : j = 0
      · subst h0; rfl
      · simp [h0]
    rw [e, World.cell?_alloc_at _ _ _ _ rfl]
    simp [zeroRow, hj'])
  rw [List.length_replicate] at h
  exact h
theorem own_strs {w : World} {B n : Nat} {v : Value} {ss : List ByteArray} (h : w.ownsRow B 9 1 v n (ss.map Value.string)) (hn : n = ss.length) : ∃ A c, v = .slice A ss.length c ∧ Strs w A ss ∧ ss.length ≤ c := by
  subst hn
  rcases h.2 with ⟨rfl, h0⟩ | ⟨g, cap, cur, rfl, hg, hh, hn, hm, hsz, htk⟩
  · obtain rfl : ss = [] := List.eq_nil_of_length_eq_zero h0
    exact ⟨none, 0, rfl, Strs.nil, Nat.le_refl _⟩
  · refine ⟨_, cap, rfl, fun _ => ⟨g, 0, rfl, ?_, fun j x hx => ?_⟩, hn⟩
    · rcases Nat.lt_or_ge g w.heap.size with hl | hl
      · exact hl
      · rw [Array.getElem?_eq_none hl] at hh; cases hh
    · have h1 : (ss.map Value.string)[j]? = some (.string x) := by simp [hx]
      rw [← htk, List.getElem?_take] at h1
      split at h1
      · rw [Nat.zero_add, cell_of_row w g j cur _ _ hh]; simpa using h1
      · cases h1
theorem letters_le {ss : List ByteArray} (h : ∀ x ∈ ss, x.size ≤ 4009) : letters ss ≤ 4009 * ss.length := by
  induction ss with
  | nil => simp [letters]
  | cons x r ih =>
    have h1 := h x (List.mem_cons_self ..)
    have h2 := ih (fun y hy => h y (List.mem_cons_of_mem _ hy))
    simp only [letters, List.map_cons, List.sum_cons, List.length_cons] at h2 ⊢
    omega
theorem infoStr2 : (Try.prog.info? 9).map (fun i => (i.zero, i.size, i.bytes)) = some (some (.string ⟨#[]⟩), 1, 16) := by kernel_rfl

/-- What DrawJoinStrings hands out. -/
def JoinDrew (w : World) (e : Ending) (w' : World) : Prop :=
  ∃ A c ss, ∃ t : ByteArray, e = .returned (.tuple #[.slice A (ss : List ByteArray).length c, .string t]) ∧ Strs w' A ss ∧ ss.length ≤ c ∧ ss.length ≤ 5 ∧ letters ss ≤ 30000 ∧ t.size ≤ 4000 ∧ Below w.heap.size w w'
theorem all_snoc {ss : List ByteArray} {x : ByteArray} (h : ∀ y ∈ ss, y.size ≤ 4009) (hx : x.size ≤ 4009) : ∀ y ∈ ss ++ [x], y.size ≤ 4009 := fun y hy => by
  rcases List.mem_append.1 hy with h1 | h1
  · exact h y h1
  · rw [List.mem_singleton.1 h1]; exact hx
theorem own_snoc2 {w : World} {B n : Nat} {v : Value} {ss : List ByteArray} {x : ByteArray} (h : w.ownsRow B 9 1 v (n + 1) (ss.map Value.string ++ [Value.string x])) (hn : n = ss.length) :
    w.ownsRow B 9 1 v (ss ++ [x]).length ((ss ++ [x]).map Value.string) := by
  subst hn
  simpa using h
theorem below_of_only {w w' : World} {b : Nat} (h : w.grownBy w' (some b)) (hb : w.heap.size ≤ b) : Below w.heap.size w w' :=
  ⟨h.os, h.tape, h.output, h.size, fun j hj => h.block j hj (fun e => by injection e; omega)⟩
theorem own_ne {w : World} {B b n : Nat} {v : Value} {xs : List Value} (h : w.ownsRow B 9 1 v n xs) (hb : b < B) : v.ownBlock = none ∨ v.ownBlock ≠ some b := by
  rcases hv : v.ownBlock with _ | g
  · exact .inl rfl
  · exact .inr (fun e => by injection e with e; have := (h.lt g hv).1; omega)

set_option maxHeartbeats 4000000 in
theorem drawJoin_any (A : Option Addr) (n c : Nat) (w : World) (h : Code w w.heap.size A n) (hn : n ≤ 65536) :
    Calls Try.prog 11 #[.slice A n c] w (JoinDrew w) := by
  obtain ⟨i0, hi, hz0, hz1, hz2⟩ := info_parts infoStr2
  have H0 := Lib.hid (Cur.new (c := c) h)
  clear h
  go_enter Try.func11, Try.ntmps11
  go_wp2_with fail
  have O0 : (((w.alloc (.cells #[.slice A n c, .int .i64 0, .int .u64 0] 44)).alloc (.cells #[] 9))).ownsRow (w.heap.size + 1) 9 1 (.slice (some ⟨w.heap.size + 1, 0, none⟩) 0 0) 0 [] := by
    have := World.ownsRow_lit (w.alloc (.cells #[.slice A n c, .int .i64 0, .int .u64 0] 44)) (e := 9) (size := 1) (base := w.heap.size + 1) #[] 0 (by simp) (by unfold maxLen; omega) rfl
    rwa [World.size_alloc] at this
  refine (pick_any w.heap.size A n c 0 4 _ (H0.out.alloc _) (by omega) hn (by omega) (by omega)).mono ?_
  rintro e w1 ⟨m, k1, hm, rfl, hk1, hc1, hg1⟩
  have O1 := Lib.hid (O0.kept hg1 (own_ne O0 (by omega)))
  have C1 := Lib.hid hc1
  have B1 := Lib.hid (below_of_only ((only_alloc (only_alloc (World.grownBy.refl w (some w.heap.size)) _) _).trans hg1) (Nat.le_refl _))
  clear O0 hc1 hg1 H0
  go_wp2_with fail
  go_loopw [5, 7] (fun out i wr => ∃ (k q : Nat) (ss : List ByteArray), k ≤ m ∧ q ≤ 2 + 2 * k ∧ ss.length = k ∧ i = .int .i64 k ∧ Hid (∀ y ∈ ss, y.size ≤ 4009) ∧ Hid (Cur wr w.heap.size A n c q) ∧ Hid (wr.ownsRow (w.heap.size + 1) 9 1 out ss.length (ss.map Value.string)) ∧ Hid (Below w.heap.size w wr)) (fun _ i _ => m - (intOf i).toNat)
  case atStart => exact ⟨0, k1, [], Nat.zero_le _, by omega, rfl, rfl, fun y hy => by simp at hy, C1.out, O1.out, B1.out⟩
  case round =>
    obtain ⟨k, q, ss, hk, hq, hl, rfl, HS, HC, HO, HB⟩ := hrel
    have hsN := HC.out.lt
    by_cases hlt : k < m
    · have hki : (k : Int) < (m : Int) := by omega
      go_wp2_with fail
      refine (any1_any w.heap.size A n c q _ HC.out (by omega) hn).mono ?_
      rintro e w2 ⟨s, rfl, hs, k2, hk2, hc2, hg2⟩
      have hown := HO.out.kept hg2 (own_ne HO.out (by omega))
      have hsz : w.heap.size + 1 ≤ w2.heap.size := by have := hc2.lt; omega
      have C2 := Lib.hid hc2
      have B2 := Lib.hid (show Below w.heap.size w w2 from ⟨hg2.os.trans HB.out.os, hg2.tape.trans HB.out.tape, hg2.output.trans HB.out.output, Nat.le_trans HB.out.size hg2.size, fun j hj => (hg2.block j (by omega) (fun e => by injection e; omega)).trans (HB.out.block j hj)⟩)
      clear hc2 hg2 HC HB HO
      go_wp2_with (at_builtin; refine wpList_append_own _ rfl _ _ 26 rfl (w.heap.size + 1) 9 i0 (.string ⟨#[]⟩) 1 16 Try.underlying26 hi hz0 hz1 hz2 rfl (by decide) _ _ _ rfl (hown.alloc _) ⟨w2.heap.size, 0, none⟩ 1 1 [.string s] rfl rfl (cell_one_new _ _ _) (by simp [Value.oneCell']) (by unfold maxLen; omega) (by omega) (by have := hsz; simp; omega) ?_; intro v' w4 hown' hgrow _)
      have HO3 := Lib.hid (own_snoc2 hown' rfl)
      have HC3 := Lib.hid ((C2.out.alloc _).grown hgrow (fun g hg => by have := (hown.lt g hg).1; omega))
      have HB3 := Lib.hid ((B2.out.alloc (by omega) _).grown hgrow (by simp; omega) (fun g hg => by have := (hown.lt g hg).1; omega))
      have HS3 := Lib.hid (all_snoc HS.out (x := s) (by omega))
      clear hown' hgrow hown C2 B2
      go_wp2
      go_roundw
      case rel => exact ⟨k + 1, k2, ss ++ [s], by omega, by omega, by simp; omega, by go_num, HS3, HC3, HO3, HB3⟩
      case measure => simp [intOf]; omega
    · go_wp2_with fail
      refine (one_any w.heap.size A n c q 20 _ HC.out (by omega) hn (by omega) (by omega)).mono ?_
      rintro e w2 ⟨x, rfl, k2, hk2, hc2, hg2⟩
      have hown := HO.out.kept hg2 (own_ne HO.out (by omega))
      have hsz : w.heap.size + 1 ≤ w2.heap.size := by have := hc2.lt; omega
      have B2 := Lib.hid (show Below w.heap.size w w2 from ⟨hg2.os.trans HB.out.os, hg2.tape.trans HB.out.tape, hg2.output.trans HB.out.output, Nat.le_trans HB.out.size hg2.size, fun j hj => (hg2.block j (by omega) (fun e => by injection e; omega)).trans (HB.out.block j hj)⟩)
      have C2 := Lib.hid hc2
      have O2 := Lib.hid hown
      clear hc2 hg2 HC HB HO hown
      cases x with
      | true =>
        go_wp2_with fail
        refine (pick_any w.heap.size A n c k2 20 w2 C2.out (by omega) hn (by omega) (by omega)).mono ?_
        rintro e w3 ⟨v, k3, hv, rfl, hk3, hc3, hg3⟩
        have hown := O2.out.kept hg3 (own_ne O2.out (by omega))
        have hsz3 : w.heap.size + 1 ≤ w3.heap.size := by have := hc3.lt; omega
        have B3 := Lib.hid (show Below w.heap.size w w3 from ⟨hg3.os.trans B2.out.os, hg3.tape.trans B2.out.tape, hg3.output.trans B2.out.output, Nat.le_trans B2.out.size hg3.size, fun j hj => (hg3.block j (by omega) (fun e => by injection e; omega)).trans (B2.out.block j hj)⟩)
        have C3 := Lib.hid hc3
        have hmk : ∀ W : World, (Instr.makeSlice 22 (.int .i64 (3990 + (v : Int))) (.int .i64 (3990 + (v : Int)))).run Try.prog W = .ok (.slice (some ⟨W.heap.size, 0, none⟩) (3990 + v) (3990 + v)) (W.alloc (.cells (zeroRow (3990 + v)) 5)) := fun W => by
          have h := makeZero (3990 + v) (by omega) W
          rwa [show ((3990 + v : Nat) : Int) = 3990 + (v : Int) from by omega] at h
        have hcv : ∀ W : World, (convert 22 9 (.slice (some ⟨W.heap.size, 0, none⟩) (3990 + v) (3990 + v))).run Try.prog (W.alloc (.cells (zeroRow (3990 + v)) 5)) = .ok (.string (zeroText (3990 + v))) (W.alloc (.cells (zeroRow (3990 + v)) 5)) := fun W => zeroConv (3990 + v) W
        have hz := zeroText_size (3990 + v)
        have HS3 := Lib.hid (all_snoc HS.out (x := zeroText (3990 + v)) (by omega))
        have HN := Lib.hid (cell_one_new (w3.alloc (.cells (zeroRow (3990 + v)) 5)) (.string (zeroText (3990 + v))) 9)
        rw [World.size_alloc] at HN
        clear hc3 hg3 C2 B2 O2 hz
        go_wp2_with (at_builtin; refine wpList_append_own _ rfl _ _ 26 rfl (w.heap.size + 1) 9 i0 (.string ⟨#[]⟩) 1 16 Try.underlying26 hi hz0 hz1 hz2 rfl (by decide) _ _ _ rfl ((hown.alloc _).alloc _) ⟨w3.heap.size + 1, 0, none⟩ 1 1 [.string (zeroText (3990 + v))] rfl rfl HN.out (by simp [Value.oneCell']) (by unfold maxLen; omega) (by omega) (by have := hsz3; simp; omega) ?_; intro v' w4 hown' hgrow _)
        have O4 := Lib.hid (own_snoc2 hown' rfl)
        have C4 := Lib.hid (((C3.out.alloc _).alloc _).grown hgrow (fun g hg => by have := (hown.lt g hg).1; omega))
        have B4 := Lib.hid (((B3.out.alloc (by omega) _).alloc (by simp; omega) _).grown hgrow (by simp; omega) (fun g hg => by have := (hown.lt g hg).1; omega))
        have hsz4 := C4.out.lt
        clear hown' hgrow hown C3 B3 HN hmk hcv
        refine (of_any w.heap.size A n c k3 5 w4.heap.size 5 _ (C4.out.alloc _) (by omega) hn (by omega) (by omega) ?hL (by omega) (by simp)).mono ?_
        case hL => exact list_ok w4 _ _ 5 rfl rfl
        rintro e w5 ⟨t, rfl, ht, k5, hk5, hc5, hg5⟩
        have hw4 : w.heap.size ≤ w4.heap.size := by omega
        obtain ⟨A3, c3, rfl, hs3, hc3'⟩ := own_strs ((O4.out.alloc _).kept hg5 (own_ne O4.out (by omega))) rfl
        have B5 := Lib.hid (show Below w.heap.size w w5 from ⟨hg5.os.trans B4.out.os, hg5.tape.trans B4.out.tape, hg5.output.trans B4.out.output, Nat.le_trans B4.out.size (Nat.le_trans (by simp) hg5.size), fun j hj => (hg5.block j (by simp; omega) (fun e => by injection e; omega)).trans ((Below.heap_alloc w4 _ j (by omega)).trans (B4.out.block j hj))⟩)
        have S5 := Lib.hid hs3
        have hl1 : (ss ++ [zeroText (3990 + v)]).length = k + 1 := by simp; omega
        clear hs3 hc5 hg5 C4 B4 O4
        go_wp2_with fail
        go_ret2
        exact ⟨A3, c3, ss ++ [zeroText (3990 + v)], t, by rw [hl1]; rfl, S5.out, hc3', by omega, Nat.le_trans (letters_le HS3.out) (by omega), ht, B5.out⟩
      | false =>
        go_wp2_with fail
        refine (of_any w.heap.size A n c k2 5 w2.heap.size 5 _ (C2.out.alloc _) (by omega) hn (by omega) (by omega) ?hL (by omega) (by simp)).mono ?_
        case hL => exact list_ok w2 _ _ 5 rfl rfl
        rintro e w3 ⟨t, rfl, ht, k3, hk3, hc3, hg3⟩
        obtain ⟨A3, c3, rfl, hs3, hc3'⟩ := own_strs ((O2.out.alloc _).kept hg3 (own_ne O2.out (by omega))) rfl
        have B3 := Lib.hid (show Below w.heap.size w w3 from ⟨hg3.os.trans B2.out.os, hg3.tape.trans B2.out.tape, hg3.output.trans B2.out.output, Nat.le_trans B2.out.size (Nat.le_trans (by simp) hg3.size), fun j hj => (hg3.block j (by simp; omega) (fun e => by injection e; omega)).trans ((Below.heap_alloc w2 _ j (by omega)).trans (B2.out.block j hj))⟩)
        have S3 := Lib.hid hs3
        clear hs3 hc3 hg3 C2 B2 O2
        go_wp2_with fail
        go_ret2
        exact ⟨A3, c3, ss, t, by rw [hl]; rfl, S3.out, hc3', by omega, Nat.le_trans (letters_le HS.out) (by omega), ht, B3.out⟩
end Go.Proofs.Ytdbhmlnojbmepaa
