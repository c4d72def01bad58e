/- The draws of the law on numerals and checksums. -/
import Derived.Test.YtdbhmlnojbmepaaDoorCur
import Derived.Test.YtdbhmlnojbmepaaDoorNum
import Derived.Test.YtdbhmlnojbmepaaDoorLaid
import Derived.RangeFuncBox
import Derived.Laws.IdiomStrings
namespace Go.Proofs.YtdbhmlnojbmepaaDoor
open Go.RowKit
set_option linter.unusedVariables false

/-- m zero bytes, as cells and as a text. -/
def zeroRow (m : Nat) : Array Value := (List.replicate m (Value.int .u8 0)).toArray
def zeroText (m : Nat) : ByteArray := ⟨(List.replicate m (0 : UInt8)).toArray⟩
theorem zeroText_size (m : Nat) : (zeroText m).size = m := by simp [zeroText, ByteArray.size]
theorem infoByte : (Tryd.prog.info? 5).map (fun i => (i.zero, i.size, i.bytes)) = some (some (.int .u8 0), 1, 1) := by kernel_rfl
theorem makeZero (m : Nat) (h : m ≤ 1048576) (w : World) :
    (Instr.makeSlice 22 (.int .i64 (m : Int)) (.int .i64 (m : Int))).run Tryd.prog w = .ok (.slice (some ⟨w.heap.size, 0, none⟩) m m) (w.alloc (.cells (zeroRow m) 5)) := by
  obtain ⟨i, hi, hz, hs, hb⟩ := info_parts infoByte
  have h1 := run_make (P := Tryd.prog) w 22 5 i _ Tryd.underlying22 hi hz .i64 .i64 (m : Int) (m : Int) (by omega) (by omega) (by rw [hb]; omega) (by omega)
  rw [h1]
  have e : madeCells (Value.int .u8 0).cells ((m : Int).toNat * i.size) = zeroRow m := by
    rw [hs, Int.toNat_natCast, Nat.mul_one]
    apply Array.ext'
    rw [show (Value.int .u8 0).cells = #[Value.int .u8 0] from rfl, toList_madeCells_one]
    rfl
  rw [e, Int.toNat_natCast]
theorem zeroConv (m : Nat) (w : World) :
    (convert 22 9 (.slice (some ⟨w.heap.size, 0, none⟩) m m)).run Tryd.prog (w.alloc (.cells (zeroRow m) 5)) = .ok (.string (zeroText m)) (w.alloc (.cells (zeroRow m) 5)) := by
  have h := run_convert_bytes_back (P := Tryd.prog) (w.alloc (.cells (zeroRow m) 5)) 22 9 5 ⟨w.heap.size, 0, none⟩ m (List.replicate m (0 : UInt8)) Tryd.underlying22 Tryd.underlying5 Tryd.underlying9 (fun j hj => by
    have hj' : j < m := by simpa using hj
    have e : (⟨w.heap.size, 0, none⟩ : Addr).add j = ⟨w.heap.size, j, none⟩ := by
      unfold Addr.add
      by_cases h0 : j = 0
      · subst h0; rfl
      · simp [h0]
    rw [e, World.cell?_alloc_at _ _ _ _ rfl]
    simp [zeroRow, hj'])
  rw [List.length_replicate] at h
  exact h

/-- A number that is drawn. -/
def intOk (v : Value) : Bool := match v with | .int .i64 x => decide (-1000000 ≤ x ∧ x ≤ 1000000) | _ => false
theorem intOk_some {v : Value} (h : intOk v = true) : ∃ x : Int, -1000000 ≤ x ∧ x ≤ 1000000 ∧ v = .int .i64 x := by
  unfold intOk at h
  split at h
  · exact ⟨_, (of_decide_eq_true h).1, (of_decide_eq_true h).2, rfl⟩
  · cases h
theorem list_okI (w : World) (cs : Array Value) (t : TypeId) (m : Nat) (hm : cs.size = m) (h : cs.toList.all intOk = true) : ∀ j, j < m → ∃ x : Int, -1000000 ≤ x ∧ x ≤ 1000000 ∧ (w.alloc (.cells cs t)).cell? ⟨w.heap.size, j, none⟩ = some (.int .i64 x) := fun j hj => by
  subst hm
  rw [World.cell?_alloc_at _ _ _ _ rfl, Array.getElem?_eq_getElem hj]
  obtain ⟨x, h1, h2, e⟩ := intOk_some (List.all_eq_true.1 h cs[j] (by simp))
  exact ⟨x, h1, h2, by rw [e]⟩
def DrewInt (w : World) (b : Nat) (A : Option Addr) (n c k : Nat) (e : Ending) (w' : World) : Prop := ∃ x : Int, e = .returned (.int .i64 x) ∧ -1000000 ≤ x ∧ x ≤ 1000000 ∧ Drew w b A n c k w'

set_option maxHeartbeats 1000000 in
theorem among_any (b : Nat) (A : Option Addr) (n c k : Nat) (m g c2 : Nat) (w : World) (h : Cur w b A n c k) (hk : k ≤ 999998) (hn : n ≤ 65536) (h1 : 1 ≤ m) (hm : m ≤ 1000000)
    (hL : ∀ j, j < m → ∃ x : Int, -1000000 ≤ x ∧ x ≤ 1000000 ∧ w.cell? ⟨g, j, none⟩ = some (.int .i64 x)) (hgb : g ≠ b) (hgl : g < w.heap.size) :
    Calls Tryd.prog 21 #[.pointer (some ⟨b, 0, none⟩), .slice (some ⟨g, 0, none⟩) m c2] w (DrewInt w b A n c k) := by
  have HC := Lib.hid h
  have HL := Lib.hid hL
  have HG := Lib.hid hgb
  clear h hL hgb
  go_enter Tryd.func21, Tryd.ntmps21
  go_wp2_with fail
  refine (pick_any b A n c k m w HC.out hk hn h1 hm).mono ?_
  rintro e w1 ⟨v, k2, hv, rfl, hk2, hc1, hg1⟩
  obtain ⟨x, hx1, hx2, hcell⟩ := HL.out v hv
  have hc : w1.cell? ⟨g, v, none⟩ = some (.int .i64 x) := (World.cell?_of_block (hg1.block g hgl (fun e => HG.out (by injection e)))).trans hcell
  have hvi : (v : Int) < (m : Int) := by omega
  have H1 := Lib.hid (show Drew w b A n c k w1 from ⟨k2, hk2, hc1, hg1⟩)
  clear hc1 hg1 hcell
  go_wp2_with fail
  refine bodyPost_ret (results_tmp rfl _ _ _) rfl ⟨x, rfl, hx1, hx2, H1.out⟩

theorem grown_below {w w' : World} {b : Nat} (h : w.grownBy w' (some b)) (hb : w.heap.size ≤ b) : Below w.heap.size w w' :=
  ⟨h.os, h.tape, h.output, h.size, fun j hj => h.block j hj (fun e => by injection e; omega)⟩
def SomeInt (w : World) (e : Ending) (w' : World) : Prop := ∃ x : Int, e = .returned (.int .i64 x) ∧ -1000000 ≤ x ∧ x ≤ 1000000 ∧ Below w.heap.size w w'
def SomeText (w : World) (e : Ending) (w' : World) : Prop := ∃ s : ByteArray, e = .returned (.string s) ∧ s.size ≤ 4000 ∧ Below w.heap.size w w'

set_option maxHeartbeats 1000000 in
theorem drawFormat_any (A : Option Addr) (n c : Nat) (w : World) (h : Code w w.heap.size A n) (hn : n ≤ 65536) :
    Calls Tryd.prog 9 #[.slice A n c] w (SomeInt w) := by
  have H0 := Lib.hid (Cur.new (c := c) h)
  clear h
  go_enter Tryd.func9, Tryd.ntmps9
  go_wp2_with fail
  refine (pick_any w.heap.size A n c 0 1000 _ H0.out (by omega) hn (by omega) (by omega)).mono ?_
  rintro e w1 ⟨v, k1, hv, rfl, hk1, hc1, hg1⟩
  have H1 := Lib.hid hc1
  have G1 := Lib.hid ((only_alloc (World.grownBy.refl w (some w.heap.size)) _).trans hg1)
  clear hc1 hg1
  go_wp2_with fail
  refine (among_any w.heap.size A n c k1 9 w1.heap.size 9 _ (H1.out.alloc _) (by omega) hn (by omega) (by omega) ?hL (by have := H1.out.lt; omega) (by simp)).mono ?_
  case hL => exact list_okI w1 _ _ 9 rfl (by simp [intOk]; omega)
  rintro e w2 ⟨x, rfl, hx1, hx2, k2, hk2, hc2, hg2⟩
  have B2 := Lib.hid (grown_below ((only_alloc G1.out _).trans hg2) (Nat.le_refl _))
  clear hc2 hg2
  go_wp2_with fail
  go_ret
  exact ⟨x, rfl, hx1, hx2, B2.out⟩

set_option maxHeartbeats 1000000 in
theorem drawParse_any (A : Option Addr) (n c : Nat) (w : World) (h : Code w w.heap.size A n) (hn : n ≤ 65536) :
    Calls Tryd.prog 12 #[.slice A n c] w (SomeText w) := by
  have H0 := Lib.hid (Cur.new (c := c) h)
  clear h
  go_enter Tryd.func12, Tryd.ntmps12
  go_wp2_with fail
  refine (one_any w.heap.size A n c 0 2 _ H0.out (by omega) hn (by omega) (by omega)).mono ?_
  rintro e w1 ⟨x, rfl, k1, hk1, hc1, hg1⟩
  have H1 := Lib.hid hc1
  have G1 := Lib.hid ((only_alloc (World.grownBy.refl w (some w.heap.size)) _).trans hg1)
  clear hc1 hg1
  cases x with
  | true =>
    go_wp2_with fail
    refine (of_any w.heap.size A n c k1 11 w1.heap.size 11 _ (H1.out.alloc _) (by omega) hn (by omega) (by omega) ?hL (by have := H1.out.lt; omega) (by simp)).mono ?_
    case hL => exact list_ok w1 _ _ 11 rfl rfl
    rintro e w2 ⟨s, rfl, hs, k2, hk2, hc2, hg2⟩
    have B2 := Lib.hid (grown_below ((only_alloc G1.out _).trans hg2) (Nat.le_refl _))
    clear hc2 hg2
    go_wp2_with fail
    go_ret
    exact ⟨s, rfl, hs, B2.out⟩
  | false =>
    go_wp2_with fail
    refine (pick_any w.heap.size A n c k1 2000 w1 H1.out (by omega) hn (by omega) (by omega)).mono ?_
    rintro e w2 ⟨v, k2, hv, rfl, hk2, hc2, hg2⟩
    have B2 := Lib.hid (grown_below (G1.out.trans hg2) (Nat.le_refl _))
    clear hc2 hg2
    have hlen := itoa_len8 (n := (v : Int) - 1000) (by omega) (by omega)
    go_wp2_with fail
    refine (l1Num_any ((v : Int) - 1000).natAbs ((v : Int) - 1000) w2 (Nat.le_refl _) (by omega) (by omega)).mono ?_
    rintro e w3 ⟨rfl, q, rfl⟩
    go_wp2_with fail
    go_ret
    exact ⟨_, rfl, by rw [mk_size]; omega, below_drewN B2.out q⟩

set_option maxHeartbeats 1000000 in
theorem drawAppend_any (A : Option Addr) (n c : Nat) (w : World) (h : Code w w.heap.size A n) (hn : n ≤ 65536) :
    Calls Tryd.prog 15 #[.slice A n c] w (SomeText w) := by
  have H0 := Lib.hid (Cur.new (c := c) h)
  clear h
  go_enter Tryd.func15, Tryd.ntmps15
  go_wp2_with fail
  refine (one_any w.heap.size A n c 0 20 _ H0.out (by omega) hn (by omega) (by omega)).mono ?_
  rintro e w1 ⟨x, rfl, k1, hk1, hc1, hg1⟩
  have H1 := Lib.hid hc1
  have G1 := Lib.hid ((only_alloc (World.grownBy.refl w (some w.heap.size)) _).trans hg1)
  clear hc1 hg1
  cases x with
  | true =>
    go_wp2_with fail
    refine (pick_any w.heap.size A n c k1 10 w1 H1.out (by omega) hn (by omega) (by omega)).mono ?_
    rintro e w2 ⟨v, k2, hv, rfl, hk2, hc2, hg2⟩
    have B2 := Lib.hid (grown_below (only_alloc (G1.out.trans hg2) (.cells (zeroRow (3990 + v)) 5)) (Nat.le_refl _))
    have hmk : ∀ W : World, (Instr.makeSlice 22 (.int .i64 (3990 + (v : Int))) (.int .i64 (3990 + (v : Int)))).run Tryd.prog W = .ok (.slice (some ⟨W.heap.size, 0, none⟩) (3990 + v) (3990 + v)) (W.alloc (.cells (zeroRow (3990 + v)) 5)) := fun W => by
      have h := makeZero (3990 + v) (by omega) W
      rwa [show ((3990 + v : Nat) : Int) = 3990 + (v : Int) from by omega] at h
    have hcv : ∀ W : World, (convert 22 9 (.slice (some ⟨W.heap.size, 0, none⟩) (3990 + v) (3990 + v))).run Tryd.prog (W.alloc (.cells (zeroRow (3990 + v)) 5)) = .ok (.string (zeroText (3990 + v))) (W.alloc (.cells (zeroRow (3990 + v)) 5)) := fun W => zeroConv (3990 + v) W
    have hz := Lib.hid (zeroText_size (3990 + v))
    clear hc2 hg2
    go_wp2_with fail
    go_ret
    exact ⟨_, rfl, by rw [hz.out]; omega, B2.out⟩
  | false =>
    go_wp2_with fail
    refine (any1_any w.heap.size A n c k1 w1 H1.out (by omega) hn).mono ?_
    rintro e w2 ⟨s, rfl, hs, k2, hk2, hc2, hg2⟩
    have B2 := Lib.hid (grown_below (G1.out.trans hg2) (Nat.le_refl _))
    clear hc2 hg2
    go_wp2_with fail
    go_ret
    exact ⟨s, rfl, hs, B2.out⟩

/-- A byte of the code, or what stands for it. -/
theorem vAt_any (A : Option Addr) (n c i : Nat) (B : Nat) (w : World) (h : Code w B A n) (hn : n ≤ 65536) (hi : i ≤ 1000) :
    ∃ v : Nat, v ≤ 255 ∧ Calls Tryd.prog 19 #[.slice A n c, .int .i64 (i : Int)] w fun e w' => e = .returned (.int .i64 (v : Int)) ∧ w = w' := by
  by_cases hlt : i < n
  · obtain ⟨b, o, rfl, hb, hc⟩ := h (by omega)
    obtain ⟨z, hz⟩ := hc i hlt
    have hz1 := z.toNat_lt
    have hii : (i : Int) < (n : Int) := by omega
    refine ⟨z.toNat, by omega, ?_⟩
    clear h hc
    go_enter Tryd.func19, Tryd.ntmps19
    go_wp2_with fail
    go_ret
    exact ⟨rfl, rfl⟩
  · refine ⟨(i * 7 + n) % 256, by omega, ?_⟩
    clear h
    have hii : ¬ (i : Int) < (n : Int) := by omega
    go_enter Tryd.func19, Tryd.ntmps19
    go_wp2_with fail
    go_ret
    exact ⟨rfl, rfl⟩
end Go.Proofs.YtdbhmlnojbmepaaDoor
