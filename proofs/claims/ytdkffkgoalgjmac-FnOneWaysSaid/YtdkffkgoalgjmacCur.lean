/- The cursor by which the model draws its inputs: every draw is some value of its kind, and only the cursor's own block is written. -/
import Derived.Test.YtdkffkgoalgjmacProg
import Derived.WalkKit
import Derived.WalkLawsBesides
import Derived.WalkSpells
import Derived.LoopTactic
import Derived.Below
import Derived.Lib.Hide
import Derived.Deep.QuietTactic
import Derived.BigQuiet
import Derived.Deep.Draws
import Derived.Laws.Rows
import Derived.Laws.AppendOwn
import Derived.Outline
import Derived.ProofKit
import Derived.OpenShut
namespace Go.Proofs.Ytdkffkgoalgjmac
open Go.RowKit Go.ChangeShapes Go.WideShapes
set_option linter.unusedVariables false

/-- The n bytes at A lie below block B. -/
def Code (w : World) (B : Nat) (A : Option Addr) (n : Nat) : Prop :=
  0 < n → ∃ b o, A = some ⟨b, o, none⟩ ∧ b < B ∧ ∀ j, j < n → ∃ z : UInt8, w.cell? ⟨b, o + j, none⟩ = some (.int .u8 (z.toNat : Int))
theorem Code.kept {w w' : World} {B g n : Nat} {A : Option Addr} (h : Code w B A n) (hg : w.grownBy w' (some g)) (hB : B ≤ g) (hs : B ≤ w.heap.size) : Code w' B A n := fun h0 => by
  obtain ⟨b, o, e, hb, hc⟩ := h h0
  refine ⟨b, o, e, hb, fun j hj => ?_⟩
  obtain ⟨z, hz⟩ := hc j hj
  exact ⟨z, (World.cell?_of_block (hg.block b (by omega) (fun e => by injection e; omega))).trans hz⟩
/-- The cursor in block b: it has read k choices. -/
def Cur (w : World) (b : Nat) (A : Option Addr) (n c k : Nat) : Prop :=
  ∃ seed : Int, w.heap[b]? = some (.cells #[.slice A n c, .int .i64 (k : Int), .int .u64 seed] 99 (0, 0)) ∧ Code w b A n
theorem row_cell {w : World} {b : Nat} {x y z : Value} {t : TypeId} (h : w.heap[b]? = some (.cells #[x, y, z] t (0, 0))) :
    w.cell? ⟨b, 0, none⟩ = some x ∧ w.cell? ⟨b, 1, none⟩ = some y ∧ w.cell? ⟨b, 2, none⟩ = some z := by
  refine ⟨?_, ?_, ?_⟩ <;> rw [cell_of_row w b _ _ _ _ h] <;> rfl
theorem row_free {w : World} {b : Nat} {cs : Array Value} {t : TypeId} (h : w.heap[b]? = some (.cells cs t (0, 0))) (i : Nat) : w.frozen? ⟨b, i, none⟩ = false := by
  simp [World.frozen?, h]
theorem row_lt {w : World} {b : Nat} {o : Obj} (h : w.heap[b]? = some o) : b < w.heap.size := by
  rcases Nat.lt_or_ge b w.heap.size with hl | hg
  · exact hl
  · rw [Array.getElem?_eq_none hg] at h; cases h

theorem row_set {w : World} {b : Nat} {cs : Array Value} {t : TypeId} (h : w.heap[b]? = some (.cells cs t (0, 0))) (i : Nat) (u : Value) : (w.setCell ⟨b, i, none⟩ u).heap[b]? = some (.cells (cs.setIfInBounds i u) t (0, 0)) := by
  simp [World.setCell, Array.getElem?_modify, h]
theorem only_set {w w' : World} {b : Nat} (h : w.grownBy w' (some b)) (i : Nat) (u : Value) : w.grownBy (w'.setCell ⟨b, i, none⟩ u) (some b) :=
  ⟨h.os, h.tape, h.output, by simpa [World.setCell] using h.size, fun j hj hne => (Below.heap_setCell w' ⟨b, i, none⟩ u j (by rintro rfl; exact hne rfl)).trans (h.block j hj hne)⟩
theorem only_drewN {w w' : World} {b : Option Nat} (h : w.grownBy w' b) (q : Nat) : w.grownBy (w'.drewN q) b := ⟨h.os, h.tape, h.output, h.size, h.block⟩
/-- One choice read: the cursor goes on, its seed turns. -/
theorem cur_step {w : World} {b n c k : Nat} {A : Option Addr} {seed : Int} (h : w.heap[b]? = some (.cells #[.slice A n c, .int .i64 (k : Int), .int .u64 seed] 99 (0, 0))) (hc : Code w b A n) (q q2 : Nat) (S : Int) :
    Cur ((((w.drewN q).setCell ⟨b, 1, none⟩ (.int .i64 ((k : Int) + 1))).setCell ⟨b, 2, none⟩ (.int .u64 S)).drewN q2) b A n c (k + 1) ∧
    w.grownBy ((((w.drewN q).setCell ⟨b, 1, none⟩ (.int .i64 ((k : Int) + 1))).setCell ⟨b, 2, none⟩ (.int .u64 S)).drewN q2) (some b) := by
  have hg : w.grownBy ((((w.drewN q).setCell ⟨b, 1, none⟩ (.int .i64 ((k : Int) + 1))).setCell ⟨b, 2, none⟩ (.int .u64 S)).drewN q2) (some b) :=
    only_drewN (only_set (only_set (only_drewN (World.grownBy.refl w _) q) 1 _) 2 _) q2
  have hr : (w.drewN q).heap[b]? = some (.cells #[.slice A n c, .int .i64 (k : Int), .int .u64 seed] 99 (0, 0)) := h
  have h2 := row_set (row_set hr 1 (.int .i64 ((k : Int) + 1))) 2 (.int .u64 S)
  exact ⟨⟨S, by simpa using h2, hc.kept hg (Nat.le_refl _) (Nat.le_of_lt (row_lt h))⟩, hg⟩
theorem bits_255 (x : Int) : ∃ v : Nat, v ≤ 255 ∧ bits .and .u64 x 255 = (v : Int) := by
  refine ⟨(BitVec.ofInt 64 x &&& BitVec.ofInt 64 255).toNat, ?_, ?_⟩
  · rw [BitVec.toNat_and]
    exact Nat.and_le_right
  · show IntKind.u64.wrap ((BitVec.ofInt 64 x &&& BitVec.ofInt 64 255).toNat : Int) = _
    have h : (BitVec.ofInt 64 x &&& BitVec.ofInt 64 255).toNat ≤ 255 := by rw [BitVec.toNat_and]; exact Nat.and_le_right
    generalize (BitVec.ofInt 64 x &&& BitVec.ofInt 64 255).toNat = v at h
    rw [IntKind.wrap_u64]
    omega

set_option maxHeartbeats 1000000 in
theorem next_any (b : Nat) (A : Option Addr) (n c k : Nat) (w : World) (h : Cur w b A n c k) (hk : k ≤ 1000000) (hn : n ≤ 65536) :
    Calls Try.prog 158 #[.pointer (some ⟨b, 0, none⟩)] w fun e w' => ∃ v : Nat, v ≤ 255 ∧ e = .returned (.int .i64 (v : Int)) ∧ Cur w' b A n c (k + 1) ∧ w.grownBy w' (some b) := by
  obtain ⟨seed, hrow, hcode⟩ := h
  obtain ⟨hc0, hc1, hc2⟩ := row_cell hrow
  have hf1 := row_free hrow 1
  have hf2 := row_free hrow 2
  have HR := Lib.hid hrow
  have HC := Lib.hid hcode
  clear hrow hcode
  by_cases hlt : k < n
  · obtain ⟨b0, o, rfl, hb0, hcell⟩ := HC.out (by omega)
    obtain ⟨z, hz⟩ := hcell k hlt
    have hki : (k : Int) < (n : Int) := by omega
    have hz1 : (z.toNat : Int) < 256 := by have := z.toNat_lt; omega
    clear hcell
    go_enter Try.func158, Try.ntmps158
    go_wp2
    go_quiet (fail)
    go_wp2
    go_quiet (fail)
    go_wp2
    generalize IntKind.u64.wrap (seed * 6364136223846793005) = s1
    generalize IntKind.u64.wrap (s1 + (z.toNat : Int)) = s2
    generalize IntKind.u64.wrap (s2 + 462197) = s3
    have hle : (k : Int) + 1 ≤ (n : Int) := by omega
    go_quiet (fail)
    go_wp2
    go_ret
    exact ⟨z.toNat, by omega, rfl, cur_step HR.out HC.out _ _ _⟩
  · have hki : ¬ (k : Int) < (n : Int) := by omega
    have hki2 : decide ((k : Int) < (n : Int)) = false := by simpa using hlt
    go_enter Try.func158, Try.ntmps158
    go_wp2
    go_quiet (fail)
    go_wp2
    go_quiet (fail)
    go_wp2
    generalize IntKind.u64.wrap (IntKind.u64.wrap (IntKind.u64.wrap (seed * 6364136223846793005)) + 462197) = S
    generalize S / 1099511627776 = x
    obtain ⟨v, hv, e⟩ := bits_255 x
    generalize bits .and .u64 x 255 = y at e ⊢
    subst e
    have hw := IntWalk.wrap64_in (v : Int) ⟨by omega, by omega⟩
    generalize wrap64 (v : Int) = y at hw ⊢
    subst hw
    go_ret
    exact ⟨v, hv, rfl, cur_step HR.out HC.out _ _ _⟩

set_option maxHeartbeats 1000000 in
theorem pick_any (b : Nat) (A : Option Addr) (n c k : Nat) (m : Nat) (w : World) (h : Cur w b A n c k) (hk : k ≤ 999998) (hn : n ≤ 65536) (h1 : 1 ≤ m) (hm : m ≤ 1000000) :
    Calls Try.prog 139 #[.pointer (some ⟨b, 0, none⟩), .int .i64 (m : Int)] w fun e w' => ∃ v k2 : Nat, v < m ∧ e = .returned (.int .i64 (v : Int)) ∧ k2 ≤ k + 2 ∧ Cur w' b A n c k2 ∧ w.grownBy w' (some b) := by
  by_cases hm1 : m = 1
  · subst hm1
    go_enter Try.func139, Try.ntmps139
    go_wp2_with fail
    refine bodyPost_ret (results_tmp rfl _ _ _) rfl ⟨0, k, by omega, rfl, by omega, h, World.grownBy.refl w _⟩
  · have HC := Lib.hid h
    clear h
    have hmi : ¬ (m : Int) ≤ 1 := by omega
    by_cases h2 : 200 < m
    · have hm2 : (200 : Int) < (m : Int) := by omega
      go_enter Try.func139, Try.ntmps139
      go_wp2_with fail
      refine (next_any b A n c k w HC.out (by omega) hn).mono ?_
      rintro e w1 ⟨v, hv, rfl, hc1, hg1⟩
      have H1 := Lib.hid hc1
      have G1 := Lib.hid hg1
      clear hc1 hg1
      go_wp2_with fail
      refine (next_any b A n c (k + 1) w1 H1.out (by omega) hn).mono ?_
      rintro e w2 ⟨v2, hv2, rfl, hc2, hg2⟩
      have H2 := Lib.hid hc2
      have G2 := Lib.hid (G1.out.trans hg2)
      clear hc2 hg2
      go_wp2_with fail
      refine bodyPost_ret (results_tmp rfl _ _ _) rfl ⟨(v * 256 + v2) % m, k + 2, Nat.mod_lt _ (by omega), ?_, by omega, H2.out, G2.out⟩
      rfl
    · have hm2 : ¬ (200 : Int) < (m : Int) := by omega
      go_enter Try.func139, Try.ntmps139
      go_wp2_with fail
      refine (next_any b A n c k w HC.out (by omega) hn).mono ?_
      rintro e w1 ⟨v, hv, rfl, hc1, hg1⟩
      have H1 := Lib.hid hc1
      have G1 := Lib.hid hg1
      clear hc1 hg1
      go_wp2_with fail
      refine bodyPost_ret (results_tmp rfl _ _ _) rfl ⟨v % m, k + 1, Nat.mod_lt _ (by omega), ?_, by omega, H1.out, G1.out⟩
      rfl

theorem only_alloc {a w : World} {row : Option Nat} (h : a.grownBy w row) (o : Obj) : a.grownBy (w.alloc o) row :=
  ⟨h.os, h.tape, h.output, Nat.le_trans h.size (by simp), fun i hi hne => (Below.heap_alloc w o i (Nat.lt_of_lt_of_le hi h.size)).trans (h.block i hi hne)⟩
theorem Cur.alloc {w : World} {b n c k : Nat} {A : Option Addr} (h : Cur w b A n c k) (o : Obj) : Cur (w.alloc o) b A n c k := by
  obtain ⟨seed, hr, hc⟩ := h
  have hl := row_lt hr
  exact ⟨seed, (Below.heap_alloc w o b hl).trans hr, fun h0 => by
    obtain ⟨b0, o0, e, hb, hz⟩ := hc h0
    exact ⟨b0, o0, e, hb, fun j hj => by
      obtain ⟨z, hz⟩ := hz j hj
      exact ⟨z, (World.cell?_alloc_lt w o ⟨b0, o0 + j, none⟩ (by show b0 < _; omega)).trans hz⟩⟩⟩
theorem Cur.lt {w : World} {b n c k : Nat} {A : Option Addr} (h : Cur w b A n c k) : b < w.heap.size := by
  obtain ⟨seed, hr, hc⟩ := h
  exact row_lt hr
/-- A cursor that has just been made. -/
theorem Cur.new {w : World} {n c : Nat} {A : Option Addr} (h : Code w w.heap.size A n) : Cur (w.alloc (.cells #[.slice A n c, .int .i64 0, .int .u64 0] 99)) w.heap.size A n c 0 :=
  ⟨0, heap_alloc_new w _, fun h0 => by
    obtain ⟨b0, o0, e, hb, hz⟩ := h h0
    exact ⟨b0, o0, e, hb, fun j hj => by
      obtain ⟨z, hz⟩ := hz j hj
      exact ⟨z, (World.cell?_alloc_lt w _ ⟨b0, o0 + j, none⟩ (by show b0 < _; omega)).trans hz⟩⟩⟩

/-- What a draw leaves: the cursor, further on; nothing else of what was there is written. -/
def Drew (w : World) (b : Nat) (A : Option Addr) (n c k : Nat) (w' : World) : Prop := ∃ k2 : Nat, k2 ≤ k + 2 ∧ Cur w' b A n c k2 ∧ w.grownBy w' (some b)

theorem one_any (b : Nat) (A : Option Addr) (n c k : Nat) (m : Nat) (w : World) (h : Cur w b A n c k) (hk : k ≤ 999998) (hn : n ≤ 65536) (h1 : 1 ≤ m) (hm : m ≤ 1000000) :
    Calls Try.prog 87 #[.pointer (some ⟨b, 0, none⟩), .int .i64 (m : Int)] w fun e w' => ∃ x : Bool, e = .returned (.bool x) ∧ Drew w b A n c k w' := by
  have HC := Lib.hid h
  clear h
  go_enter Try.func87, Try.ntmps87
  go_wp2_with fail
  refine (pick_any b A n c k m w HC.out hk hn h1 hm).mono ?_
  rintro e w1 ⟨v, k2, hv, rfl, hk2, hc1, hg1⟩
  have H1 := Lib.hid (show Drew w b A n c k w1 from ⟨k2, hk2, hc1, hg1⟩)
  clear hc1 hg1
  go_wp2_with fail
  refine bodyPost_ret (results_tmp rfl _ _ _) rfl ⟨_, rfl, H1.out⟩

/-- A text that is drawn: short. -/
def strOk (v : Value) : Bool := match v with | .string s => decide (s.size ≤ 4000) | _ => false
theorem strOk_some {v : Value} (h : strOk v = true) : ∃ s : ByteArray, s.size ≤ 4000 ∧ v = .string s := by
  cases v <;> simp [strOk] at h
  exact ⟨_, h, rfl⟩
theorem list_ok (w : World) (cs : Array Value) (t : TypeId) (m : Nat) (hm : cs.size = m) (h : cs.toList.all strOk = true) : ∀ j, j < m → ∃ s : ByteArray, s.size ≤ 4000 ∧ (w.alloc (.cells cs t)).cell? ⟨w.heap.size, j, none⟩ = some (.string s) := fun j hj => by
  subst hm
  rw [World.cell?_alloc_at _ _ _ _ rfl, Array.getElem?_eq_getElem hj]
  obtain ⟨s, hs, e⟩ := strOk_some (List.all_eq_true.1 h cs[j] (by simp))
  exact ⟨s, hs, by rw [e]⟩
def DrewStr (w : World) (b : Nat) (A : Option Addr) (n c k : Nat) (e : Ending) (w' : World) : Prop := ∃ s : ByteArray, e = .returned (.string s) ∧ s.size ≤ 4000 ∧ Drew w b A n c k w'

/-- The bytes that came in. -/
theorem code_of_trod {H : Type} {enc : TypeId × Value → H} {W : World} {a : Option Addr} {len cap : Nat} {d : DataW H} {ps : List MemPlace}
    (h : DataW.Trod enc Try.prog W 0 (fun _ => true) true 45 (.slice a len cap) d ps) : Code W W.heap.size a len ∧ len ≤ cap ∧ cap ≤ maxLen := by
  obtain ⟨fuel, hf⟩ := h
  rcases open_ints Try.underlying45 Try.underlying5 (by kernel_rfl) hf with ⟨hcs, _⟩ | ⟨x, l, c, zs, hcs, _, hl, hm, hz, _, hcell, hwz⟩
  · simp [Value.cells] at hcs
    obtain ⟨rfl, rfl, rfl⟩ := hcs
    exact ⟨fun h => absurd h (by omega), Nat.le_refl _, by unfold maxLen; omega⟩
  · simp [Value.cells] at hcs
    obtain ⟨rfl, rfl, rfl⟩ := hcs
    have hz' : zs.length = cap := by simpa using hz
    refine ⟨fun h0 => ?_, hl, hm⟩
    obtain ⟨b, off, spot⟩ := x
    have hc := hcell 0 (by omega)
    have hspot : spot = none := by simpa [Addr.add] using World.cell?_spot hc
    subst hspot
    refine ⟨b, off, rfl, ?_, fun j hj => ?_⟩
    · have hlt : (⟨b, off, none⟩ : Addr).block < W.heap.size := by
        rcases Nat.lt_or_ge b W.heap.size with h | h
        · exact h
        · simp [World.cell?, Addr.add, Array.getElem?_eq_none h] at hc
      exact hlt
    · have hcj := hcell j (by omega)
      have hwj := hwz (zs.getD j 0) (by
        have : j < zs.length := by omega
        simp [List.getD, this])
      have hbd := bounds_u8 hwj
      refine ⟨UInt8.ofNat (zs.getD j 0).toNat, ?_⟩
      have e : ((UInt8.ofNat (zs.getD j 0).toNat).toNat : Int) = zs.getD j 0 := by
        rw [UInt8.toNat_ofNat']; omega
      rw [e]
      by_cases hj0 : j = 0
      · subst hj0
        simpa [Addr.add] using hcj
      · simpa [Addr.add, hj0] using hcj
theorem Cur.grown {w w' : World} {b n c k : Nat} {A : Option Addr} {row : Option Nat} (h : Cur w b A n c k) (hg : w.grownBy w' row) (hr : ∀ g, row = some g → b < g) : Cur w' b A n c k := by
  obtain ⟨seed, hrow, hc⟩ := h
  have hl := row_lt hrow
  refine ⟨seed, (hg.block b hl (fun e => by have := hr _ e.symm; omega)).trans hrow, fun h0 => ?_⟩
  obtain ⟨b0, o0, e, hb, hz⟩ := hc h0
  exact ⟨b0, o0, e, hb, fun j hj => by
    obtain ⟨z, hz⟩ := hz j hj
    exact ⟨z, (World.cell?_of_block (a := ⟨b0, o0 + j, none⟩) (hg.block b0 (by omega) (fun e => by have := hr _ e.symm; omega))).trans hz⟩⟩
theorem Drew.below {w w' : World} {b n c k : Nat} {A : Option Addr} (h : Drew w b A n c k w') {B : Nat} (hB : B ≤ b) (hl0 : b < w.heap.size) : Below B w w' := by
  obtain ⟨k2, _, hc, hg⟩ := h
  exact ⟨hg.os, hg.tape, hg.output, hg.size, fun j hj => by
    exact hg.block j (by omega) (fun e => by injection e; omega)⟩
end Go.Proofs.Ytdkffkgoalgjmac
