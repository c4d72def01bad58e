/- The draws of chapters 2 and 4: a State, a State and a question, two numbers, one. -/
import Derived.Test.YthpnkeecpaflfaaProg
import Derived.Test.YthpnkeecpaflfaaQuest
import Derived.Test.YthpnkeecpaflfaaCounts
import Derived.Test.YthpnkeecpaflfaaUpd
import Derived.Test.YthpnkeecpaflfaaNums
import Derived.Test.YthpnkeecpaflfaaAfter
import Derived.Test.YthpnkeecpaflfaaTold
import Derived.Test.YthpnkeecpaflfaaRInv
import Derived.WalkKit
import Derived.WalkLawsBesides
import Derived.WalkSpells
import Derived.LoopTactic
import Derived.Below
import Derived.Lib.Hide
import Derived.Deep.QuietTactic
import Derived.BigQuiet
import Derived.Deep.Draws
import Derived.Laws.Rows
import Derived.Laws.AppendOwn
import Derived.Outline
import Derived.ProofKit
import Derived.OpenShut
import Derived.Deep.AppendLies
import Derived.Deep.RegionLaw
import Derived.Deep.RegionHeld3
namespace Go.Proofs.Ythpnkeecpaflfaa
open Go.RowKit Go.ChangeShapes Go.WideShapes
set_option linter.unusedVariables false

/-- The n bytes at A lie below block B. -/
def Code (w : World) (B : Nat) (A : Option Addr) (n : Nat) : Prop :=
  0 < n → ∃ b o, A = some ⟨b, o, none⟩ ∧ b < B ∧ ∀ j, j < n → ∃ z : UInt8, w.cell? ⟨b, o + j, none⟩ = some (.int .u8 (z.toNat : Int))
theorem Code.kept {w w' : World} {B g n : Nat} {A : Option Addr} (h : Code w B A n) (hg : w.grownBy w' (some g)) (hB : B ≤ g) (hs : B ≤ w.heap.size) : Code w' B A n := fun h0 => by
  obtain ⟨b, o, e, hb, hc⟩ := h h0
  refine ⟨b, o, e, hb, fun j hj => ?_⟩
  obtain ⟨z, hz⟩ := hc j hj
  exact ⟨z, (World.cell?_of_block (hg.block b (by omega) (fun e => by injection e; omega))).trans hz⟩
/-- The cursor in block b: it has read k choices. -/
def Cur (w : World) (b : Nat) (A : Option Addr) (n c k : Nat) : Prop :=
  ∃ seed : Int, w.heap[b]? = some (.cells #[.slice A n c, .int .i64 (k : Int), .int .u64 seed] 59 (0, 0)) ∧ Code w b A n
theorem row_cell {w : World} {b : Nat} {x y z : Value} {t : TypeId} (h : w.heap[b]? = some (.cells #[x, y, z] t (0, 0))) :
    w.cell? ⟨b, 0, none⟩ = some x ∧ w.cell? ⟨b, 1, none⟩ = some y ∧ w.cell? ⟨b, 2, none⟩ = some z := by
  refine ⟨?_, ?_, ?_⟩ <;> rw [cell_of_row w b _ _ _ _ h] <;> rfl
theorem row_free {w : World} {b : Nat} {cs : Array Value} {t : TypeId} (h : w.heap[b]? = some (.cells cs t (0, 0))) (i : Nat) : w.frozen? ⟨b, i, none⟩ = false := by
  simp [World.frozen?, h]
theorem row_lt {w : World} {b : Nat} {o : Obj} (h : w.heap[b]? = some o) : b < w.heap.size := by
  rcases Nat.lt_or_ge b w.heap.size with hl | hg
  · exact hl
  · rw [Array.getElem?_eq_none hg] at h; cases h

theorem row_set {w : World} {b : Nat} {cs : Array Value} {t : TypeId} (h : w.heap[b]? = some (.cells cs t (0, 0))) (i : Nat) (u : Value) : (w.setCell ⟨b, i, none⟩ u).heap[b]? = some (.cells (cs.setIfInBounds i u) t (0, 0)) := by
  simp [World.setCell, Array.getElem?_modify, h]
theorem only_set {w w' : World} {b : Nat} (h : w.grownBy w' (some b)) (i : Nat) (u : Value) : w.grownBy (w'.setCell ⟨b, i, none⟩ u) (some b) :=
  ⟨h.os, h.tape, h.output, by simpa [World.setCell] using h.size, fun j hj hne => (Below.heap_setCell w' ⟨b, i, none⟩ u j (by rintro rfl; exact hne rfl)).trans (h.block j hj hne)⟩
theorem only_drewN {w w' : World} {b : Option Nat} (h : w.grownBy w' b) (q : Nat) : w.grownBy (w'.drewN q) b := ⟨h.os, h.tape, h.output, h.size, h.block⟩
/-- One choice read: the cursor goes on, its seed turns. -/
theorem cur_step {w : World} {b n c k : Nat} {A : Option Addr} {seed : Int} (h : w.heap[b]? = some (.cells #[.slice A n c, .int .i64 (k : Int), .int .u64 seed] 59 (0, 0))) (hc : Code w b A n) (q q2 : Nat) (S : Int) :
    Cur ((((w.drewN q).setCell ⟨b, 1, none⟩ (.int .i64 ((k : Int) + 1))).setCell ⟨b, 2, none⟩ (.int .u64 S)).drewN q2) b A n c (k + 1) ∧
    w.grownBy ((((w.drewN q).setCell ⟨b, 1, none⟩ (.int .i64 ((k : Int) + 1))).setCell ⟨b, 2, none⟩ (.int .u64 S)).drewN q2) (some b) := by
  have hg : w.grownBy ((((w.drewN q).setCell ⟨b, 1, none⟩ (.int .i64 ((k : Int) + 1))).setCell ⟨b, 2, none⟩ (.int .u64 S)).drewN q2) (some b) :=
    only_drewN (only_set (only_set (only_drewN (World.grownBy.refl w _) q) 1 _) 2 _) q2
  have hr : (w.drewN q).heap[b]? = some (.cells #[.slice A n c, .int .i64 (k : Int), .int .u64 seed] 59 (0, 0)) := h
  have h2 := row_set (row_set hr 1 (.int .i64 ((k : Int) + 1))) 2 (.int .u64 S)
  exact ⟨⟨S, by simpa using h2, hc.kept hg (Nat.le_refl _) (Nat.le_of_lt (row_lt h))⟩, hg⟩
theorem bits_255 (x : Int) : ∃ v : Nat, v ≤ 255 ∧ bits .and .u64 x 255 = (v : Int) := by
  refine ⟨(BitVec.ofInt 64 x &&& BitVec.ofInt 64 255).toNat, ?_, ?_⟩
  · rw [BitVec.toNat_and]
    exact Nat.and_le_right
  · show IntKind.u64.wrap ((BitVec.ofInt 64 x &&& BitVec.ofInt 64 255).toNat : Int) = _
    have h : (BitVec.ofInt 64 x &&& BitVec.ofInt 64 255).toNat ≤ 255 := by rw [BitVec.toNat_and]; exact Nat.and_le_right
    generalize (BitVec.ofInt 64 x &&& BitVec.ofInt 64 255).toNat = v at h
    rw [IntKind.wrap_u64]
    omega

set_option maxHeartbeats 1000000 in
theorem next_any (b : Nat) (A : Option Addr) (n c k : Nat) (w : World) (h : Cur w b A n c k) (hk : k ≤ 1000000) (hn : n ≤ 65536) :
    Calls Try.prog 77 #[.pointer (some ⟨b, 0, none⟩)] w fun e w' => ∃ v : Nat, v ≤ 255 ∧ e = .returned (.int .i64 (v : Int)) ∧ Cur w' b A n c (k + 1) ∧ w.grownBy w' (some b) := by
  obtain ⟨seed, hrow, hcode⟩ := h
  obtain ⟨hc0, hc1, hc2⟩ := row_cell hrow
  have hf1 := row_free hrow 1
  have hf2 := row_free hrow 2
  have HR := Lib.hid hrow
  have HC := Lib.hid hcode
  clear hrow hcode
  by_cases hlt : k < n
  · obtain ⟨b0, o, rfl, hb0, hcell⟩ := HC.out (by omega)
    obtain ⟨z, hz⟩ := hcell k hlt
    have hki : (k : Int) < (n : Int) := by omega
    have hz1 : (z.toNat : Int) < 256 := by have := z.toNat_lt; omega
    clear hcell
    go_enter Try.func77, Try.ntmps77
    go_wp2
    go_quiet (fail)
    go_wp2
    go_quiet (fail)
    go_wp2
    generalize IntKind.u64.wrap (seed * 6364136223846793005) = s1
    generalize IntKind.u64.wrap (s1 + (z.toNat : Int)) = s2
    generalize IntKind.u64.wrap (s2 + 462197) = s3
    have hle : (k : Int) + 1 ≤ (n : Int) := by omega
    go_quiet (fail)
    go_wp2
    go_ret
    exact ⟨z.toNat, by omega, rfl, cur_step HR.out HC.out _ _ _⟩
  · have hki : ¬ (k : Int) < (n : Int) := by omega
    have hki2 : decide ((k : Int) < (n : Int)) = false := by simpa using hlt
    go_enter Try.func77, Try.ntmps77
    go_wp2
    go_quiet (fail)
    go_wp2
    go_quiet (fail)
    go_wp2
    generalize IntKind.u64.wrap (IntKind.u64.wrap (IntKind.u64.wrap (seed * 6364136223846793005)) + 462197) = S
    generalize S / 1099511627776 = x
    obtain ⟨v, hv, e⟩ := bits_255 x
    generalize bits .and .u64 x 255 = y at e ⊢
    subst e
    have hw := IntWalk.wrap64_in (v : Int) ⟨by omega, by omega⟩
    generalize wrap64 (v : Int) = y at hw ⊢
    subst hw
    go_ret
    exact ⟨v, hv, rfl, cur_step HR.out HC.out _ _ _⟩

set_option maxHeartbeats 1000000 in
theorem pick_any (b : Nat) (A : Option Addr) (n c k : Nat) (m : Nat) (w : World) (h : Cur w b A n c k) (hk : k ≤ 999998) (hn : n ≤ 65536) (h1 : 1 ≤ m) (hm : m ≤ 1000000) :
    Calls Try.prog 66 #[.pointer (some ⟨b, 0, none⟩), .int .i64 (m : Int)] w fun e w' => ∃ v k2 : Nat, v < m ∧ e = .returned (.int .i64 (v : Int)) ∧ k2 ≤ k + 2 ∧ Cur w' b A n c k2 ∧ w.grownBy w' (some b) := by
  by_cases hm1 : m = 1
  · subst hm1
    go_enter Try.func66, Try.ntmps66
    go_wp2_with fail
    refine bodyPost_ret (results_tmp rfl _ _ _) rfl ⟨0, k, by omega, rfl, by omega, h, World.grownBy.refl w _⟩
  · have HC := Lib.hid h
    clear h
    have hmi : ¬ (m : Int) ≤ 1 := by omega
    by_cases h2 : 200 < m
    · have hm2 : (200 : Int) < (m : Int) := by omega
      go_enter Try.func66, Try.ntmps66
      go_wp2_with fail
      refine (next_any b A n c k w HC.out (by omega) hn).mono ?_
      rintro e w1 ⟨v, hv, rfl, hc1, hg1⟩
      have H1 := Lib.hid hc1
      have G1 := Lib.hid hg1
      clear hc1 hg1
      go_wp2_with fail
      refine (next_any b A n c (k + 1) w1 H1.out (by omega) hn).mono ?_
      rintro e w2 ⟨v2, hv2, rfl, hc2, hg2⟩
      have H2 := Lib.hid hc2
      have G2 := Lib.hid (G1.out.trans hg2)
      clear hc2 hg2
      go_wp2_with fail
      refine bodyPost_ret (results_tmp rfl _ _ _) rfl ⟨(v * 256 + v2) % m, k + 2, Nat.mod_lt _ (by omega), ?_, by omega, H2.out, G2.out⟩
      rfl
    · have hm2 : ¬ (200 : Int) < (m : Int) := by omega
      go_enter Try.func66, Try.ntmps66
      go_wp2_with fail
      refine (next_any b A n c k w HC.out (by omega) hn).mono ?_
      rintro e w1 ⟨v, hv, rfl, hc1, hg1⟩
      have H1 := Lib.hid hc1
      have G1 := Lib.hid hg1
      clear hc1 hg1
      go_wp2_with fail
      refine bodyPost_ret (results_tmp rfl _ _ _) rfl ⟨v % m, k + 1, Nat.mod_lt _ (by omega), ?_, by omega, H1.out, G1.out⟩
      rfl

theorem only_alloc {a w : World} {row : Option Nat} (h : a.grownBy w row) (o : Obj) : a.grownBy (w.alloc o) row :=
  ⟨h.os, h.tape, h.output, Nat.le_trans h.size (by simp), fun i hi hne => (Below.heap_alloc w o i (Nat.lt_of_lt_of_le hi h.size)).trans (h.block i hi hne)⟩
theorem Cur.alloc {w : World} {b n c k : Nat} {A : Option Addr} (h : Cur w b A n c k) (o : Obj) : Cur (w.alloc o) b A n c k := by
  obtain ⟨seed, hr, hc⟩ := h
  have hl := row_lt hr
  exact ⟨seed, (Below.heap_alloc w o b hl).trans hr, fun h0 => by
    obtain ⟨b0, o0, e, hb, hz⟩ := hc h0
    exact ⟨b0, o0, e, hb, fun j hj => by
      obtain ⟨z, hz⟩ := hz j hj
      exact ⟨z, (World.cell?_alloc_lt w o ⟨b0, o0 + j, none⟩ (by show b0 < _; omega)).trans hz⟩⟩⟩
theorem Cur.lt {w : World} {b n c k : Nat} {A : Option Addr} (h : Cur w b A n c k) : b < w.heap.size := by
  obtain ⟨seed, hr, hc⟩ := h
  exact row_lt hr
/-- A cursor that has just been made. -/
theorem Cur.new {w : World} {n c : Nat} {A : Option Addr} (h : Code w w.heap.size A n) : Cur (w.alloc (.cells #[.slice A n c, .int .i64 0, .int .u64 0] 59)) w.heap.size A n c 0 :=
  ⟨0, heap_alloc_new w _, fun h0 => by
    obtain ⟨b0, o0, e, hb, hz⟩ := h h0
    exact ⟨b0, o0, e, hb, fun j hj => by
      obtain ⟨z, hz⟩ := hz j hj
      exact ⟨z, (World.cell?_alloc_lt w _ ⟨b0, o0 + j, none⟩ (by show b0 < _; omega)).trans hz⟩⟩⟩

/-- What a draw leaves: the cursor, further on; nothing else of what was there is written. -/
def Drew (w : World) (b : Nat) (A : Option Addr) (n c k : Nat) (w' : World) : Prop := ∃ k2 : Nat, k2 ≤ k + 2 ∧ Cur w' b A n c k2 ∧ w.grownBy w' (some b)

theorem one_any (b : Nat) (A : Option Addr) (n c k : Nat) (m : Nat) (w : World) (h : Cur w b A n c k) (hk : k ≤ 999998) (hn : n ≤ 65536) (h1 : 1 ≤ m) (hm : m ≤ 1000000) :
    Calls Try.prog 71 #[.pointer (some ⟨b, 0, none⟩), .int .i64 (m : Int)] w fun e w' => ∃ x : Bool, e = .returned (.bool x) ∧ Drew w b A n c k w' := by
  have HC := Lib.hid h
  clear h
  go_enter Try.func71, Try.ntmps71
  go_wp2_with fail
  refine (pick_any b A n c k m w HC.out hk hn h1 hm).mono ?_
  rintro e w1 ⟨v, k2, hv, rfl, hk2, hc1, hg1⟩
  have H1 := Lib.hid (show Drew w b A n c k w1 from ⟨k2, hk2, hc1, hg1⟩)
  clear hc1 hg1
  go_wp2_with fail
  refine bodyPost_ret (results_tmp rfl _ _ _) rfl ⟨_, rfl, H1.out⟩

/-- A text that is drawn: short. -/
def strOk (v : Value) : Bool := match v with | .string s => decide (s.size ≤ 4000) | _ => false
theorem strOk_some {v : Value} (h : strOk v = true) : ∃ s : ByteArray, s.size ≤ 4000 ∧ v = .string s := by
  cases v <;> simp [strOk] at h
  exact ⟨_, h, rfl⟩
theorem list_ok (w : World) (cs : Array Value) (t : TypeId) (m : Nat) (hm : cs.size = m) (h : cs.toList.all strOk = true) : ∀ j, j < m → ∃ s : ByteArray, s.size ≤ 4000 ∧ (w.alloc (.cells cs t)).cell? ⟨w.heap.size, j, none⟩ = some (.string s) := fun j hj => by
  subst hm
  rw [World.cell?_alloc_at _ _ _ _ rfl, Array.getElem?_eq_getElem hj]
  obtain ⟨s, hs, e⟩ := strOk_some (List.all_eq_true.1 h cs[j] (by simp))
  exact ⟨s, hs, by rw [e]⟩
def DrewStr (w : World) (b : Nat) (A : Option Addr) (n c k : Nat) (e : Ending) (w' : World) : Prop := ∃ s : ByteArray, e = .returned (.string s) ∧ s.size ≤ 4000 ∧ Drew w b A n c k w'

/-- The bytes that came in. -/
theorem code_of_trod {H : Type} {enc : TypeId × Value → H} {W : World} {a : Option Addr} {len cap : Nat} {d : DataW H} {ps : List MemPlace}
    (h : DataW.Trod enc Try.prog W 0 (fun _ => true) true 22 (.slice a len cap) d ps) : Code W W.heap.size a len ∧ len ≤ cap ∧ cap ≤ maxLen := by
  obtain ⟨fuel, hf⟩ := h
  rcases open_ints Try.underlying22 Try.underlying5 (by kernel_rfl) hf with ⟨hcs, _⟩ | ⟨x, l, c, zs, hcs, _, hl, hm, hz, _, hcell, hwz⟩
  · simp [Value.cells] at hcs
    obtain ⟨rfl, rfl, rfl⟩ := hcs
    exact ⟨fun h => absurd h (by omega), Nat.le_refl _, by unfold maxLen; omega⟩
  · simp [Value.cells] at hcs
    obtain ⟨rfl, rfl, rfl⟩ := hcs
    have hz' : zs.length = cap := by simpa using hz
    refine ⟨fun h0 => ?_, hl, hm⟩
    obtain ⟨b, off, spot⟩ := x
    have hc := hcell 0 (by omega)
    have hspot : spot = none := by simpa [Addr.add] using World.cell?_spot hc
    subst hspot
    refine ⟨b, off, rfl, ?_, fun j hj => ?_⟩
    · have hlt : (⟨b, off, none⟩ : Addr).block < W.heap.size := by
        rcases Nat.lt_or_ge b W.heap.size with h | h
        · exact h
        · simp [World.cell?, Addr.add, Array.getElem?_eq_none h] at hc
      exact hlt
    · have hcj := hcell j (by omega)
      have hwj := hwz (zs.getD j 0) (by
        have : j < zs.length := by omega
        simp [List.getD, this])
      have hbd := bounds_u8 hwj
      refine ⟨UInt8.ofNat (zs.getD j 0).toNat, ?_⟩
      have e : ((UInt8.ofNat (zs.getD j 0).toNat).toNat : Int) = zs.getD j 0 := by
        rw [UInt8.toNat_ofNat']; omega
      rw [e]
      by_cases hj0 : j = 0
      · subst hj0
        simpa [Addr.add] using hcj
      · simpa [Addr.add, hj0] using hcj
theorem Cur.grown {w w' : World} {b n c k : Nat} {A : Option Addr} {row : Option Nat} (h : Cur w b A n c k) (hg : w.grownBy w' row) (hr : ∀ g, row = some g → b < g) : Cur w' b A n c k := by
  obtain ⟨seed, hrow, hc⟩ := h
  have hl := row_lt hrow
  refine ⟨seed, (hg.block b hl (fun e => by have := hr _ e.symm; omega)).trans hrow, fun h0 => ?_⟩
  obtain ⟨b0, o0, e, hb, hz⟩ := hc h0
  exact ⟨b0, o0, e, hb, fun j hj => by
    obtain ⟨z, hz⟩ := hz j hj
    exact ⟨z, (World.cell?_of_block (a := ⟨b0, o0 + j, none⟩) (hg.block b0 (by omega) (fun e => by have := hr _ e.symm; omega))).trans hz⟩⟩
theorem Drew.below {w w' : World} {b n c k : Nat} {A : Option Addr} (h : Drew w b A n c k w') {B : Nat} (hB : B ≤ b) (hl0 : b < w.heap.size) : Below B w w' := by
  obtain ⟨k2, _, hc, hg⟩ := h
  exact ⟨hg.os, hg.tape, hg.output, hg.size, fun j hj => by
    exact hg.block j (by omega) (fun e => by injection e; omega)⟩
end Go.Proofs.Ythpnkeecpaflfaa
namespace Go.Proofs.Ythpnkeecpaflfaa
open Go.RowKit Go.ChangeShapes Go.WideShapes
set_option linter.unusedVariables false

def ways (q : Nat) : Nat → Nat
  | 0 => 1
  | k + 1 => ways q k * (q - k) / (k + 1)
def ballTo (q : Nat) : Nat → Nat
  | 0 => 0
  | k + 1 => ballTo q k + ways q k
/-- The ways in which at most k of q answers can be chosen. -/
def ball (q k : Nat) : Nat := ballTo q (k + 1)
theorem ways_bd (q k : Nat) (hq : q ≤ 30) (hk : k ≤ q) : ways q k * (q - k) ≤ 1099511627776 ∧ ways q k ≤ 1073741824 ∧ ballTo q k ≤ 1073741824 ∧ ballTo q (k + 1) ≤ 1073741824 := by
  have : ∀ q, q ≤ 30 → ∀ k, k ≤ q → (ways q k * (q - k) ≤ 1099511627776 ∧ ways q k ≤ 1073741824 ∧ ballTo q k ≤ 1073741824 ∧ ballTo q (k + 1) ≤ 1073741824) := by decide +kernel
  exact this q hq k hk
theorem ways_prod (q k : Nat) (hk : k ≤ q) : (ways q k : Int) * ((q : Int) - (k : Int)) = ((ways q k * (q - k) : Nat) : Int) := by
  rw [show ((q : Int) - (k : Int)) = ((q - k : Nat) : Int) by omega]
  norm_cast
theorem ways_step (q k : Nat) (hk : k ≤ q) : (ways q k : Int) * ((q : Int) - (k : Int)) / ((k : Int) + 1) = ((ways q (k + 1) : Nat) : Int) := by
  rw [ways_prod q k hk, ways]
  norm_cast
theorem ball_bd (q k : Nat) (hq : q ≤ 30) (hk : k ≤ q) : ball q k ≤ 1073741824 := (ways_bd q k hq hk).2.2.2
theorem ball_pos (q k : Nat) (hq : q ≤ 30) (hk : k ≤ q) : 1 ≤ ball q k := by
  have : ∀ q, q ≤ 30 → ∀ k, k ≤ q → 1 ≤ ball q k := by decide +kernel
  exact this q hq k hk
/-- Whether k is a number of q answers. -/
def part (q k : Int) : Bool := inB q 0 30 && inB k 0 q
theorem part_iff {q k : Int} : part q k = true ↔ (0 ≤ q ∧ q ≤ 30) ∧ 0 ≤ k ∧ k ≤ q := by simp [part, inB]

end Go.Proofs.Ythpnkeecpaflfaa
namespace Go.Proofs.Ythpnkeecpaflfaa
open Go.RowKit Go.ChangeShapes Go.WideShapes
set_option linter.unusedVariables false

theorem ball_at {q k j : Nat} (hj : j ≤ min k q + 1) (h : ¬ (j ≤ k ∧ j ≤ q)) : ballTo q j = ball q (min k q) := by
  have : j = min k q + 1 := by omega
  rw [this]; rfl
end Go.Proofs.Ythpnkeecpaflfaa
namespace Go.Proofs.Ythpnkeecpaflfaa
open Go.RowKit Go.ChangeShapes Go.WideShapes
set_option linter.unusedVariables false

/-- The weight of a number with a false answers, of M at most, with q questions ahead. -/
def wOf (M q : Nat) (a : Nat) : Int := (ball q (min (M - a) q) : Int)
def tabs (M q : Nat) : List Int := (List.range (M + 1)).map (wOf M q)
theorem tabs_len (M q : Nat) : (tabs M q).length = M + 1 := by simp [tabs]
theorem wOf_bd (M q a : Nat) (hq : q ≤ 30) : 1 ≤ wOf M q a ∧ wOf M q a ≤ 1073741824 := by
  have h1 := ball_bd q (min (M - a) q) hq (by omega)
  have h2 := ball_pos q (min (M - a) q) hq (by omega)
  unfold wOf
  omega
theorem tabs_at {M q a : Nat} (h : a < M + 1) : (tabs M q)[a]? = some (wOf M q a) := by
  simp [tabs, h]

/-- The first k weights of the table. -/
def tabTo (M q k : Nat) : List Int := (List.range k).map (wOf M q)
theorem tabTo_succ (M q k : Nat) : tabTo M q (k + 1) = tabTo M q k ++ [wOf M q k] := by simp [tabTo, List.range_succ]
theorem tabTo_len (M q k : Nat) : (tabTo M q k).length = k := by simp [tabTo]

theorem row_res {w : World} {l : List Int} {lo g : Nat} (h : lo ≤ g) (hr : w.heap[g]? = some (.cells (l.map (Value.int .i64)).toArray 3 (0, 0))) : Res w lo w.heap.size (some ⟨g, 0, none⟩) l :=
  ⟨.inr ⟨g, _, rfl, h, row_ltI hr, hr, by simp, fun j x hx => by simp [hx]⟩, Nat.le_refl _⟩
end Go.Proofs.Ythpnkeecpaflfaa
namespace Go.Proofs.Ythpnkeecpaflfaa
open Go.RowKit Go.ChangeShapes Go.WideShapes
set_option linter.unusedVariables false

/-- The weight of a number with z false answers (-1: not open), of M at most, with q questions ahead. -/
def numW (q M : Nat) (z : Int) : Nat := if 0 ≤ z then ball q (min (M - z.toNat) q) else 0
theorem numW_no {q M : Nat} {z : Int} (h : ¬ 0 ≤ z) : numW q M z = 0 := if_neg h
theorem numW_at (q M a : Nat) : ((numW q M (a : Int) : Nat) : Int) = wOf M q a := by
  unfold numW wOf
  rw [if_pos (by omega), Int.toNat_natCast]
theorem numW_bd (q M : Nat) (z : Int) (hq : q ≤ 30) : numW q M z ≤ 1073741824 := by
  by_cases h : 0 ≤ z
  · unfold numW; rw [if_pos h]; exact ball_bd _ _ hq (by omega)
  · rw [numW_no h]; omega
/-- The weights of the first k numbers together. -/
def stWTo (q M : Nat) (zs : List Int) : Nat → Nat
  | 0 => 0
  | k + 1 => stWTo q M zs k + numW q M (zs.getD k (-1))
def stW (q M : Nat) (zs : List Int) : Nat := stWTo q M zs zs.length
theorem stWTo_bd (q M : Nat) (zs : List Int) (hq : q ≤ 30) : ∀ k, stWTo q M zs k ≤ k * 1073741824
  | 0 => by simp [stWTo]
  | k + 1 => by
    have h1 := stWTo_bd q M zs hq k
    have h2 := numW_bd q M (zs.getD k (-1)) hq
    rw [stWTo]
    omega
theorem stW_bd {q M : Nat} {zs : List Int} (hq : q ≤ 30) (hn : zs.length ≤ 12) : stW q M zs ≤ 12884901888 := by
  have := stWTo_bd q M zs hq zs.length
  unfold stW
  omega

end Go.Proofs.Ythpnkeecpaflfaa
namespace Go.Proofs.Ythpnkeecpaflfaa
open Go.RowKit Go.ChangeShapes Go.WideShapes
set_option linter.unusedVariables false

theorem least_ex (p : Nat → Prop) [DecidablePred p] : ∀ n, p n → ∃ b, b ≤ n ∧ p b ∧ ∀ j, j < b → ¬ p j := by
  intro n
  induction n using Nat.strongRecOn with
  | ind n ih =>
    intro h
    by_cases hx : ∃ j, j < n ∧ p j
    · obtain ⟨j, hj, hp⟩ := hx
      obtain ⟨b, hb, h1, h2⟩ := ih j hj hp
      exact ⟨b, by omega, h1, h2⟩
    · exact ⟨n, Nat.le_refl _, h, fun j hj hp => hx ⟨j, hj, hp⟩⟩
theorem numW_30 {M : Nat} (hM : M ≤ 2) (z : Int) : numW 30 M z ≤ 466 := by
  have : ∀ j, j ≤ 2 → ball 30 j ≤ 466 := by decide +kernel
  by_cases h : 0 ≤ z
  · unfold numW; rw [if_pos h]; exact this _ (by omega)
  · rw [numW_no h]; omega
theorem stWTo_30 {M : Nat} (hM : M ≤ 2) (zs : List Int) : ∀ k, stWTo 30 M zs k ≤ k * 466
  | 0 => by simp [stWTo]
  | k + 1 => by
    have h1 := stWTo_30 hM zs k
    have h2 := numW_30 hM (zs.getD k (-1))
    rw [stWTo]
    omega
theorem bound_ex (M : Nat) (zs : List Int) (hM : M ≤ 2) (hn : zs.length ≤ 12) : ∃ b, b ≤ 30 ∧ stW b M zs ≤ 2 ^ b ∧ ∀ j, j < b → ¬ stW j M zs ≤ 2 ^ j :=
  least_ex (fun b => stW b M zs ≤ 2 ^ b) 30 (by
    have := stWTo_30 hM zs zs.length
    show stW 30 M zs ≤ 2 ^ 30
    unfold stW
    omega)
theorem pow_le30 (k : Nat) (h : k ≤ 30) : (1 : Int) ≤ 2 ^ k ∧ (2 : Int) ^ k ≤ 1073741824 := by
  have : ∀ k, k ≤ 30 → ((1 : Int) ≤ 2 ^ k ∧ (2 : Int) ^ k ≤ 1073741824) := by decide +kernel
  exact this k h
theorem wrap_pow30 (k : Nat) (h : k ≤ 30) : wrap64 ((2 : Int) ^ k) = 2 ^ k := by
  have : ∀ k, k ≤ 30 → wrap64 ((2 : Int) ^ k) = 2 ^ k := by decide +kernel
  exact this k h
theorem pow_cast (k : Nat) : (((2 ^ k : Nat)) : Int) = (2 : Int) ^ k := by norm_cast
end Go.Proofs.Ythpnkeecpaflfaa
namespace Go.Proofs.Ythpnkeecpaflfaa
open Go.RowKit Go.ChangeShapes Go.WideShapes
set_option linter.unusedVariables false

theorem l1Least_any (x y : Int) (w : World) :
    Calls Try.prog 80 #[.int .i64 x, .int .i64 y] w fun e w' => e = .returned (.int .i64 (if x ≤ y then x else y)) ∧ w' = w := by
  by_cases h : x < y
  · rw [if_pos (by omega)]
    go_enter Try.func80, Try.ntmps80
    go_wp2
    go_ret
    exact ⟨rfl, rfl⟩
  · by_cases h2 : x = y
    · subst h2
      rw [if_pos (by omega)]
      go_enter Try.func80, Try.ntmps80
      go_wp2
      go_ret
      exact ⟨rfl, rfl⟩
    · have h3 : y < x := by omega
      rw [if_neg (by omega)]
      go_enter Try.func80, Try.ntmps80
      go_wp2
      go_ret
      exact ⟨rfl, rfl⟩
/-- Whether most of q answers can be false, and no more than can be at all. -/
def mOK (q k : Int) : Bool := part q k && inB k 0 2
theorem mOK_iff {q k : Int} : mOK q k = true ↔ ((0 ≤ q ∧ q ≤ 30) ∧ 0 ≤ k ∧ k ≤ q) ∧ 0 ≤ k ∧ k ≤ 2 := by
  unfold mOK; rw [Bool.and_eq_true, part_iff, inB_iff]
theorem least_part {q k : Int} (hq : inB q 0 30 = true) : inB k 0 (if (2 : Int) ≤ q then 2 else q) = mOK q k := by
  have := inB_iff.1 hq
  rw [Bool.eq_iff_iff, mOK_iff, inB_iff]
  split <;> omega
theorem mOK_noq {q k : Int} (hq : inB q 0 30 = false) : mOK q k = false := by simp [mOK, part, hq]

end Go.Proofs.Ythpnkeecpaflfaa
namespace Go.Proofs.Ythpnkeecpaflfaa
open Go.RowKit Go.ChangeShapes Go.WideShapes
set_option linter.unusedVariables false

/-- A value that is a number of some kind. -/
def isNum (p : Int → Bool) (v : Value) : Bool := match v with | .int .i64 x => p x | _ => false
theorem isNum_some {p : Int → Bool} {v : Value} (h : isNum p v = true) : ∃ x : Int, p x = true ∧ v = .int .i64 x := by
  unfold isNum at h
  split at h
  · exact ⟨_, h, rfl⟩
  · cases h
theorem list_num {p : Int → Bool} (w : World) (cs : Array Value) (t : TypeId) (m : Nat) (hm : m ≤ cs.size) (h : cs.toList.all (isNum p) = true) : ∀ j, j < m → ∃ x : Int, p x = true ∧ (w.alloc (.cells cs t)).cell? ⟨w.heap.size, j, none⟩ = some (.int .i64 x) := fun j hj => by
  have hj2 : j < cs.size := by omega
  rw [World.cell?_alloc_at _ _ _ _ rfl, Array.getElem?_eq_getElem hj2]
  obtain ⟨x, h1, e⟩ := isNum_some (List.all_eq_true.1 h cs[j] (by simp))
  exact ⟨x, h1, by rw [e]⟩
/-- What a drawn number leaves: the cursor, at most d further on. -/
def DrewNum (p : Int → Bool) (d : Nat) (w : World) (b : Nat) (A : Option Addr) (n c k : Nat) (e : Ending) (w' : World) : Prop :=
  ∃ x : Int, e = .returned (.int .i64 x) ∧ p x = true ∧ ∃ k2 : Nat, k2 ≤ k + d ∧ Cur w' b A n c k2 ∧ w.grownBy w' (some b)

set_option maxHeartbeats 1000000 in
theorem amongP_any (p : Int → Bool) (b : Nat) (A : Option Addr) (n c k : Nat) (m g c2 : Nat) (w : World) (h : Cur w b A n c k) (hk : k ≤ 999998) (hn : n ≤ 65536) (h1 : 1 ≤ m) (hm : m ≤ 1000000)
    (hL : ∀ j, j < m → ∃ x : Int, p x = true ∧ w.cell? ⟨g, j, none⟩ = some (.int .i64 x)) (hgb : g ≠ b) (hgl : g < w.heap.size) :
    Calls Try.prog 37 #[.pointer (some ⟨b, 0, none⟩), .slice (some ⟨g, 0, none⟩) m c2] w (DrewNum p 2 w b A n c k) := by
  have HC := Lib.hid h
  have HL := Lib.hid hL
  have HG := Lib.hid hgb
  clear h hL hgb
  go_enter Try.func37, Try.ntmps37
  go_wp2_with fail
  refine (pick_any b A n c k m w HC.out hk hn h1 hm).mono ?_
  rintro e w1 ⟨v, k2, hv, rfl, hk2, hc1, hg1⟩
  obtain ⟨x, hx1, hcell⟩ := HL.out v hv
  have hc : w1.cell? ⟨g, v, none⟩ = some (.int .i64 x) := (World.cell?_of_block (hg1.block g hgl (fun e => HG.out (by injection e)))).trans hcell
  have hvi : (v : Int) < (m : Int) := by omega
  have HX := Lib.hid hx1
  have H1 := Lib.hid (show ∃ k2 : Nat, k2 ≤ k + 2 ∧ Cur w1 b A n c k2 ∧ w.grownBy w1 (some b) from ⟨k2, hk2, hc1, hg1⟩)
  clear hc1 hg1 hcell hx1
  go_wp2_with fail
  refine bodyPost_ret (results_tmp rfl _ _ _) rfl ⟨x, rfl, HX.out, H1.out⟩
/-- The greatest number of lies that is drawn. -/
def liesP (x : Int) : Bool := decide (-1 ≤ x ∧ x ≤ 3)
theorem lies_any (b : Nat) (A : Option Addr) (n c k : Nat) (w : World) (h : Cur w b A n c k) (hk : k ≤ 999998) (hn : n ≤ 65536) :
    Calls Try.prog 38 #[.pointer (some ⟨b, 0, none⟩)] w (DrewNum liesP 2 w b A n c k) := by
  have HC := Lib.hid h
  clear h
  go_enter Try.func38, Try.ntmps38
  go_wp2_with fail
  refine (amongP_any liesP b A n c k 12 w.heap.size 12 _ (HC.out.alloc _) hk hn (by omega) (by omega) ?hL (by have := HC.out.lt; omega) (by simp)).mono ?_
  case hL => exact list_num w _ _ 12 (Nat.le_refl _) rfl
  rintro e w1 ⟨x, rfl, hx, k2, hk2, hc1, hg1⟩
  have HX := Lib.hid hx
  have H1 := Lib.hid (show ∃ k2 : Nat, k2 ≤ k + 2 ∧ Cur w1 b A n c k2 ∧ w.grownBy w1 (some b) from ⟨k2, hk2, hc1, (only_alloc (World.grownBy.refl w _) _).trans hg1⟩)
  clear hc1 hg1 hx
  go_wp2_with fail
  refine bodyPost_ret (results_tmp rfl _ _ _) rfl ⟨x, rfl, HX.out, H1.out⟩
/-- The number of numbers that is drawn. -/
def manyP (x : Int) : Bool := decide (0 ≤ x ∧ x ≤ 13)
theorem many_any (b : Nat) (A : Option Addr) (n c k : Nat) (w : World) (h : Cur w b A n c k) (hk : k ≤ 999998) (hn : n ≤ 65536) :
    Calls Try.prog 70 #[.pointer (some ⟨b, 0, none⟩)] w (DrewNum manyP 2 w b A n c k) := by
  have HC := Lib.hid h
  clear h
  go_enter Try.func70, Try.ntmps70
  go_wp2_with fail
  refine (amongP_any manyP b A n c k 16 w.heap.size 16 _ (HC.out.alloc _) hk hn (by omega) (by omega) ?hL (by have := HC.out.lt; omega) (by simp)).mono ?_
  case hL => exact list_num w _ _ 16 (Nat.le_refl _) rfl
  rintro e w1 ⟨x, rfl, hx, k2, hk2, hc1, hg1⟩
  have HX := Lib.hid hx
  have H1 := Lib.hid (show ∃ k2 : Nat, k2 ≤ k + 2 ∧ Cur w1 b A n c k2 ∧ w.grownBy w1 (some b) from ⟨k2, hk2, hc1, (only_alloc (World.grownBy.refl w _) _).trans hg1⟩)
  clear hc1 hg1 hx
  go_wp2_with fail
  refine bodyPost_ret (results_tmp rfl _ _ _) rfl ⟨x, rfl, HX.out, H1.out⟩
/-- Any number. -/
def anyP (x : Int) : Bool := true
set_option maxHeartbeats 2000000 in
theorem question_any (b : Nat) (A : Option Addr) (n c k : Nat) (N : Nat) (w : World) (h : Cur w b A n c k) (hk : k ≤ 999994) (hn : n ≤ 65536) (hN : N ≤ 1048576) :
    Calls Try.prog 72 #[.pointer (some ⟨b, 0, none⟩), .int .i64 (N : Int)] w (DrewNum anyP 4 w b A n c k) := by
  have HC := Lib.hid h
  have HL13 := Lib.hid (fun W => l1Least_any (N : Int) 13 W)
  have HL12 := Lib.hid (fun W => l1Least_any (N : Int) 12 W)
  rw [show (if (N : Int) ≤ 13 then (N : Int) else 13) = ((min N 13 : Nat) : Int) by split <;> omega] at HL13
  rw [show (if (N : Int) ≤ 12 then (N : Int) else 12) = ((min N 12 : Nat) : Int) by split <;> omega] at HL12
  obtain ⟨a, ha⟩ : ∃ a, min N 13 = a := ⟨_, rfl⟩
  obtain ⟨d, hd⟩ : ∃ d, min N 12 = d := ⟨_, rfl⟩
  have ha13 : a ≤ 13 := by omega
  have hd12 : d ≤ 12 := by omega
  rw [ha] at HL13
  rw [hd] at HL12
  have HM13 := Lib.hid (fun W => l1Most_any 0 (a : Int) W)
  have HM12 := Lib.hid (fun W => l1Most_any 0 (d : Int) W)
  rw [show (if (a : Int) ≤ 0 then 0 else (a : Int)) = (a : Int) by split <;> omega] at HM13
  rw [show (if (d : Int) ≤ 0 then 0 else (d : Int)) = (d : Int) by split <;> omega] at HM12
  have hp := pow_le d hd12
  have hpn : 1 ≤ 2 ^ d ∧ 2 ^ d ≤ 4096 := by
    have : ∀ d, d ≤ 12 → 1 ≤ 2 ^ d ∧ 2 ^ d ≤ 4096 := by decide
    exact this d hd12
  have hpc := pow_cast d
  have HP := Lib.hid hpc
  have HPN := Lib.hid hpn
  clear h ha hd hpc hpn
  go_enter Try.func72, Try.ntmps72
  go_wp2_with fail
  refine (one_any b A n c k 24 w HC.out (by omega) hn (by omega) (by omega)).mono ?_
  rintro e w1 ⟨x, rfl, k1, hk1, hc1, hg1⟩
  have H1 := Lib.hid hc1
  have G1 := Lib.hid hg1
  clear hc1 hg1
  cases x
  · go_wp2_with (first | (go_at_call 80; refine (HL12.out _).mono ?_; rintro e w9 ⟨rfl, hw9⟩; have hw9 := hw9.symm; subst hw9) | (go_at_call 36; refine (HM12.out _).mono ?_; rintro e w9 ⟨rfl, hw9⟩; have hw9 := hw9.symm; subst hw9))
    rw [← HP.out]
    refine (pick_any b A n c k1 (2 ^ d) _ H1.out (by omega) hn HPN.out.1 (by have := HPN.out.2; omega)).mono ?_
    rintro e w2 ⟨v, k2, hv, rfl, hk2, hc2, hg2⟩
    have H2 := Lib.hid (show ∃ k2 : Nat, k2 ≤ k + 4 ∧ Cur w2 b A n c k2 ∧ w.grownBy w2 (some b) from ⟨k2, by omega, hc2, G1.out.trans hg2⟩)
    clear hc2 hg2
    go_wp2_with fail
    refine bodyPost_ret (results_tmp rfl _ _ _) rfl ⟨_, rfl, rfl, H2.out⟩
  · go_wp2_with (first | (go_at_call 80; refine (HL13.out _).mono ?_; rintro e w9 ⟨rfl, hw9⟩; have hw9 := hw9.symm; subst hw9) | (go_at_call 36; refine (HM13.out _).mono ?_; rintro e w9 ⟨rfl, hw9⟩; have hw9 := hw9.symm; subst hw9))
    refine (amongP_any anyP b A n c k1 3 w1.heap.size 3 _ (H1.out.alloc _) (by omega) hn (by omega) (by omega) ?hL (by have := H1.out.lt; omega) (by simp)).mono ?_
    case hL => exact list_num w1 _ _ 3 (Nat.le_refl _) rfl
    rintro e w2 ⟨x, rfl, hx, k2, hk2, hc2, hg2⟩
    have H2 := Lib.hid (show ∃ k2 : Nat, k2 ≤ k + 4 ∧ Cur w2 b A n c k2 ∧ w.grownBy w2 (some b) from ⟨k2, by omega, hc2, (only_alloc G1.out _).trans hg2⟩)
    clear hc2 hg2
    go_wp2_with fail
    refine bodyPost_ret (results_tmp rfl _ _ _) rfl ⟨x, rfl, hx, H2.out⟩
def aheadP (x : Int) : Bool := decide (-1 ≤ x ∧ x ≤ 31)
end Go.Proofs.Ythpnkeecpaflfaa
namespace Go.Proofs.Ythpnkeecpaflfaa
open Go.RowKit Go.ChangeShapes Go.WideShapes
set_option linter.unusedVariables false

/-- What is written for a number: '-', else a byte as a digit. -/
def lieB (b : UInt8) : Int := if b = 45 then -1 else (b.toNat : Int) - 48
theorem lieB_open : lieB 45 = -1 := rfl
theorem lieB_digit {b : UInt8} (h : b ≠ 45) : lieB b = (b.toNat : Int) - 48 := if_neg h
theorem byte_45 {b : UInt8} (h : b.toNat = 45) : b = 45 := by
  apply UInt8.toNat_inj.1
  rw [h]; rfl
theorem byte_ne45 {b : UInt8} (h : b.toNat ≠ 45) : b ≠ 45 := fun e => h (by rw [e]; rfl)
theorem lieB_bd (b : UInt8) : -48 ≤ lieB b ∧ lieB b ≤ 255 := by
  have := b.toNat_lt
  unfold lieB
  split <;> omega
/-- The numbers of a text, from its third byte on: the first k. -/
def liesTo (s : ByteArray) (k : Nat) : List Int := (List.range k).map fun j => lieB (s.data.toList.getD (j + 2) 0)
theorem liesTo_len (s : ByteArray) (k : Nat) : (liesTo s k).length = k := by simp [liesTo]
theorem liesTo_succ {s : ByteArray} {k : Nat} (h : k + 2 < s.size) : liesTo s (k + 1) = liesTo s k ++ [lieB s[k + 2]] := by
  have e : s.data.toList.getD (k + 2) 0 = s[k + 2] := by
    have h' : k + 2 < s.data.toList.length := by rw [Array.length_toList]; exact h
    rw [List.getD_eq_getElem?_getD, List.getElem?_eq_getElem h']
    rfl
  simp only [liesTo, List.range_succ, List.map_append, List.map_cons, List.map_nil, e]
/-- Whether each of the first k bytes behind the second is '-' or at least '0'. -/
def UpTo (s : ByteArray) (k : Nat) : Prop := ∀ j (h : j + 2 < s.size), j < k → s[j + 2] = 45 ∨ 48 ≤ s[j + 2].toNat
/-- What ParseState answers. -/
structure Good (s : ByteArray) : Prop where
  lo : 3 ≤ s.size
  hi : s.size ≤ 14
  head : 48 ≤ (s[0]'(by omega)).toNat ∧ (s[0]'(by omega)).toNat ≤ 50
  colon : (s[1]'(by omega)).toNat = 58
  all : UpTo s (s.size - 2)
  st : isSt (liesTo s (s.size - 2)) (((s[0]'(by omega)).toNat : Int) - 48) = true
noncomputable def pL (s : ByteArray) : List Int := open Classical in if Good s then liesTo s (s.size - 2) else []
noncomputable def pM (s : ByteArray) : Int := open Classical in if h : Good s then ((s[0]'(by have := h.lo; omega)).toNat : Int) - 48 else 0
noncomputable def pB (s : ByteArray) : Bool := open Classical in if Good s then true else false
theorem pL_yes {s : ByteArray} (h : Good s) : pL s = liesTo s (s.size - 2) := if_pos h
theorem pL_no {s : ByteArray} (h : ¬ Good s) : pL s = [] := if_neg h
theorem pM_yes {s : ByteArray} (h : Good s) : pM s = ((s[0]'(by have := h.lo; omega)).toNat : Int) - 48 := dif_pos h
theorem pM_no {s : ByteArray} (h : ¬ Good s) : pM s = 0 := dif_neg h
theorem pB_yes {s : ByteArray} (h : Good s) : pB s = true := if_pos h
theorem pB_no {s : ByteArray} (h : ¬ Good s) : pB s = false := if_neg h
theorem pL_len (s : ByteArray) : (pL s).length ≤ 12 := by
  by_cases h : Good s
  · rw [pL_yes h, liesTo_len]; have := h.hi; omega
  · rw [pL_no h]; simp
/-- The form of an answer: a State and whether it is one. -/
def AnsSt (w : World) (L : List Int) (m : Int) (b : Bool) (e : Ending) (w' : World) : Prop :=
  ∃ B c', e = .returned (.tuple #[.agg #[.slice B L.length c', .int .i64 m], .bool b]) ∧ Res w' w.heap.size w'.heap.size B L ∧ Below w.heap.size w w'
theorem ansSt_no {w w' : World} {s : ByteArray} (h : ¬ Good s) (hb : Below w.heap.size w w') : AnsSt w (pL s) (pM s) (pB s) (.returned (.tuple #[.agg #[.slice none 0 0, .int .i64 0], .bool false])) w' := by
  rw [pL_no h, pM_no h, pB_no h]
  exact ⟨none, 0, rfl, Res.none _ _ _ (Nat.le_refl _), hb⟩
theorem ansSt_yes {w w' : World} {s : ByteArray} (h : Good s) {B : Option Addr} {c' n : Nat} {m : Int} (hn : n = s.size - 2) (hm : m = ((s[0]'(by have := h.lo; omega)).toNat : Int) - 48) (hr : Res w' w.heap.size w'.heap.size B (liesTo s (s.size - 2))) (hb : Below w.heap.size w w') :
    AnsSt w (pL s) (pM s) (pB s) (.returned (.tuple #[.agg #[.slice B n c', .int .i64 m], .bool true])) w' := by
  rw [pL_yes h, pM_yes h, pB_yes h]
  refine ⟨B, c', ?_, hr, hb⟩
  rw [liesTo_len, hn, hm]
end Go.Proofs.Ythpnkeecpaflfaa
namespace Go.Proofs.Ythpnkeecpaflfaa
open Go.RowKit Go.ChangeShapes Go.WideShapes
set_option linter.unusedVariables false

/-- A block of two cells. -/
structure TwoS (w : World) (b : Nat) (x y : Value) : Prop where
  row : w.heap[b]? = some (.cells #[x, y] 26 (0, 0))
theorem TwoS.lt {w : World} {b : Nat} {x y : Value} (h : TwoS w b x y) : b < w.heap.size := row_ltI h.row
theorem TwoS.step {w w' : World} {b : Nat} {x y : Value} (h : TwoS w b x y) (hb : Below w.heap.size w w') : TwoS w' b x y := ⟨(hb.block b h.lt).trans h.row⟩
theorem TwoS.new (w : World) (x y : Value) (b : Nat) (hb : b = w.heap.size) : TwoS (w.alloc (.cells #[x, y] 26)) b x y := ⟨alloc_row' _ _ _ _ hb⟩
theorem TwoS.c0 {w : World} {b : Nat} {x y : Value} (h : TwoS w b x y) : w.cell? ⟨b, 0, none⟩ = some x := two0 h.row
theorem TwoS.c1 {w : World} {b : Nat} {x y : Value} (h : TwoS w b x y) : w.cell? ⟨b, 1, none⟩ = some y := two1 h.row
theorem TwoS.f0 {w : World} {b : Nat} {x y : Value} (h : TwoS w b x y) : w.frozen? ⟨b, 0, none⟩ = false := row_freeI h.row 0
theorem TwoS.f1 {w : World} {b : Nat} {x y : Value} (h : TwoS w b x y) : w.frozen? ⟨b, 1, none⟩ = false := row_freeI h.row 1
theorem TwoS.grown {w w' : World} {b : Nat} {x y : Value} {r : Option Nat} (h : TwoS w b x y) (hg : w.grownBy w' r) (hne : r ≠ some b) : TwoS w' b x y := ⟨(hg.block b h.lt (fun e => hne e.symm)).trans h.row⟩
theorem TwoS.set0 {w : World} {b : Nat} {x y : Value} (h : TwoS w b x y) (u : Value) : TwoS (w.setCell ⟨b, 0, none⟩ u) b u y := ⟨by
  have := row_setI h.row 0 u
  simpa using this⟩
theorem ne_box {w : World} {B n b : Nat} {v x y : Value} {xs : List Value} (h : w.ownsRow B 3 1 v n xs) (hT : TwoS w b x y) : v.ownBlock ≠ some b := by
  intro e
  rcases h.2 with ⟨rfl, _⟩ | ⟨g, cap, cur, rfl, _, hg, _⟩
  · cases e
  · have e' : g = b := by injection e
    subst e'
    rw [hT.row] at hg
    injection hg with hg
    injection hg with _ ht
    exact absurd ht (by decide)
theorem grown_set {w : World} {b i : Nat} (u : Value) : w.grownBy (w.setCell ⟨b, i, none⟩ u) (some b) :=
  ⟨rfl, rfl, rfl, by simp [World.setCell], fun k hk hne => Below.heap_setCell w ⟨b, i, none⟩ u k (fun e => hne (by rw [show k = b from e]))⟩
theorem past_set {B b i : Nat} {a w : World} (h : Past B a w) (hb : B ≤ b) (u : Value) : Past B a (w.setCell ⟨b, i, none⟩ u) :=
  h.trans (Past.of_within (within_set (Within.refl b (b + 1) w) (Nat.le_refl _) (Nat.lt_succ_self _) i u) hb)

theorem liesTo_at {s : ByteArray} {j k : Nat} (hj : j = k + 2) (h : j < s.size) : liesTo s (k + 1) = liesTo s k ++ [lieB s[j]] := by
  subst hj
  exact liesTo_succ h
theorem upTo_at {s : ByteArray} {j k : Nat} (hu : UpTo s k) (hj : j = k + 2) (h : j < s.size) (hb : s[j] = 45 ∨ 48 ≤ s[j].toNat) : UpTo s (k + 1) := by
  subst hj
  intro i hi hlt
  by_cases e : i = k
  · subst e; exact hb
  · exact hu i hi (by omega)
theorem upTo_bad {s : ByteArray} {j k : Nat} (hj : j = k + 2) (h : j < s.size) (h1 : s[j].toNat ≠ 45) (h2 : s[j].toNat < 48) : ¬ Good s := by
  subst hj
  intro hg
  rcases hg.all k h (by omega) with e | e
  · exact h1 (by rw [e]; rfl)
  · omega
theorem res_wide {w : World} {lo hi lo' : Nat} {A : Option Addr} {zs : List Int} (h : Res w lo hi A zs) (h1 : lo' ≤ lo) (h2 : hi ≤ w.heap.size) : Res w lo' w.heap.size A zs :=
  ⟨by
    rcases h.own with ⟨a, b⟩ | ⟨g, cur, a, b, c, d⟩
    · exact .inl ⟨a, b⟩
    · exact .inr ⟨g, cur, a, Nat.le_trans h1 b, Nat.lt_of_lt_of_le c h2, d⟩, Nat.le_refl _⟩
theorem past_le {B B' : Nat} {a b : World} (h : Past B a b) (hb : B' ≤ B) : Past B' a b := ⟨h.os, h.tape, h.output, h.size, fun i h1 h2 => h.block i h1 (by omega)⟩
theorem good_ends {s : ByteArray} (h : Good s) : inB (s.size : Int) 3 14 = true := inB_t (by have := h.lo; omega) (by have := h.hi; omega)

end Go.Proofs.Ythpnkeecpaflfaa
namespace Go.Proofs.Ythpnkeecpaflfaa
open Go.RowKit Go.ChangeShapes Go.WideShapes
set_option linter.unusedVariables false

theorem far_same {w w' : World} {b i : Nat} (hg : w.grownBy w' (some b)) (hi : i < w.heap.size) (hne : i ≠ b) : w'.heap[i]? = w.heap[i]? := hg.block i hi (fun e => hne (by injection e))
theorem TwoS.far {w w' : World} {b i : Nat} {x y : Value} (h : TwoS w i x y) (hg : w.grownBy w' (some b)) (hne : i ≠ b) : TwoS w' i x y := ⟨(far_same hg h.lt hne).trans h.row⟩
theorem Own.far {w w' : World} {b lo hi : Nat} {A : Option Addr} {zs : List Int} (h : Own w lo hi A zs) (hg : w.grownBy w' (some b)) (hb : b < lo) : Own w' lo hi A zs := by
  rcases h with h | ⟨g, cur, rfl, h1, h2, hr, h3, h4⟩
  · exact .inl h
  · exact .inr ⟨g, cur, rfl, h1, h2, (far_same hg (row_ltI hr) (by omega)).trans hr, h3, h4⟩
/-- A place of a row of one's own. -/
theorem own_place {w : World} {lo hi k : Nat} {A : Option Addr} {l : List Int} (h : Own w lo hi A l) (hk : k < l.length) :
    ∃ g cur, A = some ⟨g, 0, none⟩ ∧ lo ≤ g ∧ w.heap[g]? = some (.cells cur 3 (0, 0)) ∧ w.cell? ⟨g, k, none⟩ = some (.int .i64 (l.getD k 0)) ∧ ∀ v : Int, Own (w.setCell ⟨g, k, none⟩ (.int .i64 v)) lo hi (some ⟨g, 0, none⟩) (l.set k v) := by
  rcases h with ⟨_, rfl⟩ | ⟨g, cur, rfl, h1, h2, hr, h3, h4⟩
  · simp at hk
  · refine ⟨g, cur, rfl, h1, hr, ?_, fun v => .inr ⟨g, _, rfl, h1, h2, row_setI hr k _, by simpa using h3, fun j x hx => ?_⟩⟩
    · rw [row_cellI hr, h4 k l[k] (List.getElem?_eq_getElem hk)]
      simp [List.getD, hk]
    · rw [List.getElem?_set] at hx
      by_cases hj : k = j
      · subst hj
        rw [if_pos rfl, if_pos hk] at hx
        injection hx with hx
        subst hx
        have : k < cur.size := by omega
        simp [this]
      · rw [if_neg hj] at hx
        rw [Array.getElem?_setIfInBounds_ne hj]
        exact h4 j x hx
theorem row_ne_box {w : World} {g b : Nat} {cur : Array Value} {x y : Value} (h : w.heap[g]? = some (.cells cur 3 (0, 0))) (hT : TwoS w b x y) : g ≠ b := by
  rintro rfl
  rw [hT.row] at h
  injection h with h
  injection h with _ ht
  exact absurd ht (by decide)
theorem Cur.farset {w : World} {b n c k g i : Nat} {A : Option Addr} (h : Cur w b A n c k) (hg : b < g) (u : Value) : Cur (w.setCell ⟨g, i, none⟩ u) b A n c k := h.grown (grown_set u) (fun g' e => by injection e; omega)
theorem grown_set_far {a w : World} {b g i : Nat} (h : a.grownBy w (some b)) (hg : a.heap.size ≤ g) (u : Value) : a.grownBy (w.setCell ⟨g, i, none⟩ u) (some b) :=
  ⟨h.os, h.tape, h.output, by simpa [World.setCell] using h.size, fun j hj hne => (Below.heap_setCell w ⟨g, i, none⟩ u j (fun e => by have e' : j = g := e; omega)).trans (h.block j hj hne)⟩
theorem grown_own {a w w1 : World} {b B n : Nat} {v : Value} {xs : List Value} {e : TypeId} (h : a.grownBy w (some b)) (ho : w.ownsRow B e 1 v n xs) (hB : a.heap.size ≤ B) (hg : w.grownBy w1 v.ownBlock) : a.grownBy w1 (some b) :=
  ⟨hg.os.trans h.os, hg.tape.trans h.tape, hg.output.trans h.output, Nat.le_trans h.size hg.size, fun j hj hne => (hg.block j (Nat.lt_of_lt_of_le hj h.size) (fun e' => by have := ho.lt j e'.symm; omega)).trans (h.block j hj hne)⟩
theorem cur_own {w w1 : World} {b B n c k N : Nat} {A : Option Addr} {v : Value} {xs : List Value} {e : TypeId} (h : Cur w b A n c k) (ho : w.ownsRow B e 1 v N xs) (hB : b < B) (hg : w.grownBy w1 v.ownBlock) : Cur w1 b A n c k :=
  h.grown hg (fun g e' => by have := ho.lt g e'; omega)
theorem owns_far {w w' : World} {b B n : Nat} {v : Value} {xs : List Value} {e : TypeId} (h : w.ownsRow B e 1 v n xs) (hg : w.grownBy w' (some b)) (hb : b < B) : w'.ownsRow B e 1 v n xs :=
  h.kept hg (by
    cases hv : v.ownBlock with
    | none => exact .inl rfl
    | some g => exact .inr (fun e' => by injection e' with e'; have := h.lt g hv; omega))
theorem snoc_ex {w : World} {B g cap : Nat} {f : List Int} {x : Int} (h : w.ownsRow B 3 1 (.slice (some ⟨g, 0, none⟩) (f.length + 1) cap) (f.length + 1) (f.map (Value.int .i64) ++ [Value.int .i64 x])) :
    ∃ f2 : List Int, f2.length = f.length + 1 ∧ w.ownsRow B 3 1 (.slice (some ⟨g, 0, none⟩) f2.length cap) f2.length (f2.map (Value.int .i64)) :=
  ⟨f ++ [x], by simp, by simpa using h⟩
/-- What is drawn: a State, in memory of its own; the cursor goes on. -/
def StDrew (w : World) (b : Nat) (A : Option Addr) (n c k : Nat) (e : Ending) (w' : World) : Prop :=
  ∃ (zs : List Int) (B : Option Addr) (c' : Nat) (m : Int), e = .returned (.agg #[.slice B zs.length c', .int .i64 m]) ∧ zs.length ≤ 13 ∧ zs.length ≤ c' ∧ Res w' w.heap.size w'.heap.size B zs ∧ ∃ k2 : Nat, k2 ≤ k + 120 ∧ Cur w' b A n c k2 ∧ w.grownBy w' (some b)

set_option maxRecDepth 100000 in
set_option maxHeartbeats 8000000 in
theorem state_any (b : Nat) (A : Option Addr) (n c k : Nat) (w : World) (h : Cur w b A n c k) (hk : k ≤ 999000) (hn : n ≤ 65536) :
    Calls Try.prog 47 #[.pointer (some ⟨b, 0, none⟩)] w (StDrew w b A n c k) := by
  have hbw := h.lt
  have HC := Lib.hid (h.alloc (.cells #[.slice none 0 0, .int .i64 0] 26))
  have HR := Lib.hid (TwoS.new w (.slice none 0 0) (.int .i64 0) w.heap.size rfl)
  have HG := Lib.hid (only_alloc (World.grownBy.refl w (some b)) (.cells #[.slice none 0 0, .int .i64 0] 26))
  obtain ⟨i0, hi0, hy0, hy1, hy2⟩ := info_parts infoI3
  clear h
  go_enter Try.func47, Try.ntmps47
  go_wp2_with fail
  generalize w.alloc (.cells #[.slice none 0 0, .int .i64 0] 26) = wa at HC HR HG ⊢
  refine (lies_any b A n c k wa HC.out (by omega) hn).mono ?_
  rintro e w1 ⟨m, rfl, hm, k1, hk1, hc1, hg1⟩
  have HC1 := Lib.hid hc1
  have HR1 := Lib.hid (HR.out.far hg1 (by omega))
  have HG1 := Lib.hid (HG.out.trans hg1)
  have hmb : -1 ≤ m ∧ m ≤ 3 := of_decide_eq_true hm
  clear hc1 hg1 hm HC HR HG
  go_wp2_with fail
  refine (many_any b A n c k1 w1 HC1.out (by omega) hn).mono ?_
  rintro e w2 ⟨N0, rfl, hN, k2, hk2, hc2, hg2⟩
  have HC2 := Lib.hid hc2
  have HR2 := Lib.hid (HR1.out.far hg2 (by omega))
  have HG2 := Lib.hid (HG1.out.trans hg2)
  have hNb : 0 ≤ N0 ∧ N0 ≤ 13 := of_decide_eq_true hN
  obtain ⟨N, rfl⟩ : ∃ N : Nat, N0 = (N : Int) := ⟨N0.toNat, by omega⟩
  clear hc2 hg2 hN HC1 HR1 HG1
  have hbx : w.heap.size < w2.heap.size := HR2.out.lt
  have HO0 := Lib.hid ((O0_any w2 w2.heap.size (Nat.le_refl _)).alloc (.cells #[.slice (some ⟨w2.heap.size, 0, none⟩) 0 0, .int .i64 m] 26))
  have HT0 := Lib.hid (TwoS.new (w2.alloc (.cells #[] 3)) (.slice (some ⟨w2.heap.size, 0, none⟩) 0 0) (.int .i64 m) (w2.heap.size + 1) (by simp))
  have HR0 := Lib.hid ((HR2.out.step ((Below.refl _ _).alloc (Nat.le_refl _) (.cells #[] 3))).step ((Below.refl _ _).alloc (Nat.le_refl _) (.cells #[.slice (some ⟨w2.heap.size, 0, none⟩) 0 0, .int .i64 m] 26)))
  have HC0 := Lib.hid ((HC2.out.alloc (.cells #[] 3)).alloc (.cells #[.slice (some ⟨w2.heap.size, 0, none⟩) 0 0, .int .i64 m] 26))
  have HG0 := Lib.hid (only_alloc (only_alloc HG2.out (.cells #[] 3)) (.cells #[.slice (some ⟨w2.heap.size, 0, none⟩) 0 0, .int .i64 m] 26))
  go_wp2_with fail
  generalize (w2.alloc (.cells #[] 3)).alloc (.cells #[.slice (some ⟨w2.heap.size, 0, none⟩) 0 0, .int .i64 m] 26) = wd at HO0 HT0 HR0 HC0 HG0 ⊢
  clear HR2 HC2 HG2
  generalize w2.heap.size = rb at HO0 HT0 hbx ⊢
  go_loopw [6] (fun i wr => ∃ (j : Nat) (A' : Option Addr) (c1 : Nat) (f : List Int) (kk : Nat), j ≤ N ∧ i = .int .i64 (j : Int) ∧ Hid (f.length = j) ∧ kk ≤ k + 4 + 4 * j ∧ Hid (TwoS wr (rb + 1) (.slice A' f.length c1) (.int .i64 m)) ∧ Hid (wr.ownsRow rb 3 1 (.slice A' f.length c1) f.length (f.map (Value.int .i64))) ∧ Hid (TwoS wr w.heap.size (.slice none 0 0) (.int .i64 0)) ∧ Hid (Cur wr b A n c kk) ∧ Hid (w.grownBy wr (some b))) (fun i _ => N - (intOf i).toNat)
  case atStart => exact ⟨0, some ⟨rb, 0, none⟩, 0, [], k2, Nat.zero_le _, rfl, rfl, by omega, HT0, HO0, HR0, HC0, HG0⟩
  case round =>
    clear HO0 HT0 HR0 HC0 HG0
    obtain ⟨j, A', c1, f, kk, hj, rfl, HF, hkk, HT, HO, HR, HC, HG⟩ := hrel
    have hfl : f.length ≤ 13 := by rw [HF.out]; omega
    have h0 := HT.out.c0
    by_cases hlt : j < N
    · have hltI : (j : Int) < (N : Int) := by omega
      obtain ⟨M, hM, hM1, hM2⟩ : ∃ M : Nat, (M : Int) = (if m + 2 ≤ 1 then 1 else m + 2) ∧ 1 ≤ M ∧ M ≤ 5 := ⟨(if m + 2 ≤ 1 then 1 else m + 2).toNat, by split <;> omega, by split <;> omega, by split <;> omega⟩
      have HMX : Hid (∀ (y : Int) (W : World), y = m + 2 → Calls Try.prog 36 #[.int .i64 1, .int .i64 y] W fun e w' => e = .returned (.int .i64 (M : Int)) ∧ w' = W) := fun y W hy => by
        subst hy
        have := l1Most_any 1 (m + 2) W
        rwa [← hM] at this
      clear hM
      have hkr : b < rb := by omega
      have hne1 : rb + 1 ≠ b := by omega
      have hne2 : w.heap.size ≠ b := by omega
      have hmaxl : f.length + 1 ≤ maxLen := by unfold maxLen; omega
      have hbyt : (f.length + 1) * 8 ≤ 140737488355328 := by omega
      go_wp2_with fail
      go_region_law (first
        | (go_simp; go_at_call 66; refine (pick_any b A n c kp 6 _ HC3.out (by omega) hn (by omega) (by omega)).mono ?_; rintro e w4 ⟨v2, kp2, hv2, rfl, hkp2, hc4, hg4⟩; have HC4 := Lib.hid hc4; have hrb4 := Lib.hid (Nat.le_of_succ_le (Nat.le_of_lt (HT3.out.far hg4 hne1).lt)); have HT4 := Lib.hid (HT3.out.far hg4 hne1); have HR4 := Lib.hid (HR3.out.far hg4 hne2); have HO4 := Lib.hid (owns_far HO3.out hg4 hkr); have HG4 := Lib.hid (HG3.out.trans hg4); have g4 := HT4.out.c0; have g4a := fun o => (HT4.out.step ((Below.refl _ w4).alloc (Nat.le_refl _) o)).c0; clear hc4 hg4)
        | (go_simp; go_at_call 66; refine (pick_any b A n c kk M wr.drew HC.out (by omega) hn hM1 (by omega)).mono ?_; rintro e w3 ⟨v1, kp, hv1, rfl, hkp, hc3, hg3⟩; have hg3' : wr.grownBy w3 (some b) := ⟨hg3.os, hg3.tape, hg3.output, hg3.size, hg3.block⟩; have HC3 := Lib.hid hc3; have HT3 := Lib.hid (HT.out.far hg3' hne1); have HR3 := Lib.hid (HR.out.far hg3' hne2); have HO3 := Lib.hid (owns_far HO.out hg3' hkr); have HG3 := Lib.hid (HG.out.trans hg3'); have g3 := HT3.out.c0; clear hc3 hg3 hg3')
        | (go_simp; go_at_call 36; refine (HMX.out _ _ (by first | rfl | omega | exact IntWalk.i64_in _ (by omega))).mono ?_; rintro e w9 ⟨rfl, rfl⟩)
        | (rw [if_pos (by simp [Region.wanted])]; generalize hX : (IntKind.i64.wrap ((v1 : Int) - IntKind.i64.wrap ((v2 : Int) / 5))) = X; refine wp_append_lies (w4.alloc (.cells #[.int .i64 X] 3)) (.tmp 21) (.tmp 31) 24 rfl rb 3 i0 (.int .i64 0) 1 8 Try.underlying24 hi0 hy0 hy1 hy2 rfl (by decide) (.slice A' f.length c1) f.length (f.map (Value.int .i64)) rfl (HO4.out.alloc _) ⟨w4.heap.size, 0, none⟩ 1 1 [.int .i64 X] rfl rfl (cell_one_new _ _ _) (fun u hu => by rw [List.mem_singleton.1 hu]; rfl) (by decide) hmaxl hbyt (Nat.le_trans hrb4.out (Nat.le_of_lt (by simp))) _ rfl ?_; clear hX; intro g cap w5 hown hgrow hat hlt5; have HT5 := Lib.hid ((HT4.out.step ((Below.refl _ _).alloc (Nat.le_refl _) _)).grown hgrow (ne_box HO4.out HT4.out)); have HR5 := Lib.hid ((HR4.out.step ((Below.refl _ _).alloc (Nat.le_refl _) _)).grown hgrow (ne_box HO4.out HR4.out)); have HC5 := Lib.hid (cur_own (HC4.out.alloc _) (HO4.out.alloc _) hkr hgrow); have HG5 := Lib.hid (grown_own (only_alloc HG4.out _) (HO4.out.alloc _) (Nat.le_of_lt hbx) hgrow); obtain ⟨f2, hf2, hO5⟩ := snoc_ex hown; have HO5 := Lib.hid hO5; have HF2 := Lib.hid hf2; have q0 := HT5.out.c0; have q2 := HT5.out.f0; clear hown hgrow hat hlt5 hf2 hO5))
      all_goals
        go_wp2
        go_roundw
        case rel => exact ⟨j + 1, some ⟨g, 0, none⟩, cap, f2, kp2, by omega, by go_num, Lib.hid (show f2.length = j + 1 by rw [HF2.out, HF.out]), by omega, by rw [HF2.out]; exact HT5.out.set0 _, HO5.out.kept (grown_set _) (.inr (ne_box HO5.out HT5.out)), HR5.out.grown (grown_set _) (by intro e; injection e with e; omega), HC5.out.farset (by omega) _, grown_set_far HG5.out (by omega) _⟩
        case measure => simp [intOf]; omega
    · obtain rfl : j = N := by omega
      obtain ⟨A2, c2, hAc, hlc, hres⟩ := own_res HO.out rfl
      have hA : A2 = A' ∧ c2 = c1 := by injection hAc with h1 h2 h3; exact ⟨h1.symm, h3.symm⟩
      obtain ⟨rfl, rfl⟩ := hA
      have HW := Lib.hid hres.own
      have HH : Hid (wr.heap.size ≤ wr.heap.size) := Nat.le_refl _
      rw [HF.out] at HT hlc
      have hkr : b < rb := by omega
      have hne1 : rb + 1 ≠ b := by omega
      have hne2 : w.heap.size ≠ b := by omega
      clear hres hAc HO h0 hfl hlt
      go_wp2_with fail
      generalize hHH : wr.heap.size = H at HW HH
      have HH2 : Hid (H ≤ wr.heap.size) := Nat.le_of_eq hHH.symm
      clear HH hHH
      go_loopw [7] (fun i wq => ∃ (j2 : Nat) (f' : List Int) (kk' : Nat), j2 ≤ j ∧ i = .int .i64 (j2 : Int) ∧ Hid (f'.length = j) ∧ kk' ≤ k + 60 + 2 * j2 ∧ Hid (TwoS wq (rb + 1) (.slice A2 j c2) (.int .i64 m)) ∧ Hid (Own wq rb H A2 f') ∧ Hid (TwoS wq w.heap.size (.slice none 0 0) (.int .i64 0)) ∧ Hid (Cur wq b A n c kk') ∧ Hid (w.grownBy wq (some b)) ∧ Hid (H ≤ wq.heap.size)) (fun i _ => j - (intOf i).toNat)
      case atStart => exact ⟨0, f, kk, Nat.zero_le _, rfl, HF, by omega, HT, HW, HR, HC, HG, HH2⟩
      case round =>
        clear HT HW HR HC HG HH2 HF
        obtain ⟨j2, f', kk', hj2, rfl, HF, hkk2, HT, HW, HR, HC, HG, HH⟩ := hrel
        have h0 := HT.out.c0
        have h1 := HT.out.c1
        by_cases hlt : j2 < j
        · have hltI : (j2 : Int) < (j : Int) := by omega
          obtain ⟨g, cur, hA, hglo, hrow, hcell, hset⟩ := own_place HW.out (k := j2) (by rw [HF.out]; exact hlt)
          subst hA
          generalize hz : f'.getD j2 0 = z at hcell
          have hgx := row_ne_box hrow HT.out
          have hgr := row_ne_box hrow HR.out
          by_cases hgt : m < z
          · have HON := Lib.hid (one_any b A n c kk' 30 wr HC.out (by omega) hn (by omega) (by omega))
            go_wp2_with fail
            refine (HON.out).mono ?_
            rintro e w3 ⟨x, rfl, k3, hk3, hc3, hg3⟩
            have HC3 := Lib.hid hc3
            have HT3 := Lib.hid (HT.out.far hg3 hne1)
            have HR3 := Lib.hid (HR.out.far hg3 hne2)
            have HW3 := Lib.hid (HW.out.far hg3 hkr)
            have HG3 := Lib.hid (HG.out.trans hg3)
            have HH3 := Lib.hid (Nat.le_trans HH.out hg3.size)
            clear hc3 hg3 h0 h1 hcell hset hrow hz HON HT HR HW HG HH HC
            have h0 := HT3.out.c0
            have h1 := HT3.out.c1
            cases x
            · obtain ⟨g2, cur2, hA2, hglo2, hrow2, hcell2, hset2⟩ := own_place HW3.out (k := j2) (by rw [HF.out]; exact hlt)
              obtain rfl : g = g2 := by injection hA2 with hA2; injection hA2
              have hfr := row_freeI hrow2 j2
              have HW4 := Lib.hid (hset2 (-1))
              have HT4 : Hid (TwoS (w3.setCell ⟨g, j2, none⟩ (.int .i64 (-1))) (rb + 1) (.slice (some ⟨g, 0, none⟩) j c2) (.int .i64 m)) := HT3.out.grown (grown_set _) (fun e => hgx (by injection e))
              have HR4 : Hid (TwoS (w3.setCell ⟨g, j2, none⟩ (.int .i64 (-1))) w.heap.size (.slice none 0 0) (.int .i64 0)) := HR3.out.grown (grown_set _) (fun e => hgr (by injection e))
              have HC4 := Lib.hid (HC3.out.farset (g := g) (i := j2) (by omega) (.int .i64 (-1)))
              have HG4 := Lib.hid (grown_set_far (g := g) (i := j2) HG3.out (by omega) (.int .i64 (-1)))
              have HH4 : Hid (H ≤ (w3.setCell ⟨g, j2, none⟩ (.int .i64 (-1))).heap.size) := Nat.le_trans HH3.out (by simp [World.setCell])
              have HF4 : Hid ((f'.set j2 (-1)).length = j) := by show _ = _; rw [List.length_set]; exact HF.out
              clear hset2 hrow2
              go_wp2
              go_roundw
              case rel => exact ⟨j2 + 1, _, k3, by omega, by go_num, HF4, by omega, HT4, HW4, HR4, HC4, HG4, HH4⟩
              case measure => simp [intOf]; omega
            · go_wp2
              go_roundw
              case rel => exact ⟨j2 + 1, _, k3, by omega, by go_num, HF, by omega, HT3, HW3, HR3, HC3, HG3, HH3⟩
              case measure => simp [intOf]; omega
          · have hgt2 : z ≤ m := by omega
            clear hset hrow hz
            go_wp2
            go_roundw
            case rel => exact ⟨j2 + 1, _, kk', by omega, by go_num, HF, by omega, HT, HW, HR, HC, HG, HH⟩
            case measure => simp [intOf]; omega
        · obtain rfl : j2 = j := by omega
          have q0 := HR.out.c0
          have q1 := HR.out.c1
          have q2 := HR.out.f0
          have q3 := HR.out.f1
          go_wp2
          have HCf := (HC.out.farset (g := w.heap.size) (i := 0) hbw (.slice A2 j2 c2)).farset (g := w.heap.size) (i := 1) hbw (.int .i64 m)
          have HGf := grown_set_far (g := w.heap.size) (i := 1) (grown_set_far (g := w.heap.size) (i := 0) HG.out (Nat.le_refl _) (.slice A2 j2 c2)) (Nat.le_refl _) (.int .i64 m)
          obtain ⟨hs2, hw⟩ := stored2 HR.out.row (.slice A2 j2 c2) (.int .i64 m)
          generalize ((wr.setCell ⟨w.heap.size, 0, none⟩ (.slice A2 j2 c2)).setCell ⟨w.heap.size, 1, none⟩ (.int .i64 m)) = wf at hs2 hw HCf HGf ⊢
          have e0 := two0 hs2
          have e1 := two1 hs2
          refine bodyPost_ret (v := .agg #[.slice A2 j2 c2, .int .i64 m]) (by simp [results, go_sem, e0, e1]) rfl ?_
          have hlen := HF.out
          exact ⟨f', A2, c2, m, by rw [hlen], by omega, by omega, res_wide ⟨HW.out.within hw (.inr hbx), Nat.le_trans HH.out hw.size⟩ (by omega) (Nat.le_trans HH.out hw.size), kk', by omega, HCf, HGf⟩
end Go.Proofs.Ythpnkeecpaflfaa
namespace Go.Proofs.Ythpnkeecpaflfaa
open Go.RowKit Go.ChangeShapes Go.WideShapes
set_option linter.unusedVariables false

theorem codeQ_below {w w' : World} {A : Option Addr} {n : Nat} (h : Code w w.heap.size A n) (hb : Below w.heap.size w w') : Code w' w'.heap.size A n := fun h0 => by
  obtain ⟨b, o, e, h1, h2⟩ := h h0
  exact ⟨b, o, e, Nat.lt_of_lt_of_le h1 hb.size, fun j hj => by
    obtain ⟨z, hz⟩ := h2 j hj
    exact ⟨z, (hb.cell (p := ⟨b, o + j, none⟩) h1).trans hz⟩⟩
theorem grownQ_below {w w' : World} {b : Nat} (h : w.grownBy w' (some b)) {B : Nat} (hB : B ≤ b) (hs : B ≤ w.heap.size) : Below B w w' :=
  ⟨h.os, h.tape, h.output, h.size, fun j hj => h.block j (by omega) (fun e => by injection e; omega)⟩
/-- A State that is drawn. -/
def DrewSt (w : World) (e : Ending) (w' : World) : Prop :=
  ∃ (zs : List Int) (B : Option Addr) (c' : Nat) (m : Int), e = .returned (.agg #[.slice B zs.length c', .int .i64 m]) ∧ zs.length ≤ 13 ∧ Res w' w.heap.size w'.heap.size B zs ∧ Below w.heap.size w w'
set_option maxRecDepth 100000 in
set_option maxHeartbeats 4000000 in
theorem drawIS_any (A : Option Addr) (n c : Nat) (w : World) (h : Code w w.heap.size A n) (hn : n ≤ 65536) :
    Calls Try.prog 20 #[.slice A n c] w (DrewSt w) := by
  have B1 := (Below.refl w.heap.size w).alloc (Nat.le_refl _) (.cells #[.slice none 0 0, .int .i64 0] 26)
  have HR := Lib.hid (TwoS.new w (.slice none 0 0) (.int .i64 0) w.heap.size rfl)
  have HC0 := Lib.hid (Cur.new (c := c) (codeQ_below h B1))
  have HR1 := Lib.hid (HR.out.step ((Below.refl _ _).alloc (Nat.le_refl _) (.cells #[.slice A n c, .int .i64 0, .int .u64 0] 59)))
  have HB1 := Lib.hid (below_trans B1 ((Below.refl _ _).alloc (Nat.le_refl _) (.cells #[.slice A n c, .int .i64 0, .int .u64 0] 59)))
  have hsz : (w.alloc (.cells #[.slice none 0 0, .int .i64 0] 26)).heap.size = w.heap.size + 1 := by simp
  rw [hsz] at HC0
  clear h B1 HR hsz
  go_enter Try.func20, Try.ntmps20
  go_wp2_with fail
  generalize (w.alloc (.cells #[.slice none 0 0, .int .i64 0] 26)).alloc (.cells #[.slice A n c, .int .i64 0, .int .u64 0] 59) = wa at HC0 HR1 HB1 ⊢
  refine (state_any (w.heap.size + 1) A n c 0 wa HC0.out (by omega) hn).mono ?_
  rintro e wb ⟨zs, B, c', m, rfl, hzl, hzc, hres, k1, hk1, hc1, hg1⟩
  have hlo : w.heap.size + 1 < wa.heap.size := HC0.out.lt
  have HR2 := Lib.hid (HR1.out.far hg1 (by omega))
  have HS2 := Lib.hid hres
  have HB2 := Lib.hid (HB1.out.trans (grownQ_below hg1 (Nat.le_succ _) HB1.out.size))
  have q0 := HR2.out.c0
  have q1 := HR2.out.c1
  have q2 := HR2.out.f0
  have q3 := HR2.out.f1
  clear hc1 hg1 hres HC0 HR1 HB1
  go_wp2
  obtain ⟨hs2, hw⟩ := stored2 HR2.out.row (.slice B zs.length c') (.int .i64 m)
  generalize ((wb.setCell ⟨w.heap.size, 0, none⟩ (.slice B zs.length c')).setCell ⟨w.heap.size, 1, none⟩ (.int .i64 m)) = wf at hs2 hw ⊢
  have e0 := two0 hs2
  have e1 := two1 hs2
  refine bodyPost_ret (v := .agg #[.slice B zs.length c', .int .i64 m]) (by simp [results, go_sem, e0, e1]) rfl ?_
  exact ⟨zs, B, c', m, rfl, hzl, res_wide ⟨HS2.out.own.within hw (.inr (Nat.le_of_lt hlo)), Nat.le_trans HS2.out.top hw.size⟩ (by omega) (Nat.le_trans HS2.out.top hw.size), HB2.out.trans (hw.below (Nat.le_refl _) HB2.out.size)⟩
set_option maxRecDepth 100000 in
set_option maxHeartbeats 4000000 in
theorem drawBQ_any (A : Option Addr) (n c : Nat) (w : World) (h : Code w w.heap.size A n) (hn : n ≤ 65536) :
    Calls Try.prog 5 #[.slice A n c] w (DrewSt w) := by
  have B1 := (Below.refl w.heap.size w).alloc (Nat.le_refl _) (.cells #[.slice none 0 0, .int .i64 0] 26)
  have HB1 := Lib.hid B1
  have HR := Lib.hid (TwoS.new w (.slice none 0 0) (.int .i64 0) w.heap.size rfl)
  have HC := Lib.hid (codeQ_below h B1)
  have HSZ : Hid ((w.alloc (.cells #[.slice none 0 0, .int .i64 0] 26)).heap.size = w.heap.size + 1) := by show _ = _; simp
  clear h B1
  go_enter Try.func5, Try.ntmps5
  go_wp2_with fail
  generalize w.alloc (.cells #[.slice none 0 0, .int .i64 0] 26) = wa at HC HR HB1 HSZ ⊢
  refine (drawIS_any A n c wa HC.out hn).mono ?_
  rintro e wb ⟨zs, B, c', m, rfl, hzl, hres, hb⟩
  have HS := Lib.hid hres
  have HR2 := Lib.hid (HR.out.step hb)
  have HB2 := Lib.hid (below_trans HB1.out hb)
  have q0 := HR2.out.c0
  have q1 := HR2.out.c1
  have q2 := HR2.out.f0
  have q3 := HR2.out.f1
  clear hb hres HR HB1 HC
  go_wp2
  obtain ⟨hs2, hw⟩ := stored2 HR2.out.row (.slice B zs.length c') (.int .i64 m)
  generalize ((wb.setCell ⟨w.heap.size, 0, none⟩ (.slice B zs.length c')).setCell ⟨w.heap.size, 1, none⟩ (.int .i64 m)) = wf at hs2 hw ⊢
  have e0 := two0 hs2
  have e1 := two1 hs2
  refine bodyPost_ret (v := .agg #[.slice B zs.length c', .int .i64 m]) (by simp [results, go_sem, e0, e1]) rfl ?_
  have hlo : w.heap.size + 1 ≤ wa.heap.size := Nat.le_of_eq HSZ.out.symm
  exact ⟨zs, B, c', m, rfl, hzl, res_wide (HS.out.within hw (.inr hlo)) (by omega) (Nat.le_trans HS.out.top hw.size), HB2.out.trans (hw.below (Nat.le_refl _) HB2.out.size)⟩
set_option maxRecDepth 100000 in
set_option maxHeartbeats 4000000 in
theorem drawNT_any (A : Option Addr) (n c : Nat) (w : World) (h : Code w w.heap.size A n) (hn : n ≤ 65536) :
    Calls Try.prog 14 #[.slice A n c] w fun e w' => ∃ x : Int, e = .returned (.int .i64 x) ∧ Below w.heap.size w w' := by
  have HC := Lib.hid (Cur.new (c := c) h)
  have HB := Lib.hid ((Below.refl w.heap.size w).alloc (Nat.le_refl _) (.cells #[.slice A n c, .int .i64 0, .int .u64 0] 59))
  clear h
  go_enter Try.func14, Try.ntmps14
  go_wp2_with fail
  generalize w.alloc (.cells #[.slice A n c, .int .i64 0, .int .u64 0] 59) = wa at HC HB ⊢
  refine (lies_any w.heap.size A n c 0 wa HC.out (by omega) hn).mono ?_
  rintro e wb ⟨x, rfl, hx, k2, hk2, hc1, hg1⟩
  have HB2 := Lib.hid (HB.out.trans (grownQ_below hg1 (Nat.le_refl _) HB.out.size))
  clear hc1 hg1 hx
  go_wp2
  go_ret
  exact ⟨x, rfl, HB2.out⟩
set_option maxRecDepth 100000 in
set_option maxHeartbeats 4000000 in
theorem drawMN_any (A : Option Addr) (n c : Nat) (w : World) (h : Code w w.heap.size A n) (hn : n ≤ 65536) :
    Calls Try.prog 11 #[.slice A n c] w fun e w' => ∃ x y : Int, e = .returned (.tuple #[.int .i64 x, .int .i64 y]) ∧ Below w.heap.size w w' := by
  have HC := Lib.hid (Cur.new (c := c) h)
  have HB := Lib.hid ((Below.refl w.heap.size w).alloc (Nat.le_refl _) (.cells #[.slice A n c, .int .i64 0, .int .u64 0] 59))
  clear h
  go_enter Try.func11, Try.ntmps11
  go_wp2_with fail
  have hsa : (w.alloc (.cells #[.slice A n c, .int .i64 0, .int .u64 0] 59)).heap.size = w.heap.size + 1 := by simp
  generalize w.alloc (.cells #[.slice A n c, .int .i64 0, .int .u64 0] 59) = wa at HC HB hsa ⊢
  rw [← hsa]
  refine (amongP_any anyP w.heap.size A n c 0 13 wa.heap.size 13 _ (HC.out.alloc _) (by omega) hn (by omega) (by omega) ?hL (by omega) (by simp)).mono ?_
  case hL => exact list_num wa _ _ 13 (Nat.le_refl _) rfl
  rintro e w1 ⟨x, rfl, hx, k1, hk1, hc1, hg1⟩
  have hg1' := (only_alloc (World.grownBy.refl wa (some w.heap.size)) _).trans hg1
  have HC1 := Lib.hid hc1
  have HB1 := Lib.hid (HB.out.trans (grownQ_below hg1' (Nat.le_refl _) HB.out.size))
  clear hc1 hg1 hg1' hx HC
  go_wp2_with fail
  refine (lies_any w.heap.size A n c k1 w1 HC1.out (by omega) hn).mono ?_
  rintro e wb ⟨y, rfl, hy, k2, hk2, hc1, hg1⟩
  have HB2 := Lib.hid (HB1.out.trans (grownQ_below hg1 (Nat.le_refl _) HB1.out.size))
  clear hc1 hg1 hy
  go_wp2
  go_ret2
  exact ⟨x, y, rfl, HB2.out⟩
theorem Two.farQ {w w' : World} {b i : Nat} {x y : Value} {t : TypeId} (h : Two w i x y t) (hg : w.grownBy w' (some b)) (hne : i ≠ b) : Two w' i x y t := ⟨(far_same hg h.lt hne).trans h.row⟩
theorem TwoS.fs {w : World} {b g i : Nat} {x y u : Value} (h : TwoS w b x y) (hne : g ≠ b) : TwoS (w.setCell ⟨g, i, none⟩ u) b x y := h.grown (grown_set u) (fun e => hne (by injection e))
/-- The slots of DrawAnswerState's region that draws, and what holds on the way. -/
structure AInv (w : World) (bx lo hi : Nat) (A : Option Addr) (n c k : Nat) (B : Option Addr) (zs : List Int) (c' : Nat) (m : Int) (y : Bool) (D : Nat → Bool) (v14 v15 v16 v17 v18 v19 v20 v21 : Value) (W : World) : Prop where
  s14 : D 0 = true → v14 = .agg #[.slice B zs.length c', .int .i64 m]
  s15 : D 1 = true → v15 = .pointer (some ⟨w.heap.size + 2, 0, none⟩)
  s16 : D 2 = true → v16 = .pointer (some ⟨bx, 0, none⟩)
  s17 : D 3 = true → v17 = .slice B zs.length c'
  s18 : D 4 = true → v18 = .int .i64 (zs.length : Int)
  s19 : D 5 = true → ∃ q : Int, v19 = .int .i64 q
  s20 : D 6 = true → v20 = .bool y
  s21 : D 7 = true → ∃ q : Int, v21 = .agg #[.int .i64 q, .bool y]
  wX : TwoS W bx (.slice B zs.length c') (.int .i64 m)
  wR : D 8 = false → TwoS W w.heap.size (.slice none 0 0) (.int .i64 0)
  wR2 : D 8 = true → TwoS W w.heap.size (.slice B zs.length c') (.int .i64 m)
  wA : D 9 = false → Two W (w.heap.size + 1) (.int .i64 0) (.bool false) 79
  wA2 : D 9 = true → ∃ q : Int, Two W (w.heap.size + 1) (.int .i64 q) (.bool y) 79
  wO : Own W lo hi B zs
  wB : Below w.heap.size w W
  top : hi ≤ W.heap.size
  wC : D 5 = false → Cur W (w.heap.size + 2) A n c k
  o5 : D 8 = true → D 5 = true
  o8 : D 9 = true → D 8 = true
  o9 : bx ≠ w.heap.size ∧ bx ≠ w.heap.size + 1 ∧ bx ≠ w.heap.size + 2 ∧ w.heap.size + 2 < lo
def aAct (x0 x2 x3 x4 x5 x6 x7 x8 x9 x10 x11 x12 x13 v14 v15 v16 v17 v18 v19 v20 v21 : Value) : Act :=
  { tmps := #[x0, undef, x2, x3, x4, x5, x6, x7, x8, x9, x10, x11, x12, x13, v14, v15, v16, v17, v18, v19, v20, v21], defers := [] }
theorem notQ_of {D : Nat → Bool} {i j : Nat} (h : D i = true → D j = true) (hj : D j = false) : D i = false := by
  rcases Bool.eq_false_or_eq_true (D i) with h1 | h1
  · rw [h h1] at hj; cases hj
  · exact h1
theorem Two.fs {w : World} {b g i : Nat} {x y u : Value} {t : TypeId} (h : Two w b x y t) (hne : g ≠ b) : Two (w.setCell ⟨g, i, none⟩ u) b x y t := ⟨(Below.heap_setCell w ⟨g, i, none⟩ u b (fun e => hne (by have e' : b = g := e; exact e'.symm))).trans h.row⟩
theorem Own.fs {w : World} {lo hi g i : Nat} {B : Option Addr} {zs : List Int} {u : Value} (h : Own w lo hi B zs) (hg : g < lo) : Own (w.setCell ⟨g, i, none⟩ u) lo hi B zs := by
  rcases h with h | ⟨g', cur, rfl, h1, h2, hr, h3, h4⟩
  · exact .inl h
  · exact .inr ⟨g', cur, rfl, h1, h2, (Below.heap_setCell w ⟨g, i, none⟩ u g' (fun e => by have e' : g' = g := e; omega)).trans hr, h3, h4⟩
theorem belowQ_set {w W : World} {g i : Nat} {u : Value} (h : Below w.heap.size w W) (hg : w.heap.size ≤ g) : Below w.heap.size w (W.setCell ⟨g, i, none⟩ u) :=
  ⟨h.os, h.tape, h.output, by simpa [World.setCell] using h.size, fun j hj => (Below.heap_setCell W ⟨g, i, none⟩ u j (fun e => by have e' : j = g := e; omega)).trans (h.block j hj)⟩
/-- A State and an answer that are drawn. -/
def DrewSA (w : World) (e : Ending) (w' : World) : Prop :=
  ∃ (zs : List Int) (B : Option Addr) (c' : Nat) (m q : Int) (y : Bool), e = .returned (.tuple #[.agg #[.slice B zs.length c', .int .i64 m], .agg #[.int .i64 q, .bool y]]) ∧ zs.length ≤ 13 ∧ Res w' w.heap.size w'.heap.size B zs ∧ Below w.heap.size w w'
set_option maxRecDepth 100000 in
set_option maxHeartbeats 2000000 in
theorem drawAS_any (A : Option Addr) (n c : Nat) (w : World) (h : Code w w.heap.size A n) (hn : n ≤ 65536) :
    Calls Try.prog 51 #[.slice A n c] w (DrewSA w) := by
  have B1 := (Below.refl w.heap.size w).alloc (Nat.le_refl _) (.cells #[.slice none 0 0, .int .i64 0] 26)
  have h1 := codeQ_below h B1
  have hR := TwoS.new w (.slice none 0 0) (.int .i64 0) w.heap.size rfl
  have hsz : (w.alloc (.cells #[.slice none 0 0, .int .i64 0] 26)).heap.size = w.heap.size + 1 := by simp
  generalize hwA : w.alloc (.cells #[.slice none 0 0, .int .i64 0] 26) = wA at B1 h1 hR hsz
  have B2 := (Below.refl wA.heap.size wA).alloc (Nat.le_refl _) (.cells #[.int .i64 0, .bool false] 79)
  have h2 := codeQ_below h1 B2
  have hR2 := hR.step B2
  have hA2 := Two.new wA (.int .i64 0) (.bool false) 79 (w.heap.size + 1) hsz.symm
  have hB2 := below_trans B1 B2
  have hsz2 : (wA.alloc (.cells #[.int .i64 0, .bool false] 79)).heap.size = w.heap.size + 2 := by simp [hsz]
  generalize hwB : wA.alloc (.cells #[.int .i64 0, .bool false] 79) = wB at h2 hR2 hA2 hB2 hsz2
  have B3 := (Below.refl wB.heap.size wB).alloc (Nat.le_refl _) (.cells #[.slice A n c, .int .i64 0, .int .u64 0] 59)
  have HC0 := Lib.hid (Cur.new (c := c) h2)
  rw [hsz2] at HC0
  have HR1 := Lib.hid (hR2.step B3)
  have HA1 := Lib.hid (hA2.step B3)
  have HB1 := Lib.hid (below_trans hB2 B3)
  subst hwB
  subst hwA
  clear h h1 h2 B1 B2 B3 hR hR2 hA2 hB2 hsz hsz2
  go_enter Try.func51, Try.ntmps51
  go_wp2_with fail
  generalize ((w.alloc (.cells #[.slice none 0 0, .int .i64 0] 26)).alloc (.cells #[.int .i64 0, .bool false] 79)).alloc (.cells #[.slice A n c, .int .i64 0, .int .u64 0] 59) = wa at HC0 HR1 HA1 HB1 ⊢
  try rw [show w.heap.size + 1 + 1 = w.heap.size + 2 from rfl]
  refine (state_any (w.heap.size + 2) A n c 0 wa HC0.out (by omega) hn).mono ?_
  rintro e wb ⟨zs, B, c', m, rfl, hzl, hzc, hres, k1, hk1, hc1, hg1⟩
  have hbl := HC0.out.lt
  have A2 := (Below.refl wb.heap.size wb).alloc (Nat.le_refl _) (.cells #[.slice B zs.length c', .int .i64 m] 26)
  have HX := Lib.hid (TwoS.new wb (.slice B zs.length c') (.int .i64 m) wb.heap.size rfl)
  have HC1 := Lib.hid (hc1.alloc (.cells #[.slice B zs.length c', .int .i64 m] 26))
  have HR2 := Lib.hid ((HR1.out.far hg1 (by omega)).step A2)
  have HA2 := Lib.hid ((HA1.out.farQ hg1 (by omega)).step A2)
  have HS2 := Lib.hid (hres.step A2)
  have HB2 := Lib.hid (below_trans (HB1.out.trans (grownQ_below hg1 (by omega) HB1.out.size)) A2)
  have hbb : w.heap.size + 2 < wb.heap.size := Nat.lt_of_lt_of_le hbl hg1.size
  clear hc1 hg1 hres A2 HC0 HR1 HA1 HB1
  go_wp2_with fail
  generalize wb.alloc (.cells #[.slice B zs.length c', .int .i64 m] 26) = wc at HX HC1 HR2 HA2 HS2 HB2 ⊢
  generalize hbx : wb.heap.size = bx at HX hbb ⊢
  have hne1 : bx ≠ w.heap.size + 2 := by omega
  have hne2 : w.heap.size ≠ w.heap.size + 2 := by omega
  have hne3 : w.heap.size + 1 ≠ w.heap.size + 2 := by omega
  have hlo : w.heap.size + 2 < wa.heap.size := hbl
  have hB0w : w.heap.size ≤ wa.heap.size := by omega
  have hx1 : w.heap.size ≠ bx := by omega
  have hx2 : w.heap.size + 1 ≠ bx := by omega
  have hzs : zs.length ≤ 1048576 := by omega
  refine (one_any (w.heap.size + 2) A n c k1 2 wc HC1.out (by omega) hn (by omega) (by omega)).mono ?_
  rintro e w2 ⟨y, rfl, k2, hk2, hc2, hg2⟩
  have HC2 := Lib.hid hc2
  have HX2 := Lib.hid (HX.out.far hg2 hne1)
  have HR3 := Lib.hid (HR2.out.far hg2 hne2)
  have HA3 := Lib.hid (HA2.out.farQ hg2 hne3)
  have HO3 := Lib.hid (HS2.out.own.far hg2 hlo)
  have HB3 := Lib.hid (HB2.out.trans (grownQ_below hg2 (by omega) HB2.out.size))
  have htop3 : wb.heap.size ≤ w2.heap.size := Nat.le_trans HS2.out.top hg2.size
  clear hc2 hg2 HX HC1 HR2 HA2 HS2 HB2
  go_wp2_with fail
  refine wp_region_inv (by kernel_rfl) (by kernel_rfl) (fun D Ac W => ∃ v14 v15 v16 v17 v18 v19 v20 v21, Ac = aAct (.slice A n c) (.pointer (some ⟨w.heap.size, 0, none⟩)) (.pointer (some ⟨w.heap.size + 1, 0, none⟩)) (.pointer (some ⟨w.heap.size + 2, 0, none⟩)) (.pointer (some ⟨bx, 0, none⟩)) (.bool y) (.slice A n c) (.agg #[.slice A n c, .int .i64 0, .int .u64 0]) (.pointer (some ⟨w.heap.size + 2, 0, none⟩)) (.pointer (some ⟨w.heap.size + 2, 0, none⟩)) (.agg #[.slice B zs.length c', .int .i64 m]) (.pointer (some ⟨w.heap.size + 2, 0, none⟩)) (.bool y) v14 v15 v16 v17 v18 v19 v20 v21 ∧ AInv w bx wa.heap.size wb.heap.size A n c k2 B zs c' m y D v14 v15 v16 v17 v18 v19 v20 v21 W) ?h0 ?hs ?hd
  case h0 =>
    have hdr : Below w2.heap.size w2 w2.drew := (Below.refl _ w2).drew
    exact ⟨_, _, _, _, _, _, _, _, rfl, ⟨nofun, nofun, nofun, nofun, nofun, nofun, nofun, nofun, HX2.out.step hdr, fun _ => HR3.out.step hdr, nofun, fun _ => HA3.out.step hdr, nofun, HO3.out.below hdr htop3, below_trans HB3.out hdr, htop3, fun _ => HC2.out.grown (row := none) ⟨rfl, rfl, rfl, Nat.le_refl _, fun _ _ _ => rfl⟩ (fun g e => by cases e), nofun, nofun, ⟨Ne.symm hx1, Ne.symm hx2, hne1, hlo⟩⟩⟩
  case hs =>
    rintro D _ W ⟨v14, v15, v16, v17, v18, v19, v20, v21, rfl, hI⟩ i o ho hD hA K hK
    have hi : i < 10 := (Array.getElem?_eq_some_iff.1 ho).1
    have HI := Lib.hid hI
    have HK := Lib.hid hK
    clear hI hK
    obtain rfl | rfl | rfl | rfl | rfl | rfl | rfl | rfl | rfl | rfl : i = 0 ∨ i = 1 ∨ i = 2 ∨ i = 3 ∨ i = 4 ∨ i = 5 ∨ i = 6 ∨ i = 7 ∨ i = 8 ∨ i = 9 := by omega
    all_goals (obtain rfl := Option.some.inj ho; clear ho hi; simp [Region.binds] at hA; unfold aAct)
    · have c0 := HI.out.wX.c0
      have c1 := HI.out.wX.c1
      go_simp
      exact HK.out _ _ ⟨_, _, _, _, _, _, _, _, rfl, ⟨(fun _ => rfl), (by simpa using HI.out.s15), (by simpa using HI.out.s16), (by simpa using HI.out.s17), (by simpa using HI.out.s18), (by simpa using HI.out.s19), (by simpa using HI.out.s20), (by simpa using HI.out.s21), HI.out.wX, (by simpa using HI.out.wR), (by simpa using HI.out.wR2), (by simpa using HI.out.wA), (by simpa using HI.out.wA2), HI.out.wO, HI.out.wB, HI.out.top, (by simpa using HI.out.wC), (by simpa using HI.out.o5), (by simpa using HI.out.o8), HI.out.o9⟩⟩
    · go_simp
      exact HK.out _ _ ⟨_, _, _, _, _, _, _, _, rfl, ⟨(by simpa using HI.out.s14), (fun _ => rfl), (by simpa using HI.out.s16), (by simpa using HI.out.s17), (by simpa using HI.out.s18), (by simpa using HI.out.s19), (by simpa using HI.out.s20), (by simpa using HI.out.s21), HI.out.wX, (by simpa using HI.out.wR), (by simpa using HI.out.wR2), (by simpa using HI.out.wA), (by simpa using HI.out.wA2), HI.out.wO, HI.out.wB, HI.out.top, (by simpa using HI.out.wC), (by simpa using HI.out.o5), (by simpa using HI.out.o8), HI.out.o9⟩⟩
    · go_simp
      exact HK.out _ _ ⟨_, _, _, _, _, _, _, _, rfl, ⟨(by simpa using HI.out.s14), (by simpa using HI.out.s15), (fun _ => rfl), (by simpa using HI.out.s17), (by simpa using HI.out.s18), (by simpa using HI.out.s19), (by simpa using HI.out.s20), (by simpa using HI.out.s21), HI.out.wX, (by simpa using HI.out.wR), (by simpa using HI.out.wR2), (by simpa using HI.out.wA), (by simpa using HI.out.wA2), HI.out.wO, HI.out.wB, HI.out.top, (by simpa using HI.out.wC), (by simpa using HI.out.o5), (by simpa using HI.out.o8), HI.out.o9⟩⟩
    · obtain rfl := HI.out.s16 hA
      have c0 := HI.out.wX.c0
      go_simp
      exact HK.out _ _ ⟨_, _, _, _, _, _, _, _, rfl, ⟨(by simpa using HI.out.s14), (by simpa using HI.out.s15), (fun _ => rfl), (fun _ => rfl), (by simpa using HI.out.s18), (by simpa using HI.out.s19), (by simpa using HI.out.s20), (by simpa using HI.out.s21), HI.out.wX, (by simpa using HI.out.wR), (by simpa using HI.out.wR2), (by simpa using HI.out.wA), (by simpa using HI.out.wA2), HI.out.wO, HI.out.wB, HI.out.top, (by simpa using HI.out.wC), (by simpa using HI.out.o5), (by simpa using HI.out.o8), HI.out.o9⟩⟩
    · obtain rfl := HI.out.s17 hA
      go_simp
      exact HK.out _ _ ⟨_, _, _, _, _, _, _, _, rfl, ⟨(by simpa using HI.out.s14), (by simpa using HI.out.s15), (by simpa using HI.out.s16), (fun _ => rfl), (fun _ => rfl), (by simpa using HI.out.s19), (by simpa using HI.out.s20), (by simpa using HI.out.s21), HI.out.wX, (by simpa using HI.out.wR), (by simpa using HI.out.wR2), (by simpa using HI.out.wA), (by simpa using HI.out.wA2), HI.out.wO, HI.out.wB, HI.out.top, (by simpa using HI.out.wC), (by simpa using HI.out.o5), (by simpa using HI.out.o8), HI.out.o9⟩⟩
    · obtain rfl := HI.out.s15 hA.1
      obtain rfl := HI.out.s18 hA.2
      have h8 := notQ_of HI.out.o5 hD
      have h9 := notQ_of HI.out.o8 h8
      obtain ⟨n1, n2, n3, n4⟩ := HI.out.o9
      go_simp
      refine (question_any (w.heap.size + 2) A n c k2 zs.length W (HI.out.wC hD) (by omega) hn hzs).mono ?_
      rintro e w4 ⟨kq, rfl, hkq, k3, hk3, hc3, hg3⟩
      exact HK.out _ _ ⟨_, _, _, _, _, _, _, _, rfl, ⟨(by simpa using HI.out.s14), (fun _ => rfl), (by simpa using HI.out.s16), (by simpa using HI.out.s17), (fun _ => rfl), (fun _ => ⟨kq, rfl⟩), (by simpa using HI.out.s20), (by simpa using HI.out.s21), (HI.out.wX.far hg3 n3), (fun _ => (HI.out.wR h8).far hg3 (by omega)), (fun h => by simp [h8] at h), (fun _ => (HI.out.wA h9).farQ hg3 (by omega)), (fun h => by simp [h9] at h), (HI.out.wO.far hg3 n4), (HI.out.wB.trans (grownQ_below hg3 (by omega) HI.out.wB.size)), (Nat.le_trans HI.out.top hg3.size), (fun h => by simp at h), (fun h => by simp [h8] at h), (fun h => by simp [h9] at h), HI.out.o9⟩⟩
    · go_simp
      exact HK.out _ _ ⟨_, _, _, _, _, _, _, _, rfl, ⟨(by simpa using HI.out.s14), (by simpa using HI.out.s15), (by simpa using HI.out.s16), (by simpa using HI.out.s17), (by simpa using HI.out.s18), (by simpa using HI.out.s19), (fun _ => rfl), (by simpa using HI.out.s21), HI.out.wX, (by simpa using HI.out.wR), (by simpa using HI.out.wR2), (by simpa using HI.out.wA), (by simpa using HI.out.wA2), HI.out.wO, HI.out.wB, HI.out.top, (by simpa using HI.out.wC), (by simpa using HI.out.o5), (by simpa using HI.out.o8), HI.out.o9⟩⟩
    · obtain ⟨q, rfl⟩ := HI.out.s19 hA.1
      obtain rfl := HI.out.s20 hA.2
      go_simp
      exact HK.out _ _ ⟨_, _, _, _, _, _, _, _, rfl, ⟨(by simpa using HI.out.s14), (by simpa using HI.out.s15), (by simpa using HI.out.s16), (by simpa using HI.out.s17), (by simpa using HI.out.s18), (fun _ => ⟨q, rfl⟩), (fun _ => rfl), (fun _ => ⟨q, rfl⟩), HI.out.wX, (by simpa using HI.out.wR), (by simpa using HI.out.wR2), (by simpa using HI.out.wA), (by simpa using HI.out.wA2), HI.out.wO, HI.out.wB, HI.out.top, (by simpa using HI.out.wC), (by simpa using HI.out.o5), (by simpa using HI.out.o8), HI.out.o9⟩⟩
    · obtain rfl := HI.out.s14 hA.1
      have h9 := notQ_of HI.out.o8 hD
      obtain ⟨n1, n2, n3, n4⟩ := HI.out.o9
      have c0 := (HI.out.wR hD).c0
      have c1 := (HI.out.wR hD).c1
      have f0 := (HI.out.wR hD).f0
      have f1 := (HI.out.wR hD).f1
      obtain ⟨hs2, _⟩ := stored2 (HI.out.wR hD).row (.slice B zs.length c') (.int .i64 m)
      go_simp
      exact HK.out _ _ ⟨_, _, _, _, _, _, _, _, rfl, ⟨(fun _ => rfl), (by simpa using HI.out.s15), (by simpa using HI.out.s16), (by simpa using HI.out.s17), (by simpa using HI.out.s18), (by simpa using HI.out.s19), (by simpa using HI.out.s20), (by simpa using HI.out.s21), ((HI.out.wX.fs (Ne.symm n1)).fs (Ne.symm n1)), (fun h => by simp at h), (fun _ => ⟨hs2⟩), (fun _ => ((HI.out.wA h9).fs (by omega)).fs (by omega)), (fun h => by simp [h9] at h), ((HI.out.wO.fs (by omega)).fs (by omega)), (belowQ_set (belowQ_set HI.out.wB (Nat.le_refl _)) (Nat.le_refl _)), (by simpa [World.setCell] using HI.out.top), (fun h => by simp [hA.2.1] at h), (fun _ => by simp [hA.2.1]), (fun h => by simp [h9] at h), HI.out.o9⟩⟩
    · obtain ⟨q, rfl⟩ := HI.out.s21 hA.1
      obtain ⟨n1, n2, n3, n4⟩ := HI.out.o9
      have h8 : D 8 = true := hA.2.1
      have c0 := (HI.out.wA hD).c0
      have c1 := (HI.out.wA hD).c1
      have f0 := (HI.out.wA hD).f0
      have f1 := (HI.out.wA hD).f1
      obtain ⟨hs2, _⟩ := stored2 (HI.out.wA hD).row (.int .i64 q) (.bool y)
      go_simp
      exact HK.out _ _ ⟨_, _, _, _, _, _, _, _, rfl, ⟨(by simpa using HI.out.s14), (by simpa using HI.out.s15), (by simpa using HI.out.s16), (by simpa using HI.out.s17), (by simpa using HI.out.s18), (by simpa using HI.out.s19), (by simpa using HI.out.s20), (fun _ => ⟨q, rfl⟩), ((HI.out.wX.fs (Ne.symm n2)).fs (Ne.symm n2)), (fun h => by simp [h8] at h), (fun _ => ((HI.out.wR2 h8).fs (by omega)).fs (by omega)), (fun h => by simp at h), (fun _ => ⟨q, ⟨hs2⟩⟩), ((HI.out.wO.fs (by omega)).fs (by omega)), (belowQ_set (belowQ_set HI.out.wB (Nat.le_succ _)) (Nat.le_succ _)), (by simpa [World.setCell] using HI.out.top), (fun h => by have h5 := HI.out.o5 h8; simp [h5] at h), (by simpa using HI.out.o5), (fun _ => by simp [h8]), HI.out.o9⟩⟩
  case hd =>
    rintro D _ W ⟨v14, v15, v16, v17, v18, v19, v20, v21, rfl, hI⟩ hall
    have hall : ∀ i, i < 10 → D i = true := hall
    have hR := hI.wR2 (hall 8 (by omega))
    obtain ⟨q, hAq⟩ := hI.wA2 (hall 9 (by omega))
    have e0 := hR.c0
    have e1 := hR.c1
    have a0 := hAq.c0
    have a1 := hAq.c1
    have HO := Lib.hid hI.wO
    have HB := Lib.hid hI.wB
    have HT := Lib.hid hI.top
    have hw0 := hB0w
    clear hI hall
    unfold aAct
    go_wp2
    refine bodyPost_ret (v := .tuple #[.agg #[.slice B zs.length c', .int .i64 m], .agg #[.int .i64 q, .bool y]]) (by simp [results, go_sem, e0, e1, a0, a1]) rfl ?_
    exact ⟨zs, B, c', m, q, y, rfl, hzl, ⟨HO.out.wide hw0 HT.out, Nat.le_refl _⟩, HB.out⟩
/-- A State and a question that are drawn. -/
def DrewSQu (w : World) (e : Ending) (w' : World) : Prop :=
  ∃ (zs : List Int) (B : Option Addr) (c' : Nat) (m q : Int), e = .returned (.tuple #[.agg #[.slice B zs.length c', .int .i64 m], .int .i64 q]) ∧ zs.length ≤ 13 ∧ Res w' w.heap.size w'.heap.size B zs ∧ Below w.heap.size w w'
set_option maxRecDepth 100000 in
set_option maxHeartbeats 4000000 in
theorem drawVQ_any (A : Option Addr) (n c : Nat) (w : World) (h : Code w w.heap.size A n) (hn : n ≤ 65536) :
    Calls Try.prog 28 #[.slice A n c] w (DrewSQu w) := by
  have B1 := (Below.refl w.heap.size w).alloc (Nat.le_refl _) (.cells #[.slice none 0 0, .int .i64 0] 26)
  have HB1 := Lib.hid B1
  have HR := Lib.hid (TwoS.new w (.slice none 0 0) (.int .i64 0) w.heap.size rfl)
  have HC := Lib.hid (codeQ_below h B1)
  have HSZ : Hid ((w.alloc (.cells #[.slice none 0 0, .int .i64 0] 26)).heap.size = w.heap.size + 1) := by show _ = _; simp
  clear h B1
  go_enter Try.func28, Try.ntmps28
  go_wp2_with fail
  generalize w.alloc (.cells #[.slice none 0 0, .int .i64 0] 26) = wa at HC HR HB1 HSZ ⊢
  refine (drawAS_any A n c wa HC.out hn).mono ?_
  rintro e wb ⟨zs, B, c', m, q, y, rfl, hzl, hres, hb⟩
  have A2 := (Below.refl wb.heap.size wb).alloc (Nat.le_refl _) (.cells #[.slice B zs.length c', .int .i64 m] 26)
  have hX := TwoS.new wb (.slice B zs.length c') (.int .i64 m) wb.heap.size rfl
  have hR2 := (HR.out.step hb).step A2
  have hS2 := hres.step A2
  have hB2 := below_trans (below_trans HB1.out hb) A2
  have hsz : (wb.alloc (.cells #[.slice B zs.length c', .int .i64 m] 26)).heap.size = wb.heap.size + 1 := by simp
  have hlo : w.heap.size + 1 ≤ wa.heap.size := Nat.le_of_eq HSZ.out.symm
  have hbs := hb.size
  generalize hwc : wb.alloc (.cells #[.slice B zs.length c', .int .i64 m] 26) = wc at hX hR2 hS2 hB2 hsz
  have A3 := (Below.refl wc.heap.size wc).alloc (Nat.le_refl _) (.cells #[.int .i64 q, .bool y] 79)
  have HX := Lib.hid (hX.step A3)
  have HR3 := Lib.hid (hR2.step A3)
  have HS3 := Lib.hid (hS2.step A3)
  have HB3 := Lib.hid (below_trans hB2 A3)
  have HA := Lib.hid (Two.new wc (.int .i64 q) (.bool y) 79 (wb.heap.size + 1) hsz.symm)
  subst hwc
  clear hb hres A2 A3 hX hR2 hS2 hB2 hsz HR HB1 HC
  have x0 := HX.out.c0
  have x1 := HX.out.c1
  have a0 := HA.out.c0
  have a1 := HA.out.c1
  have q0 := HR3.out.c0
  have q1 := HR3.out.c1
  have q2 := HR3.out.f0
  have q3 := HR3.out.f1
  go_wp2_with fail
  generalize (wb.alloc (.cells #[.slice B zs.length c', .int .i64 m] 26)).alloc (.cells #[.int .i64 q, .bool y] 79) = wd at HX HR3 HS3 HB3 HA x0 x1 a0 a1 q0 q1 q2 q3 ⊢
  have hne : w.heap.size ≠ wb.heap.size := by omega
  have hne2 : w.heap.size ≠ wb.heap.size + 1 := by omega
  go_region_with (fail)
  all_goals
    go_wp2
    obtain ⟨hs2, hw⟩ := stored2 (w := wd) (t := 26) HR3.out.row (.slice B zs.length c') (.int .i64 m)
    generalize ((wd.setCell ⟨w.heap.size, 0, none⟩ (.slice B zs.length c')).setCell ⟨w.heap.size, 1, none⟩ (.int .i64 m)) = wf at hs2 hw ⊢
    have e0 : wf.drew.cell? ⟨w.heap.size, 0, none⟩ = some (.slice B zs.length c') := two0 hs2
    have e1 : wf.drew.cell? ⟨w.heap.size, 1, none⟩ = some (.int .i64 m) := two1 hs2
    refine bodyPost_ret (v := .tuple #[.agg #[.slice B zs.length c', .int .i64 m], .int .i64 q]) (by simp [results, go_sem, Act.put, e0, e1]) rfl ?_
    have hO := HS3.out.own.within hw (.inr hlo)
    have hHi := Nat.le_trans HS3.out.top hw.size
    exact ⟨zs, B, c', m, q, rfl, hzl, res_wide (⟨hO.within (Within.of_below (lo := 0) (hi := 0) (Below.refl wf.heap.size wf).drew) (.inr (Nat.zero_le _)), hHi⟩ : Res wf.drew wa.heap.size wb.heap.size B zs) (by omega) hHi, (HB3.out.trans (hw.below (Nat.le_refl _) HB3.out.size)).drew⟩
set_option maxRecDepth 100000 in
set_option maxHeartbeats 4000000 in
theorem drawQN_any (A : Option Addr) (n c : Nat) (w : World) (h : Code w w.heap.size A n) (hn : n ≤ 65536) :
    Calls Try.prog 8 #[.slice A n c] w (DrewSQu w) := by
  have B1 := (Below.refl w.heap.size w).alloc (Nat.le_refl _) (.cells #[.slice none 0 0, .int .i64 0] 26)
  have HB1 := Lib.hid B1
  have HR := Lib.hid (TwoS.new w (.slice none 0 0) (.int .i64 0) w.heap.size rfl)
  have HC := Lib.hid (codeQ_below h B1)
  have HSZ : Hid ((w.alloc (.cells #[.slice none 0 0, .int .i64 0] 26)).heap.size = w.heap.size + 1) := by show _ = _; simp
  clear h B1
  go_enter Try.func8, Try.ntmps8
  go_wp2_with fail
  generalize w.alloc (.cells #[.slice none 0 0, .int .i64 0] 26) = wa at HC HR HB1 HSZ ⊢
  refine (drawVQ_any A n c wa HC.out hn).mono ?_
  rintro e wb ⟨zs, B, c', m, q, rfl, hzl, hres, hb⟩
  have HS := Lib.hid hres
  have HR2 := Lib.hid (HR.out.step hb)
  have HB2 := Lib.hid (below_trans HB1.out hb)
  have q0 := HR2.out.c0
  have q1 := HR2.out.c1
  have q2 := HR2.out.f0
  have q3 := HR2.out.f1
  clear hb hres HR HB1 HC
  go_wp2
  obtain ⟨hs2, hw⟩ := stored2 HR2.out.row (.slice B zs.length c') (.int .i64 m)
  generalize ((wb.setCell ⟨w.heap.size, 0, none⟩ (.slice B zs.length c')).setCell ⟨w.heap.size, 1, none⟩ (.int .i64 m)) = wf at hs2 hw ⊢
  have e0 := two0 hs2
  have e1 := two1 hs2
  refine bodyPost_ret (v := .tuple #[.agg #[.slice B zs.length c', .int .i64 m], .int .i64 q]) (by simp [results, go_sem, e0, e1]) rfl ?_
  have hlo : w.heap.size + 1 ≤ wa.heap.size := Nat.le_of_eq HSZ.out.symm
  exact ⟨zs, B, c', m, q, rfl, hzl, res_wide (HS.out.within hw (.inr hlo)) (by omega) (Nat.le_trans HS.out.top hw.size), HB2.out.trans (hw.below (Nat.le_refl _) HB2.out.size)⟩
end Go.Proofs.Ythpnkeecpaflfaa
