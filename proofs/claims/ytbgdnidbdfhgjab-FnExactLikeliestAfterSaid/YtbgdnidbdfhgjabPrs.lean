/- Rows of pairs: read, compared. -/
import Derived.Test.YtbgdnidbdfhgjabPair
import Derived.Test.YtbgdnidbdfhgjabAsks
import Derived.Test.YtbgdnidbdfhgjabL7N
namespace Go.Proofs.Ytbgdnidbdfhgjab
open Go.RowKit Go.ChangeShapes Go.WideShapes
set_option linter.unusedVariables false

/-- The slice at A reads as the pairs l, in a block of lo..hi-1. -/
def Prs (w : World) (lo hi : Nat) (A : Option Addr) (l : List (Int × Int)) : Prop :=
  0 < l.length → ∃ b o, A = some ⟨b, o, none⟩ ∧ lo ≤ b ∧ b < hi ∧ ∀ (j : Nat) (x : Int × Int), l[j]? = some x → w.cell? ⟨b, o + j * 2, none⟩ = some (.int .i64 x.1) ∧ w.cell? ⟨b, o + j * 2 + 1, none⟩ = some (.int .i64 x.2)
theorem Prs.at_ {w : World} {lo hi : Nat} {A : Option Addr} {l : List (Int × Int)} (h : Prs w lo hi A l) {k : Nat} (hk : k < l.length) :
    ∃ b o, A = some ⟨b, o, none⟩ ∧ lo ≤ b ∧ b < hi ∧ w.cell? ⟨b, o + k * 2, none⟩ = some (.int .i64 l[k].1) ∧ w.cell? ⟨b, o + k * 2 + 1, none⟩ = some (.int .i64 l[k].2) := by
  obtain ⟨b, o, e, h1, h2, hc⟩ := h (by omega)
  obtain ⟨c1, c2⟩ := hc k _ (List.getElem?_eq_getElem hk)
  exact ⟨b, o, e, h1, h2, c1, c2⟩
/-- Pairs that are there. -/
structure PIns (w : World) (lo hi : Nat) (A : Option Addr) (l : List (Int × Int)) : Prop where
  prs : Prs w lo hi A l
  top : hi ≤ w.heap.size
theorem PIns.step {w w' : World} {lo hi : Nat} {A : Option Addr} {l : List (Int × Int)} (h : PIns w lo hi A l) (hb : Below w.heap.size w w') : PIns w' lo hi A l :=
  ⟨fun h0 => by
    obtain ⟨b, o, e, h1, h2, hc⟩ := h.prs h0
    have hbl : b < w.heap.size := Nat.lt_of_lt_of_le h2 h.top
    exact ⟨b, o, e, h1, h2, fun j x hx => ⟨(World.cell?_of_block (hb.block b hbl)).trans (hc j x hx).1, (World.cell?_of_block (hb.block b hbl)).trans (hc j x hx).2⟩⟩, Nat.le_trans h.top hb.size⟩
theorem PIns.within {w w' : World} {lo hi l t : Nat} {A : Option Addr} {xs : List (Int × Int)} (h : PIns w lo hi A xs) (hb : Within l t w w') (hd : hi ≤ l ∨ t ≤ lo) : PIns w' lo hi A xs :=
  ⟨fun h0 => by
    obtain ⟨b, o, e, h1, h2, hc⟩ := h.prs h0
    have hbl : b < w.heap.size := Nat.lt_of_lt_of_le h2 h.top
    have hbb := hb.block b hbl (by omega)
    exact ⟨b, o, e, h1, h2, fun j x hx => ⟨(World.cell?_of_block hbb).trans (hc j x hx).1, (World.cell?_of_block hbb).trans (hc j x hx).2⟩⟩, Nat.le_trans h.top hb.size⟩
set_option maxRecDepth 100000 in
set_option maxHeartbeats 2000000 in
theorem eqPrs_same (A A' : Option Addr) (c c' lo hi lo' hi' : Nat) (l : List (Int × Int)) (w : World) (hS : PIns w lo hi A l) (hS' : PIns w lo' hi' A' l) (hn : l.length ≤ 1048576) :
    Calls Try.prog 13 #[.slice A l.length c, .slice A' l.length c'] w fun e w' => e = .returned (.bool true) ∧ Below w.heap.size w w' := by
  have HS := Lib.hid hS
  have HS' := Lib.hid hS'
  clear hS hS'
  go_enter Try.func13, Try.ntmps13
  go_wp2
  go_loopw [5] (fun i wr => ∃ k : Nat, k ≤ l.length ∧ i = .int .i64 k ∧ Hid (Below w.heap.size w wr)) (fun i _ => l.length - (intOf i).toNat)
  case atStart => exact ⟨0, Nat.zero_le _, rfl, Below.refl _ _⟩
  case round =>
    obtain ⟨k, hk, rfl, HB⟩ := hrel
    by_cases hlt : k < l.length
    · obtain ⟨b, o, rfl, _, _, hc1, hc2⟩ := (HS.out.step HB.out).prs.at_ hlt
      obtain ⟨b', o', rfl, _, _, hd1, hd2⟩ := (HS'.out.step HB.out).prs.at_ hlt
      have hz : (k : Int) < (l.length : Int) := by omega
      have HE := Lib.hid (fun W => eqIntA2_same7 l[k].1 l[k].2 W)
      generalize l[k] = x at hc1 hc2 hd1 hd2 HE
      go_wp2_with fail
      go_region_with (go_at_call 69; refine (HE.out _).mono ?_; rintro e w3 ⟨rfl, hb⟩; have HB3 := Lib.hid (below_trans (HB.out.drew) hb); clear hb)
      all_goals
        go_wp2
        go_roundw
        case rel => exact ⟨k + 1, by omega, by go_num, HB3⟩
        case measure => simp [intOf]; omega
    · go_wp2
      go_ret
      exact ⟨rfl, HB.out⟩
end Go.Proofs.Ytbgdnidbdfhgjab
