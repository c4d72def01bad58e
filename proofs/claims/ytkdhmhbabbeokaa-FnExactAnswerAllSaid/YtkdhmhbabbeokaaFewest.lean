/- FewestFalse: what both functions find. -/
import Derived.Test.YtkdhmhbabbeokaaFF
import Derived.Test.YtkdhmhbabbeokaaOpenN
namespace Go.Proofs.Ytkdhmhbabbeokaa
open Go.RowKit Go.ChangeShapes Go.WideShapes Go.Maps
set_option linter.unusedVariables false

/-- The fewest of f below k, from 21 on, and where. -/
def fewTo (f : Nat → Nat) : Nat → Nat × List Int
  | 0 => (21, [])
  | k + 1 => if f k < (fewTo f k).1 then (f k, [(k : Int)]) else if f k = (fewTo f k).1 then ((fewTo f k).1, (fewTo f k).2 ++ [(k : Int)]) else fewTo f k
theorem fewTo_lt {f : Nat → Nat} {k a : Nat} {l : List Int} (h : fewTo f k = (a, l)) (hl : f k < a) : fewTo f (k + 1) = (f k, [(k : Int)]) := by rw [fewTo, h]; simp [hl]
theorem fewTo_eq {f : Nat → Nat} {k a : Nat} {l : List Int} (h : fewTo f k = (a, l)) (hl : f k = a) : fewTo f (k + 1) = (a, l ++ [(k : Int)]) := by rw [fewTo, h]; simp [hl]
theorem fewTo_gt {f : Nat → Nat} {k a : Nat} {l : List Int} (h : fewTo f k = (a, l)) (hl : a < f k) : fewTo f (k + 1) = (a, l) := by
  rw [fewTo, h, if_neg (show ¬ f k < a by omega), if_neg (show ¬ f k = a by omega)]
theorem fewTo_len (f : Nat → Nat) : ∀ k, (fewTo f k).2.length ≤ k
  | 0 => Nat.le_refl _
  | k + 1 => by
    have := fewTo_len f k
    rw [fewTo]
    split
    · simp
    · split
      · simp; omega
      · omega
theorem fewTo_bd {f : Nat → Nat} (hf : ∀ k, f k ≤ 20) : ∀ k, (fewTo f k).1 ≤ 21
  | 0 => Nat.le_refl _
  | k + 1 => by
    have := fewTo_bd hf k
    have := hf k
    rw [fewTo]
    split
    · show f k ≤ 21; omega
    · split
      · exact fewTo_bd hf k
      · exact fewTo_bd hf k

theorem AIns.past {B lo hi : Nat} {w w' : World} {A : Option Addr} {l : List (Int × Bool)} (h : AIns w lo hi A l) (hp : Past B w w') (hh : hi ≤ B) : AIns w' lo hi A l :=
  h.within (l := B) (t := w.heap.size) ⟨hp.os, hp.tape, hp.output, hp.size, fun i hi hd => hp.block i hi (by omega)⟩ (.inl hh)
theorem own_below {w w' : World} {B n : Nat} {v : Value} {e : TypeId} {xs : List Value} (h : w.ownsRow B e 1 v n xs) (hb : Below w.heap.size w w') : w'.ownsRow B e 1 v n xs :=
  ⟨h.1, h.2.imp id fun ⟨g, cap, cur, a, b, r, q⟩ => ⟨g, cap, cur, a, b, (hb.block g (row_ltI r)).trans r, q⟩⟩

set_option maxRecDepth 100000 in
set_option maxHeartbeats 4000000 in
theorem fewestFalse_spec (n : Nat) (A : Option Addr) (c lo hi : Nat) (l : List (Int × Bool)) (w : World) (hS : AIns w lo hi A l) (hok : okA n l = true) (hn : n ≤ 12) (h20 : l.length ≤ 20) :
    Calls Try.prog 59 #[.int .i64 (n : Int), .slice A l.length c] w fun e w' => ∃ v, e = .returned (.tuple #[.int .i64 ((fewTo (fun s => cntF l s l.length) n).1 : Int), v, .bool true]) ∧ w'.ownsRow w.heap.size 3 1 v (fewTo (fun s => cntF l s l.length) n).2.length ((fewTo (fun s => cntF l s l.length) n).2.map (Value.int .i64)) ∧ Below w.heap.size w w' := by
  obtain ⟨i0, hi0, hz0, hz1, hz2⟩ := info_parts infoI3
  have HA := Lib.hid (fun W h => l2Answers_any (n : Int) A c lo hi l W h (by omega))
  rw [hok] at HA
  have hb0 := (Below.refl w.heap.size w).alloc (Nat.le_refl _) (.cells #[] 3)
  have HS := Lib.hid (hS.step hb0)
  have hO := O0_any w w.heap.size (Nat.le_refl _)
  have hf20 : ∀ k, cntF l k l.length ≤ 20 := fun k => Nat.le_trans (cntF_le l k l.length) h20
  have HF := Lib.hid (fun (k : Nat) (hk : k ≤ 12) W h => l2Many_any A c lo hi l k W h h20 hk)
  have HFB := Lib.hid (fun k => fewTo_bd (f := fun s => cntF l s l.length) hf20 k)
  have HFL := Lib.hid (fun k => fewTo_len (fun s => cntF l s l.length) k)
  have HF20 := Lib.hid hf20
  have hh := hS.top
  clear hS hok hf20
  go_enter Try.func59, Try.ntmps59
  go_wp2_with fail
  have HO0 := Lib.hid hO
  have HB0 := Lib.hid hb0
  clear hO hb0
  generalize w.alloc (.cells #[] 3) = wa at HS HO0 HB0 ⊢
  refine (HA.out wa HS.out).mono ?_
  rintro e wb ⟨rfl, hb⟩
  replace HS := Lib.hid (HS.out.step hb)
  have HO1 := Lib.hid (own_below HO0.out hb)
  have HB1 := Lib.hid (below_trans HB0.out hb)
  clear hb HO0 HB0
  generalize hfd : (fun s => cntF l s l.length) = f at HFB HFL ⊢
  have HFD := Lib.hid hfd
  clear hfd
  go_wp2_with fail
  go_loopw [7, 8, 9] (fun out le i wr => ∃ (k a : Nat) (L : List Int), k ≤ n ∧ a ≤ 21 ∧ L.length ≤ k ∧ i = .int .i64 k ∧ le = .int .i64 (a : Int) ∧ Hid (fewTo f k = (a, L)) ∧ Hid (wr.ownsRow w.heap.size 3 1 out L.length (L.map (Value.int .i64))) ∧ Hid (Below w.heap.size w wr) ∧ Hid (Past w.heap.size wb wr)) (fun _ _ i _ => n - (intOf i).toNat)
  case atStart => exact ⟨0, 21, [], Nat.zero_le _, by omega, by simp, rfl, rfl, rfl, HO1.out, HB1.out, Past.refl _ _⟩
  case round =>
    obtain ⟨k, a, L, hk, ha, hL, rfl, rfl, HE, HO, HB, HP⟩ := hrel
    by_cases hlt : k < n
    · have hfk : f k ≤ 20 := by have := HF20.out k; rw [← HFD.out]; exact this
      have HFk := Lib.hid (fun W h => HF.out k (by omega) W h)
      rw [show cntF l k l.length = f k by rw [← HFD.out]] at HFk
      have HLT := Lib.hid (fun h => fewTo_lt HE.out h)
      have HEQ := Lib.hid (fun h => fewTo_eq HE.out h)
      have HGT := Lib.hid (fun h => fewTo_gt HE.out h)
      generalize f k = m at hfk HFk HLT HEQ HGT
      go_wp2_with fail
      refine (HFk.out wr (HS.out.past HP.out hh)).mono ?_
      rintro e w5 ⟨rfl, hb⟩
      have HB5 := Lib.hid (below_trans HB.out hb)
      have HP5 := Lib.hid (HP.out.trans (Past.of_below hb))
      have HO5 := Lib.hid (own_below HO.out hb)
      clear hb HO HB HP HE HFk
      by_cases h1 : m < a
      · have HN := Lib.hid (HLT.out h1)
        have h1' : (m : Int) < (a : Int) := by omega
        have hO := O0_any w5 w.heap.size HB5.out.size
        have hBa := HB5.out.alloc HB5.out.size (.cells #[] 3)
        have HPa := Lib.hid (HP5.out.trans (Past.of_below ((Below.refl w5.heap.size w5).alloc (Nat.le_refl _) (.cells #[] 3))))
        have HBa := Lib.hid hBa
        have hs5 := HB5.out.size
        have HC := Lib.hid (cell_one_new (w5.alloc (.cells #[] 3)) (.int .i64 (k : Int)) 3)
        rw [World.size_alloc] at HC
        clear HLT HEQ HGT hBa HO5
        go_wp2_with (at_builtin; refine wpList_append_own _ rfl _ _ 28 rfl w.heap.size 3 i0 (.int .i64 0) 1 8 Try.underlying28 hi0 hz0 hz1 hz2 rfl (by decide) _ _ _ rfl (hO.alloc _) ⟨w5.heap.size + 1, 0, none⟩ 1 1 [.int .i64 (k : Int)] rfl rfl HC.out (by simp [Value.oneCell']) (by unfold maxLen; first | omega | (simp; omega)) (by first | omega | (simp; omega)) (by first | omega | (simp; omega)) ?_; intro v' w6 hown' hgrow _)
        have HO6 := Lib.hid (own_snocI (zs := []) hown' rfl)
        have HP6 := Lib.hid (HPa.out.trans (Past.grown hO hgrow))
        have HB6 := Lib.hid ((HBa.out.alloc HBa.out.size _).grown hgrow (by simp; omega) (fun q hq => (hO.lt q hq).1))
        clear hown' hgrow hO
        go_wp2
        go_roundw
        case rel => exact ⟨k + 1, m, [(k : Int)], by omega, by omega, by simp, by go_num, rfl, HN, HO6, HB6, HP6⟩
        case measure => simp [intOf]; omega
      · by_cases h2 : m = a
        · subst h2
          have HN := Lib.hid (HEQ.out rfl)
          have hown := HO5.out
          have hs5 := HB5.out.size
          clear HLT HEQ HGT h1
          go_wp2_with (at_builtin; refine wpList_append_own _ rfl _ _ 28 rfl w.heap.size 3 i0 (.int .i64 0) 1 8 Try.underlying28 hi0 hz0 hz1 hz2 rfl (by decide) _ _ _ rfl (hown.alloc _) ⟨_, 0, none⟩ 1 1 [.int .i64 (k : Int)] rfl rfl (cell_one_new _ _ _) (by simp [Value.oneCell']) (by unfold maxLen; first | omega | (simp; omega)) (by first | omega | (simp; omega)) (by first | omega | (simp; omega)) ?_; intro v' w6 hown' hgrow _)
          have HO6 := Lib.hid (own_snocI hown' rfl)
          have HP6 := Lib.hid (HP5.out.trans (Past.grown hown hgrow))
          have HB6 := Lib.hid ((HB5.out.alloc HB5.out.size _).grown hgrow (by simp; omega) (fun q hq => (hown.lt q hq).1))
          clear hown' hgrow hown HO5
          go_wp2
          go_roundw
          case rel => exact ⟨k + 1, m, L ++ [(k : Int)], by omega, by omega, by simp; omega, by go_num, rfl, HN, HO6, HB6, HP6⟩
          case measure => simp [intOf]; omega
        · have HN := Lib.hid (HGT.out (show a < m by omega))
          have h1' : ¬ (m : Int) < (a : Int) := by omega
          have h2' : ¬ (m : Int) = (a : Int) := by omega
          clear HLT HEQ HGT h1 h2
          go_wp2
          go_roundw
          case rel => exact ⟨k + 1, a, L, by omega, by omega, by omega, by go_num, rfl, HN, HO5, HB5, HP5⟩
          case measure => simp [intOf]; omega
    · obtain rfl : k = n := by omega
      have HE2 := Lib.hid HE.out
      go_wp2
      refine bodyPost_ret (v := .tuple #[.int .i64 (a : Int), u7, .bool true]) (by simp [results, go_sem]) rfl ?_
      rw [HFD.out, HE2.out]
      exact ⟨u7, rfl, HO.out, HB.out⟩
end Go.Proofs.Ytkdhmhbabbeokaa
