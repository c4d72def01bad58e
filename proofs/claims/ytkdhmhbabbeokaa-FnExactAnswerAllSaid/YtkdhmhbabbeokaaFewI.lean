/- FewestFalse: the program's function. -/
import Derived.Test.YtkdhmhbabbeokaaFewest
namespace Go.Proofs.Ytkdhmhbabbeokaa
open Go.RowKit Go.ChangeShapes Go.WideShapes Go.Maps
set_option linter.unusedVariables false

theorem look_any {w : World} {M n j s : Nat} {l : List (Int × Bool)} (h : MapIs w M l n j 0) (hs : s < n) (hn : n ≤ 12) :
    (Instr.lookup 100 (.map (some M)) (.int .i64 (s : Int)) false).run Try.prog w = .ok (.int .i64 (cntF l s j : Int)) w := by
  obtain ⟨D, N, hown, _, hss⟩ := h
  obtain ⟨c, hrun, hat, _⟩ := hown.lookup_int keyedI Try.underlying100 Try.underlying3 (zeroI w) (keyI s (by omega))
  have hc := MapIs.at_ hss hs hat
  rw [cnt2_zero] at hc
  rw [hrun, hc]
/-- What the loop holds at k. -/
def FewAt (f : Nat → Nat) (k a : Nat) (L : List Int) : Prop := (k = 0 ∧ a = f 0 ∧ L = []) ∨ (0 < k ∧ fewTo f k = (a, L))
theorem FewAt.lt {f : Nat → Nat} {k a : Nat} {L : List Int} (h : FewAt f k a L) (hl : f k < a) : FewAt f (k + 1) (f k) [(k : Int)] := by
  rcases h with ⟨rfl, rfl, _⟩ | ⟨_, h⟩
  · omega
  · exact .inr ⟨by omega, fewTo_lt h hl⟩
theorem FewAt.eq {f : Nat → Nat} {k a : Nat} {L : List Int} (h : FewAt f k a L) (hl : f k = a) (h20 : a ≤ 20) : FewAt f (k + 1) a (L ++ [(k : Int)]) := by
  rcases h with ⟨rfl, rfl, rfl⟩ | ⟨_, h⟩
  · exact .inr ⟨by omega, fewTo_lt (k := 0) (a := 21) (l := []) rfl (by omega)⟩
  · exact .inr ⟨by omega, fewTo_eq h hl⟩
theorem FewAt.gt {f : Nat → Nat} {k a : Nat} {L : List Int} (h : FewAt f k a L) (hl : a < f k) : FewAt f (k + 1) a L := by
  rcases h with ⟨rfl, rfl, _⟩ | ⟨_, h⟩
  · omega
  · exact .inr ⟨by omega, fewTo_gt h hl⟩
theorem FewAt.end_ {f : Nat → Nat} {n a : Nat} {L : List Int} (h : FewAt f n a L) (hn : 1 ≤ n) : fewTo f n = (a, L) := by
  rcases h with ⟨rfl, _⟩ | ⟨_, h⟩
  · omega
  · exact h

set_option maxRecDepth 100000 in
set_option maxHeartbeats 8000000 in
theorem fewestFalse_impl (n : Nat) (A : Option Addr) (c lo hi : Nat) (l : List (Int × Bool)) (w : World) (hS : AIns w lo hi A l) (hok : okA n l = true) (h1n : 1 ≤ n) (hn : n ≤ 12) (h20 : l.length ≤ 20) :
    Calls Try.prog 60 #[.int .i64 (n : Int), .slice A l.length c] w fun e w' => ∃ v, e = .returned (.tuple #[.int .i64 ((fewTo (fun s => cntF l s l.length) n).1 : Int), v, .bool true]) ∧ w'.ownsRow w.heap.size 3 1 v (fewTo (fun s => cntF l s l.length) n).2.length ((fewTo (fun s => cntF l s l.length) n).2.map (Value.int .i64)) ∧ Below w.heap.size w w' := by
  obtain ⟨i0, hi0, hz0, hz1, hz2⟩ := info_parts infoI3
  have HA := Lib.hid (fun W h => areAnswers_any (n : Int) A c lo hi l W h (by omega))
  rw [hok] at HA
  have HFN := Lib.hid (fun W h => falseByNumber_any n A c lo hi l W h hn h20)
  have HS := Lib.hid hS
  have HLK := Lib.hid (fun (W : World) (M s : Nat) (h : MapIs W M l n l.length 0) (hs : s < n) => look_any h hs hn)
  have hf20 : ∀ k, cntF l k l.length ≤ 20 := fun k => Nat.le_trans (cntF_le l k l.length) h20
  have HF20 := Lib.hid hf20
  clear hS hok hf20
  go_enter Try.func60, Try.ntmps60
  go_wp2_with fail
  refine (HA.out w HS.out).mono ?_
  rintro e wb ⟨rfl, hb⟩
  replace HS := Lib.hid (HS.out.step hb)
  have HB1 := Lib.hid hb
  clear hb
  go_wp2_with fail
  refine (HFN.out wb HS.out).mono ?_
  rintro e w3 ⟨M, rfl, hm, hb⟩
  have HM := Lib.hid hm
  have HB3 := Lib.hid (below_trans HB1.out hb)
  have hMl : M < w3.heap.size := hm.lt
  clear hb hm HS HB1
  have hk0 := HLK.out w3 M 0 HM.out h1n
  rw [show ((0 : Nat) : Int) = 0 from rfl] at hk0
  have hO := Lib.hid (O0_any w3 w3.heap.size (Nat.le_refl _))
  generalize hfd : (fun s => cntF l s l.length) = f at ⊢
  have HFD := Lib.hid hfd
  have e0 : cntF l 0 l.length = f 0 := by rw [← hfd]
  rw [e0] at hk0
  have hf0 : f 0 ≤ 20 := by rw [← hfd]; exact HF20.out 0
  clear hfd e0
  go_wp2_with fail
  clear hk0
  go_loopw [8, 9, 23] (fun le out i wr => ∃ (k a : Nat) (L : List Int), k ≤ n ∧ a ≤ 20 ∧ L.length ≤ k ∧ i = .int .i64 k ∧ le = .int .i64 (a : Int) ∧ Hid (FewAt f k a L) ∧ Hid (wr.ownsRow w3.heap.size 3 1 out L.length (L.map (Value.int .i64))) ∧ Hid (Past w3.heap.size w3 wr)) (fun _ _ i _ => n - (intOf i).toNat)
  case atStart => exact ⟨0, f 0, [], Nat.zero_le _, hf0, by simp, rfl, rfl, .inl ⟨rfl, rfl, rfl⟩, hO.out, Past.of_below ((Below.refl _ _).alloc (Nat.le_refl _) _)⟩
  case round =>
    obtain ⟨k, a, L, hk, ha, hL, rfl, rfl, HE, HO, HP⟩ := hrel
    by_cases hlt : k < n
    · have hfk : f k ≤ 20 := by have := HF20.out k; rw [← HFD.out]; exact this
      have hlk := HLK.out wr M k (HM.out.heap (HP.out.block M hMl hMl)) hlt
      rw [show cntF l k l.length = f k by rw [← HFD.out]] at hlk
      have hlkd := HLK.out wr.drew M k ((HM.out.heap (HP.out.block M hMl hMl)).heap rfl) hlt
      rw [show cntF l k l.length = f k by rw [← HFD.out]] at hlkd
      have HLT := Lib.hid (fun h => HE.out.lt h)
      have HEQ := Lib.hid (fun h => HE.out.eq h ha)
      have HGT := Lib.hid (fun h => HE.out.gt h)
      have hsz := HP.out.size
      generalize f k = m at hfk hlk hlkd HLT HEQ HGT
      by_cases h1 : m < a
      · have HN := Lib.hid (HLT.out h1)
        have h1' : (m : Int) < (a : Int) := by omega
        clear HLT HEQ HGT h1
        rcases HO.out.2 with ⟨rfl, hL0⟩ | ⟨g, cap, cur, rfl, hg, hr, hcl, hcm, hcs, htk⟩
        · have hown : wr.drew.ownsRow w3.heap.size 3 1 (.slice none 0 0) 0 [] := ⟨rfl, .inl ⟨rfl, rfl⟩⟩
          have HOW := Lib.hid hown
          have HPd := Lib.hid (show Past w3.heap.size w3 wr.drew from ⟨HP.out.os, HP.out.tape, HP.out.output, HP.out.size, HP.out.block⟩)
          clear hown
          go_wp2_with fail
          go_region_with (fail)
          all_goals
            have hown := HOW.out
            go_wp2_with (at_builtin; refine wpList_append_own _ rfl _ _ 28 rfl w3.heap.size 3 i0 (.int .i64 0) 1 8 Try.underlying28 hi0 hz0 hz1 hz2 rfl (by decide) _ _ _ rfl (hown.alloc _) ⟨_, 0, none⟩ 1 1 [.int .i64 (k : Int)] rfl rfl (cell_one_new _ _ _) (by simp [Value.oneCell']) (by unfold maxLen; first | omega | (simp; omega)) (by first | omega | (simp; omega)) (by first | omega | (simp; omega)) ?_; intro v' w6 hown' hgrow _)
            have HO6 := Lib.hid (own_snocI (zs := []) hown' rfl)
            have HP6 := Lib.hid (HPd.out.trans (Past.grown hown hgrow))
            clear hown' hgrow hown
            go_wp2
            go_roundw
            case rel => exact ⟨k + 1, m, [(k : Int)], by omega, by omega, by simp, by go_num, rfl, HN, HO6, HP6⟩
            case measure => simp [intOf]; omega
        · have hown : wr.drew.ownsRow w3.heap.size 3 1 (.slice (some ⟨g, 0, none⟩) 0 cap) 0 [] := ⟨rfl, .inr ⟨g, cap, cur, rfl, hg, hr, Nat.zero_le _, hcm, hcs, by simp⟩⟩
          have HOW := Lib.hid hown
          have HPd := Lib.hid (show Past w3.heap.size w3 wr.drew from ⟨HP.out.os, HP.out.tape, HP.out.output, HP.out.size, HP.out.block⟩)
          clear hown hr htk
          go_wp2_with fail
          go_region_with (fail)
          all_goals
            have hown := HOW.out
            go_wp2_with (at_builtin; refine wpList_append_own _ rfl _ _ 28 rfl w3.heap.size 3 i0 (.int .i64 0) 1 8 Try.underlying28 hi0 hz0 hz1 hz2 rfl (by decide) _ _ _ rfl (hown.alloc _) ⟨_, 0, none⟩ 1 1 [.int .i64 (k : Int)] rfl rfl (cell_one_new _ _ _) (by simp [Value.oneCell']) (by unfold maxLen; first | omega | (simp; omega)) (by first | omega | (simp; omega)) (by first | omega | (simp; omega)) ?_; intro v' w6 hown' hgrow _)
            have HO6 := Lib.hid (own_snocI (zs := []) hown' rfl)
            have HP6 := Lib.hid (HPd.out.trans (Past.grown hown hgrow))
            clear hown' hgrow hown
            go_wp2
            go_roundw
            case rel => exact ⟨k + 1, m, [(k : Int)], by omega, by omega, by simp, by go_num, rfl, HN, HO6, HP6⟩
            case measure => simp [intOf]; omega
      · by_cases h2 : m = a
        · subst h2
          have HN := Lib.hid (HEQ.out rfl)
          have hown := HO.out
          clear HLT HEQ HGT h1
          go_wp2_with (at_builtin; refine wpList_append_own _ rfl _ _ 28 rfl w3.heap.size 3 i0 (.int .i64 0) 1 8 Try.underlying28 hi0 hz0 hz1 hz2 rfl (by decide) _ _ _ rfl (hown.alloc _) ⟨_, 0, none⟩ 1 1 [.int .i64 (k : Int)] rfl rfl (cell_one_new _ _ _) (by simp [Value.oneCell']) (by unfold maxLen; first | omega | (simp; omega)) (by first | omega | (simp; omega)) (by first | omega | (simp; omega)) ?_; intro v' w6 hown' hgrow _)
          have HO6 := Lib.hid (own_snocI hown' rfl)
          have HP6 := Lib.hid (HP.out.trans (Past.grown hown hgrow))
          clear hown' hgrow hown HO hlk
          go_wp2
          go_roundw
          case rel => exact ⟨k + 1, m, L ++ [(k : Int)], by omega, by omega, by simp; omega, by go_num, rfl, HN, HO6, HP6⟩
          case measure => simp [intOf]; omega
        · have HN := Lib.hid (HGT.out (show a < m by omega))
          have h1' : ¬ (m : Int) < (a : Int) := by omega
          have h2' : ¬ (m : Int) = (a : Int) := by omega
          clear HLT HEQ HGT h1 h2
          go_wp2
          go_roundw
          case rel => exact ⟨k + 1, a, L, by omega, by omega, by omega, by go_num, rfl, HN, HO, HP⟩
          case measure => simp [intOf]; omega
    · obtain rfl : k = n := by omega
      have HE2 := Lib.hid (HE.out.end_ h1n)
      go_wp2
      refine bodyPost_ret (v := .tuple #[.int .i64 (a : Int), u9, .bool true]) (by simp [results, go_sem]) rfl ?_
      rw [HFD.out, HE2.out]
      exact ⟨u9, rfl, own_base HO.out HB3.out.size, HB3.out.trans (HP.out.below HB3.out.size HB3.out.size)⟩
end Go.Proofs.Ytkdhmhbabbeokaa
