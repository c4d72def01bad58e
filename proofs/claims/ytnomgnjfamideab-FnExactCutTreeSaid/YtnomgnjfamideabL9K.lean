/- Trees of questions: parts of trees, turned trees and cut trees, of the specification. -/
import Derived.Test.YtnomgnjfamideabL9J
import Derived.WalkMore
import Derived.IntWalk
namespace Go.Proofs.Ytnomgnjfamideab
open Go.RowKit Go.ChangeShapes Go.WideShapes Go.Maps
set_option linter.unusedVariables false

theorem own_resNC {w : World} {B n : Nat} {v : Value} {l : List (Int × Int × Int)} (h : w.ownsRow B 56 3 v n (cellsN l)) (hn : n = l.length) :
    ∃ A c, v = .slice A l.length c ∧ l.length ≤ c ∧ NMade w B w.heap.size A l := by
  obtain ⟨A, c, e, hR⟩ := own_resN h hn
  refine ⟨A, c, e, ?_, hR⟩
  rcases h.2 with ⟨e2, h0⟩ | ⟨g, cap, cur, e2, hb, hg, hl, _⟩
  · omega
  · rw [e] at e2
    injection e2 with _ _ e3
    omega
theorem elem_nodes9 : Try.prog.underlying 26 = some (.slice (Try.prog.elem 26)) := by kernel_rfl
theorem elem_node9 : Try.prog.elem 26 = 56 := by kernel_rfl
theorem size_node9 (w : World) : (sizeOf 56).run Try.prog w = .ok 3 w := by kernel_rfl
theorem slice_lh9 (b o n c l h : Nat) (h1 : l < h) (h2 : h ≤ c) (w : World) : (Instr.slice 26 (.slice (some ⟨b, o, none⟩) n c) (some (.int .i64 (l : Int))) (some (.int .i64 (h : Int))) none).run Try.prog w = .ok (.slice (some ⟨b, o + l * 3, none⟩) (h - l) (c - l)) w := by
  rw [run_slice_lh (P := Try.prog) w 26 (some ⟨b, o, none⟩) n c elem_nodes9 .i64 .i64 (l : Int) (h : Int) (by omega) (by omega) (by omega), elem_node9, size_node9]
  simp only [Result.andThen, sliced, Int.toNat_natCast]
  rw [if_neg (by omega)]
  by_cases hl : l = 0
  · subst hl; simp [Addr.add]
  · simp [Addr.add]; omega
theorem NIns.sub9 {w : World} {lo hi b o : Nat} {l : List (Int × Int × Int)} (h : NIns w lo hi (some ⟨b, o, none⟩) l) (p s : Nat) : NIns w lo hi (some ⟨b, o + p * 3, none⟩) ((l.drop p).take s) := by
  refine ⟨fun h0 => ?_, h.top⟩
  rw [List.length_take, List.length_drop] at h0
  obtain ⟨b', o', e, h1, h2, hc⟩ := h.nds (by omega)
  injection e with e
  injection e with e1 e2
  subst e1 e2
  refine ⟨b, o + p * 3, rfl, h1, h2, fun j x hx => ?_⟩
  have hj : j < s := by
    rcases Nat.lt_or_ge j ((l.drop p).take s).length with h3 | h3
    · rw [List.length_take] at h3; omega
    · rw [List.getElem?_eq_none h3] at hx; cases hx
  rw [List.getElem?_take_of_lt hj, List.getElem?_drop] at hx
  have := hc (p + j) x hx
  rw [show o + (p + j) * 3 = o + p * 3 + j * 3 by omega] at this
  exact this
theorem cut9_shift (d : Nat) : ∀ (t : T9) (p k : Nat), cut9 t (p + d) (k + d) = cut9 t p k
  | .leaf, p, k => rfl
  | .br q y m, p, k => by
    have h1 := cut9_shift d y (p + 1) k
    have h2 := cut9_shift d m (p + 1 + y.size) k
    rw [show p + 1 + d = p + d + 1 by omega] at h1
    rw [show p + 1 + y.size + d = p + d + 1 + y.size by omega] at h2
    unfold cut9
    rw [h1, h2]
    by_cases e1 : k ≤ p
    · rw [if_pos e1, if_pos (by omega)]
    · rw [if_neg e1, if_neg (by omega)]
      by_cases e2 : k < p + 1 + y.size
      · rw [if_pos e2, if_pos (by omega)]
      · rw [if_neg e2, if_neg (by omega)]
theorem cut9_size : ∀ (t : T9) (p k : Nat), (cut9 t p k).size ≤ t.size
  | .leaf, _, _ => Nat.le_refl _
  | .br q y m, p, k => by
    have h1 := cut9_size y (p + 1) k
    have h2 := cut9_size m (p + 1 + y.size) k
    unfold cut9
    split
    · simp only [T9.size]; omega
    · split
      · simp only [T9.size]; omega
      · simp only [T9.size]; omega
theorem leaf_row9k {w : World} {lo : Nat} (h : lo ≤ w.heap.size) : NMade (w.alloc (.cells #[.int .i64 (-1), .int .i64 (-1), .int .i64 (-1)] 56)) lo (w.alloc (.cells #[.int .i64 (-1), .int .i64 (-1), .int .i64 (-1)] 56)).heap.size (some ⟨w.heap.size, 0, none⟩) [lf9] :=
  made_rowN (alloc_row w _ _) h
set_option maxRecDepth 100000 in
set_option maxHeartbeats 16000000 in
theorem l9MovedC_any (A : Option Addr) (c lo hi : Nat) (l : List (Int × Int × Int)) (D : Int) (w : World) (hS : NIns w lo hi A l) (hF : Fit9 l) (hD : -254 ≤ D ∧ D ≤ 254) :
    Calls Try.prog 69 #[.slice A l.length c, .int .i64 D] w fun e w' => ∃ B d, e = .returned (.slice B (l.map (mov9 D)).length d) ∧ (l.map (mov9 D)).length ≤ d ∧ NMade w' w.heap.size w'.heap.size B (l.map (mov9 D)) ∧ Below w.heap.size w w' := by
  obtain ⟨i0, hi0, hz0, hz1, hz2⟩ := info_parts infoN9
  have HF := Lib.hid hF
  have htop := hS.top
  have HI := Lib.hid (hS.step ((Below.refl w.heap.size w).alloc (Nat.le_refl _) (.cells #[] 56)))
  have HB := Lib.hid ((Below.refl w.heap.size w).alloc (Nat.le_refl _) (.cells #[] 56))
  have HO := Lib.hid (N0_any w w.heap.size (Nat.le_refl _))
  have hl127 := hF.1
  clear hS hF
  go_enter Try.func69, Try.ntmps69
  go_wp2_with fail
  generalize w.alloc (.cells #[] 56) = w0 at HI HB HO ⊢
  go_loopw [5, 6] (fun ov i wr => ∃ (k : Nat), k ≤ l.length ∧ i = .int .i64 (k : Int) ∧ Hid (wr.ownsRow w.heap.size 56 3 ov ((l.take k).map (mov9 D)).length (cellsN ((l.take k).map (mov9 D)))) ∧ Hid (NIns wr lo hi A l) ∧ Hid (Below w.heap.size w wr)) (fun _ i _ => l.length - (intOf i).toNat)
  case atStart => exact ⟨0, Nat.zero_le _, rfl, HO, HI, HB⟩
  case round =>
    clear HO HI HB
    obtain ⟨k, hk, rfl, HO, HI, HB⟩ := hrel
    rename World => wr
    by_cases hlt : k < l.length
    · obtain ⟨bb, oo, rfl, hN⟩ := HI.out.at3 hlt
      have hki : (k : Int) < (l.length : Int) := by omega
      have hfit := HF.out.at_ hlt
      have HM := Lib.hid (map_take9 (d := D) hlt)
      have hml : ((l.take k).map (mov9 D)).length ≤ 127 := by rw [List.length_map, List.length_take]; omega
      have HNE := Lib.hid (fun g (e : some g = Value.ownBlock u5) => ownBlock_lt8 HO.out e)
      generalize l[k] = x at hN hfit HM
      obtain ⟨a, b', d⟩ := x
      have hc0 := hN.c0
      have hc1 := hN.c1
      have hc2 := hN.c2
      have hbl := hN.lt
      simp only at hc0 hc1 hc2 hfit
      clear hN
      generalize (l.take k).map (mov9 D) = L at HO HM hml
      by_cases hb0 : 0 ≤ b'
      · have hmv : mov9 D (a, b', d) = (a, b' + D, d + D) := by unfold mov9; rw [if_pos hb0]
        have hf2 : b' ≤ 254 ∧ 0 ≤ d ∧ d ≤ 254 := by omega
        have hf3 := hf2.1
        have hf4 := hf2.2.1
        have hf5 := hf2.2.2
        clear hf2 hfit
        rw [hmv] at HM
        clear hmv
        go_upto_region 9 with (fail)
        have hb1 := (Below.refl _ wr).alloc (Nat.le_refl _) (.cells #[.int .i64 a, .int .i64 (b' + D), .int .i64 (d + D)] 56)
        have HX := Lib.hid (Three.new wr (.int .i64 a) (.int .i64 (b' + D)) (.int .i64 (d + D)) 56 wr.heap.size rfl)
        replace HI := Lib.hid (HI.out.step hb1)
        replace HB := Lib.hid (below_trans HB.out hb1)
        replace HO := Lib.hid (past8 HO.out (Past.of_below hb1))
        clear hb1 hc0 hc1 hc2 hbl
        generalize wr.alloc (.cells #[.int .i64 a, .int .i64 (b' + D), .int .i64 (d + D)] 56) = w2 at HI HB HO HX ⊢
        have x0 := HX.out.c0
        have x1 := HX.out.c1
        have x2 := HX.out.c2
        have hws := HB.out.size
        go_wp2_with (at_builtin; refine wpList_append_own _ rfl (.tmp 32) (.tmp 34) 26 rfl w.heap.size 56 i0 (.agg #[.int .i64 0, .int .i64 0, .int .i64 0]) 3 24 Try.underlying26 hi0 hz0 hz1 hz2 rfl (by decide) _ _ _ rfl (HO.out.alloc _) ⟨w2.heap.size, 0, none⟩ 1 1 [.int .i64 a, .int .i64 (b' + D), .int .i64 (d + D)] rfl rfl (cell_three_new _ _ _ _ _) (cellsN_one [(a, b' + D, d + D)]) (by unfold maxLen; omega) (by omega) (by simp; omega) ?_; intro v' w7 hown' hgrow _; clear x0 x1 x2; have hp7 := pastGrown8 HO.out hgrow; have HO7 := Lib.hid (nds_snoc (x := (a, b' + D, d + D)) hown' rfl); have HI7 := Lib.hid (HI.out.past hp7 htop); have HB7 := Lib.hid (HB.out.trans (hp7.below (Nat.le_refl _) hws)); clear hp7 hown' hgrow)
        go_roundw
        case rel => exact ⟨k + 1, by omega, by go_num, by rw [HM.out]; exact HO7, HI7, HB7⟩
        case measure => simp [intOf]; omega
      · have hmv : mov9 D (a, b', d) = (a, b', d) := by unfold mov9; rw [if_neg hb0]
        have hbn : b' < 0 := by omega
        clear hfit
        rw [hmv] at HM
        clear hmv
        go_upto_region 9 with (fail)
        have hb1 := (Below.refl _ wr).alloc (Nat.le_refl _) (.cells #[.int .i64 a, .int .i64 b', .int .i64 d] 56)
        have HX := Lib.hid (Three.new wr (.int .i64 a) (.int .i64 b') (.int .i64 d) 56 wr.heap.size rfl)
        replace HI := Lib.hid (HI.out.step hb1)
        replace HB := Lib.hid (below_trans HB.out hb1)
        replace HO := Lib.hid (past8 HO.out (Past.of_below hb1))
        clear hb1 hc0 hc1 hc2 hbl
        generalize wr.alloc (.cells #[.int .i64 a, .int .i64 b', .int .i64 d] 56) = w2 at HI HB HO HX ⊢
        have x0 := HX.out.c0
        have x1 := HX.out.c1
        have x2 := HX.out.c2
        have hws := HB.out.size
        go_wp2_with (at_builtin; refine wpList_append_own _ rfl (.tmp 32) (.tmp 34) 26 rfl w.heap.size 56 i0 (.agg #[.int .i64 0, .int .i64 0, .int .i64 0]) 3 24 Try.underlying26 hi0 hz0 hz1 hz2 rfl (by decide) _ _ _ rfl (HO.out.alloc _) ⟨w2.heap.size, 0, none⟩ 1 1 [.int .i64 a, .int .i64 b', .int .i64 d] rfl rfl (cell_three_new _ _ _ _ _) (cellsN_one [(a, b', d)]) (by unfold maxLen; omega) (by omega) (by simp; omega) ?_; intro v' w7 hown' hgrow _; clear x0 x1 x2; have hp7 := pastGrown8 HO.out hgrow; have HO7 := Lib.hid (nds_snoc (x := (a, b', d)) hown' rfl); have HI7 := Lib.hid (HI.out.past hp7 htop); have HB7 := Lib.hid (HB.out.trans (hp7.below (Nat.le_refl _) hws)); clear hp7 hown' hgrow)
        go_roundw
        case rel => exact ⟨k + 1, by omega, by go_num, by rw [HM.out]; exact HO7, HI7, HB7⟩
        case measure => simp [intOf]; omega
    · obtain rfl : k = l.length := by omega
      rw [List.take_length] at HO
      go_wp2
      go_ret
      obtain ⟨Ae, ce, he, hcc, hR⟩ := own_resNC HO.out rfl
      rw [he]
      exact ⟨Ae, ce, rfl, hcc, hR, HB.out⟩
set_option maxRecDepth 100000 in
set_option maxHeartbeats 16000000 in
theorem l9Sub_any (n : Int) (b o c lo hi : Nat) (ns : List (Int × Int × Int)) (p : Nat) (t : T9) (w : World) (hS : NIns w lo hi (some ⟨b, o, none⟩) ns) (hn : ns.length ≤ 127) (hc : ns.length ≤ c) (hA : At9 ns p t) (hok : t.ok n) (hd : t.depth ≤ 6) :
    Calls Try.prog 42 #[.int .i64 n, .agg #[.slice (some ⟨b, o, none⟩) ns.length c], .int .i64 (p : Int)] w fun e w' => ∃ B d, e = .returned (.slice B t.size d) ∧ t.size ≤ d ∧ NMade w' w.heap.size w'.heap.size B (tell9 t 0) ∧ Below w.heap.size w w' := by
  have HT := Lib.hid (One.new w (.slice (some ⟨b, o, none⟩) ns.length c) 28 w.heap.size rfl)
  have HB := Lib.hid ((Below.refl w.heap.size w).alloc (Nat.le_refl _) (.cells #[.slice (some ⟨b, o, none⟩) ns.length c] 28))
  obtain ⟨i0, hi0, hz0, hz1, hz2⟩ := info_parts infoN9
  have HE := Lib.hid (fun W h => l9End_any n (some ⟨b, o, none⟩) c lo hi ns (by omega) 7 p 0 W (Nat.le_refl _) (by omega) h)
  rw [at_end9 hA hok (by omega)] at HE
  obtain ⟨E, hE⟩ : ∃ E : Nat, E = p + t.size := ⟨_, rfl⟩
  rw [← hE] at HE
  have hea : endA (some E) = (E : Int) := rfl
  rw [hea] at HE
  clear hea
  have hle := hA.le
  have hts := t.size_pos
  have hsl := slice_lh9 b o ns.length c p E (by omega) (by omega)
  rw [show E - p = t.size by omega] at hsl
  have hE0 : (0 : Int) ≤ (E : Int) := by omega
  have HNW := Lib.hid (fun W (h : NIns W lo hi (some ⟨b, o, none⟩) ns) => h.sub9 p t.size)
  rw [hA.drop] at HNW
  have HM := Lib.hid (fun A' c' lo' hi' W h => l9MovedC_any A' c' lo' hi' (tell9 t p) (-(p : Int)) W h (fit9_tell (by omega)) (by omega))
  rw [mov9_tell (-(p : Int)) t p 0 (by omega), tell9_len, tell9_len] at HM
  have hp0 : (0 : Int) ≤ (p : Int) := by omega
  have htl := tell9_len t p
  have HI := Lib.hid (hS.step HB.out)
  have htop := hS.top
  clear hS hA hok hd hE
  have HTL := Lib.hid htl
  clear htl
  have HSL := Lib.hid hsl
  clear hsl
  go_enter Try.func42, Try.ntmps42
  go_wp2_with fail
  generalize w.alloc (.cells #[.slice (some ⟨b, o, none⟩) ns.length c] 28) = w0 at HB HT HI ⊢
  have h0 := HT.out.c0
  with_reducible refine (HE.out _ HI.out).mono ?_
  rintro e w1 ⟨rfl, hb⟩
  replace HB := Lib.hid (below_trans HB.out hb)
  replace HT := Lib.hid (HT.out.step hb)
  replace HI := Lib.hid (HI.out.step hb)
  replace h0 := HT.out.c0
  clear hb
  clear h0
  have hbe := (Below.refl _ w1).alloc (Nat.le_refl _) (.cells #[] 56)
  have HO := Lib.hid (N0_any w1 w1.heap.size (Nat.le_refl _))
  have hws1 := HB.out.size
  have h0 := HT.out.c0
  have h1 := (HT.out.step hbe).c0
  have hsl := HSL.out
  have HNn := Lib.hid (HNW.out _ (HI.out.step hbe)).news
  have HB2 := Lib.hid (below_trans HB.out hbe)
  have hnn : (0 : Int) ≤ -(p : Int) ∨ -(p : Int) ≤ 0 := by omega
  go_upto_region 2 with (fail)
  clear h0
  go_wp2_with (at_builtin; refine wpList_append_own _ rfl (.tmp 16) (.tmp 21) 26 rfl w1.heap.size 56 i0 (.agg #[.int .i64 0, .int .i64 0, .int .i64 0]) 3 24 Try.underlying26 hi0 hz0 hz1 hz2 rfl (by decide) _ _ _ rfl HO.out ⟨b, o + p * 3, none⟩ t.size (c - p) (cellsN (tell9 t p)) rfl (by rw [cellsN_len, HTL.out]) HNn.out (cellsN_one _) (by unfold maxLen; omega) (by omega) (by simp) ?_; intro v' w7 hown' hgrow _)
  have hp7 := Past.of_within (within_grown8 HO.out hgrow) (Nat.le_refl _)
  have HO7 : Hid (w7.ownsRow w1.heap.size 56 3 v' (tell9 t p).length (cellsN (tell9 t p))) := Lib.hid (nds_append (l := []) (r := tell9 t p) hown' rfl HTL.out.symm)
  have HB7 := Lib.hid (HB2.out.trans (hp7.below (by omega) (by have := HB2.out.size; omega)))
  clear hp7 hown' hgrow h1 hsl
  obtain ⟨A8, c8, he, hcc, hR⟩ := own_resNC HO7.out rfl
  rw [HTL.out] at he hcc
  subst he
  have HR8 := Lib.hid hR.ins
  clear hR hcc HO7
  go_wp2_with fail
  with_reducible refine (HM.out _ _ _ _ _ HR8.out).mono ?_
  rintro e w9 ⟨B, d, rfl, hdd, hm, hb⟩
  have HB9 := Lib.hid (below_trans HB7.out hb)
  have hz7 := HB7.out.size
  have HMM := Lib.hid (hm.wide hz7 hm.top (Nat.le_refl _))
  have HDD := Lib.hid hdd
  clear hb hm hdd
  go_wp2
  go_ret
  exact ⟨B, d, rfl, HDD.out, HMM.out, HB9.out⟩
end Go.Proofs.Ytnomgnjfamideab
