/- Trees of questions: nodes that are moved and joined, of the specification. -/
import Derived.Test.YtnomgnjfamideabL9W
namespace Go.Proofs.Ytnomgnjfamideab
open Go.RowKit Go.ChangeShapes Go.WideShapes Go.Maps
set_option linter.unusedVariables false

/-- Nodes whose places are in bounds. -/
def Fit9 (l : List (Int × Int × Int)) : Prop := l.length ≤ 127 ∧ ∀ x ∈ l, x.2.1 < 0 ∨ (0 ≤ x.2.1 ∧ x.2.1 ≤ 254 ∧ 0 ≤ x.2.2 ∧ x.2.2 ≤ 254)
theorem Fit9.at_ {l : List (Int × Int × Int)} (h : Fit9 l) {k : Nat} (hk : k < l.length) : l[k].2.1 < 0 ∨ (0 ≤ l[k].2.1 ∧ l[k].2.1 ≤ 254 ∧ 0 ≤ l[k].2.2 ∧ l[k].2.2 ≤ 254) := h.2 _ (List.getElem_mem hk)
theorem fit9_tell {t : T9} {p : Nat} (h : p + t.size ≤ 127) : Fit9 (tell9 t p) := by
  refine ⟨by rw [tell9_len]; omega, fun x hx => ?_⟩
  rcases tell9_kind t p x hx with e | ⟨a, b, c, d, _⟩
  · left; rw [e]; decide
  · right; omega
theorem map_take9 {l : List (Int × Int × Int)} {d : Int} {k : Nat} (h : k < l.length) : (l.take (k + 1)).map (mov9 d) = (l.take k).map (mov9 d) ++ [mov9 d l[k]] := by
  rw [List.take_succ_eq_append_getElem h, List.map_append]
  rfl
theorem infoN9 : (Try.prog.info? 56).map (fun i => (i.zero, i.size, i.bytes)) = some (some (.agg #[.int .i64 0, .int .i64 0, .int .i64 0]), 3, 24) := by kernel_rfl
/-- The cells of a row that is there, as the news of an append. -/
theorem NIns.news {w : World} {lo hi : Nat} {b o : Nat} {l : List (Int × Int × Int)} (h : NIns w lo hi (some ⟨b, o, none⟩) l) : ∀ j u, (cellsN l)[j]? = some u → w.cell? ((⟨b, o, none⟩ : Addr).add j) = some u := by
  intro j u hu
  have hj : j < l.length * 3 := by
    rcases Nat.lt_or_ge j (cellsN l).length with h1 | h1
    · rwa [cellsN_len] at h1
    · rw [List.getElem?_eq_none h1] at hu; cases hu
  have hk : j / 3 < l.length := by omega
  obtain ⟨b', o', e, _, _, c0, c1, c2⟩ := h.nds.at_ hk
  injection e with e
  injection e with e1 e2
  subst e1 e2
  have hx := cellsN_at l (j / 3) _ (List.getElem?_eq_getElem hk)
  have hadd : (⟨b, o, none⟩ : Addr).add j = ⟨b, o + j, none⟩ := by
    unfold Addr.add
    split
    · simp_all
    · rfl
  rw [hadd]
  have hm : j % 3 = 0 ∨ j % 3 = 1 ∨ j % 3 = 2 := by omega
  rcases hm with e | e | e
  · rw [show j = j / 3 * 3 by omega] at hu ⊢
    rw [hx.1] at hu
    injection hu with hu
    rw [← hu]; exact c0
  · rw [show j = j / 3 * 3 + 1 by omega] at hu
    rw [hx.2.1] at hu
    injection hu with hu
    rw [← hu, show o + j = o + j / 3 * 3 + 1 by omega]; exact c1
  · rw [show j = j / 3 * 3 + 2 by omega] at hu
    rw [hx.2.2] at hu
    injection hu with hu
    rw [← hu, show o + j = o + j / 3 * 3 + 2 by omega]; exact c2
theorem NMade.some9 {w : World} {lo hi : Nat} {A : Option Addr} {l : List (Int × Int × Int)} (h : NMade w lo hi A l) (hl : 0 < l.length) : ∃ b, A = some ⟨b, 0, none⟩ ∧ lo ≤ b ∧ b < hi := by
  rcases h.own with ⟨_, e⟩ | ⟨g, cur, e, h1, h2, _⟩
  · rw [e] at hl; simp at hl
  · exact ⟨g, e, h1, h2⟩
theorem nds_append {w : World} {B n m : Nat} {v : Value} {l r : List (Int × Int × Int)} (h : w.ownsRow B 56 3 v (n + m) (cellsN l ++ cellsN r)) (hn : n = l.length) (hm : m = r.length) : w.ownsRow B 56 3 v (l ++ r).length (cellsN (l ++ r)) := by
  subst hn hm
  rw [cellsN_append, List.length_append]
  exact h
set_option maxRecDepth 100000 in
set_option maxHeartbeats 16000000 in
theorem l9Moved_any (A : Option Addr) (c lo hi : Nat) (l : List (Int × Int × Int)) (D : Int) (w : World) (hS : NIns w lo hi A l) (hF : Fit9 l) (hD : -254 ≤ D ∧ D ≤ 254) :
    Calls Try.prog 69 #[.slice A l.length c, .int .i64 D] w fun e w' => ∃ B d, e = .returned (.slice B (l.map (mov9 D)).length d) ∧ NMade w' w.heap.size w'.heap.size B (l.map (mov9 D)) ∧ Below w.heap.size w w' := by
  obtain ⟨i0, hi0, hz0, hz1, hz2⟩ := info_parts infoN9
  have HF := Lib.hid hF
  have htop := hS.top
  have HI := Lib.hid (hS.step ((Below.refl w.heap.size w).alloc (Nat.le_refl _) (.cells #[] 56)))
  have HB := Lib.hid ((Below.refl w.heap.size w).alloc (Nat.le_refl _) (.cells #[] 56))
  have HO := Lib.hid (N0_any w w.heap.size (Nat.le_refl _))
  have hl127 := hF.1
  clear hS hF
  go_enter Try.func69, Try.ntmps69
  go_wp2_with fail
  generalize w.alloc (.cells #[] 56) = w0 at HI HB HO ⊢
  go_loopw [5, 6] (fun ov i wr => ∃ (k : Nat), k ≤ l.length ∧ i = .int .i64 (k : Int) ∧ Hid (wr.ownsRow w.heap.size 56 3 ov ((l.take k).map (mov9 D)).length (cellsN ((l.take k).map (mov9 D)))) ∧ Hid (NIns wr lo hi A l) ∧ Hid (Below w.heap.size w wr)) (fun _ i _ => l.length - (intOf i).toNat)
  case atStart => exact ⟨0, Nat.zero_le _, rfl, HO, HI, HB⟩
  case round =>
    clear HO HI HB
    obtain ⟨k, hk, rfl, HO, HI, HB⟩ := hrel
    rename World => wr
    by_cases hlt : k < l.length
    · obtain ⟨bb, oo, rfl, hN⟩ := HI.out.at3 hlt
      have hki : (k : Int) < (l.length : Int) := by omega
      have hfit := HF.out.at_ hlt
      have HM := Lib.hid (map_take9 (d := D) hlt)
      have hml : ((l.take k).map (mov9 D)).length ≤ 127 := by rw [List.length_map, List.length_take]; omega
      have HNE := Lib.hid (fun g (e : some g = Value.ownBlock u5) => ownBlock_lt8 HO.out e)
      generalize l[k] = x at hN hfit HM
      obtain ⟨a, b', d⟩ := x
      have hc0 := hN.c0
      have hc1 := hN.c1
      have hc2 := hN.c2
      have hbl := hN.lt
      simp only at hc0 hc1 hc2 hfit
      clear hN
      generalize (l.take k).map (mov9 D) = L at HO HM hml
      by_cases hb0 : 0 ≤ b'
      · have hmv : mov9 D (a, b', d) = (a, b' + D, d + D) := by unfold mov9; rw [if_pos hb0]
        have hf2 : b' ≤ 254 ∧ 0 ≤ d ∧ d ≤ 254 := by omega
        have hf3 := hf2.1
        have hf4 := hf2.2.1
        have hf5 := hf2.2.2
        clear hf2 hfit
        rw [hmv] at HM
        clear hmv
        go_upto_region 9 with (fail)
        have hb1 := (Below.refl _ wr).alloc (Nat.le_refl _) (.cells #[.int .i64 a, .int .i64 (b' + D), .int .i64 (d + D)] 56)
        have HX := Lib.hid (Three.new wr (.int .i64 a) (.int .i64 (b' + D)) (.int .i64 (d + D)) 56 wr.heap.size rfl)
        replace HI := Lib.hid (HI.out.step hb1)
        replace HB := Lib.hid (below_trans HB.out hb1)
        replace HO := Lib.hid (past8 HO.out (Past.of_below hb1))
        clear hb1 hc0 hc1 hc2 hbl
        generalize wr.alloc (.cells #[.int .i64 a, .int .i64 (b' + D), .int .i64 (d + D)] 56) = w2 at HI HB HO HX ⊢
        have x0 := HX.out.c0
        have x1 := HX.out.c1
        have x2 := HX.out.c2
        have hws := HB.out.size
        go_wp2_with (at_builtin; refine wpList_append_own _ rfl (.tmp 32) (.tmp 34) 26 rfl w.heap.size 56 i0 (.agg #[.int .i64 0, .int .i64 0, .int .i64 0]) 3 24 Try.underlying26 hi0 hz0 hz1 hz2 rfl (by decide) _ _ _ rfl (HO.out.alloc _) ⟨w2.heap.size, 0, none⟩ 1 1 [.int .i64 a, .int .i64 (b' + D), .int .i64 (d + D)] rfl rfl (cell_three_new _ _ _ _ _) (cellsN_one [(a, b' + D, d + D)]) (by unfold maxLen; omega) (by omega) (by simp; omega) ?_; intro v' w7 hown' hgrow _; clear x0 x1 x2; have hp7 := pastGrown8 HO.out hgrow; have HO7 := Lib.hid (nds_snoc (x := (a, b' + D, d + D)) hown' rfl); have HI7 := Lib.hid (HI.out.past hp7 htop); have HB7 := Lib.hid (HB.out.trans (hp7.below (Nat.le_refl _) hws)); clear hp7 hown' hgrow)
        go_roundw
        case rel => exact ⟨k + 1, by omega, by go_num, by rw [HM.out]; exact HO7, HI7, HB7⟩
        case measure => simp [intOf]; omega
      · have hmv : mov9 D (a, b', d) = (a, b', d) := by unfold mov9; rw [if_neg hb0]
        have hbn : b' < 0 := by omega
        clear hfit
        rw [hmv] at HM
        clear hmv
        go_upto_region 9 with (fail)
        have hb1 := (Below.refl _ wr).alloc (Nat.le_refl _) (.cells #[.int .i64 a, .int .i64 b', .int .i64 d] 56)
        have HX := Lib.hid (Three.new wr (.int .i64 a) (.int .i64 b') (.int .i64 d) 56 wr.heap.size rfl)
        replace HI := Lib.hid (HI.out.step hb1)
        replace HB := Lib.hid (below_trans HB.out hb1)
        replace HO := Lib.hid (past8 HO.out (Past.of_below hb1))
        clear hb1 hc0 hc1 hc2 hbl
        generalize wr.alloc (.cells #[.int .i64 a, .int .i64 b', .int .i64 d] 56) = w2 at HI HB HO HX ⊢
        have x0 := HX.out.c0
        have x1 := HX.out.c1
        have x2 := HX.out.c2
        have hws := HB.out.size
        go_wp2_with (at_builtin; refine wpList_append_own _ rfl (.tmp 32) (.tmp 34) 26 rfl w.heap.size 56 i0 (.agg #[.int .i64 0, .int .i64 0, .int .i64 0]) 3 24 Try.underlying26 hi0 hz0 hz1 hz2 rfl (by decide) _ _ _ rfl (HO.out.alloc _) ⟨w2.heap.size, 0, none⟩ 1 1 [.int .i64 a, .int .i64 b', .int .i64 d] rfl rfl (cell_three_new _ _ _ _ _) (cellsN_one [(a, b', d)]) (by unfold maxLen; omega) (by omega) (by simp; omega) ?_; intro v' w7 hown' hgrow _; clear x0 x1 x2; have hp7 := pastGrown8 HO.out hgrow; have HO7 := Lib.hid (nds_snoc (x := (a, b', d)) hown' rfl); have HI7 := Lib.hid (HI.out.past hp7 htop); have HB7 := Lib.hid (HB.out.trans (hp7.below (Nat.le_refl _) hws)); clear hp7 hown' hgrow)
        go_roundw
        case rel => exact ⟨k + 1, by omega, by go_num, by rw [HM.out]; exact HO7, HI7, HB7⟩
        case measure => simp [intOf]; omega
    · obtain rfl : k = l.length := by omega
      rw [List.take_length] at HO
      go_wp2
      go_ret
      obtain ⟨Ae, ce, he, hR⟩ := own_resN HO.out rfl
      rw [he]
      exact ⟨Ae, ce, rfl, hR, HB.out⟩
set_option maxRecDepth 100000 in
set_option maxHeartbeats 16000000 in
theorem l9Join_any (q : Int) (A : Option Addr) (c lo hi : Nat) (a : List (Int × Int × Int)) (B : Option Addr) (d lo2 hi2 : Nat) (b : List (Int × Int × Int)) (w : World) (hA : NIns w lo hi A a) (hB : NIns w lo2 hi2 B b) (hfa : Fit9 a) (hfb : Fit9 b) (hpa : 0 < a.length) (hpb : 0 < b.length) :
    Calls Try.prog 59 #[.int .i64 q, .slice A a.length c, .slice B b.length d] w fun e w' => ∃ B d, e = .returned (.slice B (join9 q a b).length d) ∧ NMade w' w.heap.size w'.heap.size B (join9 q a b) ∧ Below w.heap.size w w' := by
  obtain ⟨i0, hi0, hz0, hz1, hz2⟩ := info_parts infoN9
  have HA := Lib.hid (fun W h => l9Moved_any A c lo hi a 1 W h hfa (by omega))
  have HBm := Lib.hid (fun W h => l9Moved_any B d lo2 hi2 b (1 + (a.length : Int)) W h hfb (by have := hfa.1; omega))
  have ha127 := hfa.1
  have hb127 := hfb.1
  have hJ : Hid (join9 q a b = ([(q, 1, 1 + (a.length : Int))] ++ a.map (mov9 1)) ++ b.map (mov9 (1 + (a.length : Int)))) := Lib.hid rfl
  have hla : (a.map (mov9 1)).length = a.length := by simp
  have hlb : (b.map (mov9 (1 + (a.length : Int)))).length = b.length := by simp
  rw [hla] at HA
  rw [hlb] at HBm
  have O := (Below.refl w.heap.size w).alloc (Nat.le_refl _) (.cells #[.int .i64 q, .int .i64 1, .int .i64 (1 + (a.length : Int))] 56)
  have HI := Lib.hid (hA.step O)
  have HI2 := Lib.hid (hB.step O)
  have HB := Lib.hid O
  have htA := hA.top
  have htB := hB.top
  have HO := Lib.hid (World.ownsRow_lit w (e := 56) (size := 3) (base := w.heap.size) #[.int .i64 q, .int .i64 1, .int .i64 (1 + (a.length : Int))] 1 (Nat.le_refl _) (by unfold maxLen; omega) rfl)
  have hLa : Hid ((1 + (a.length : Int)) = 1 + (a.length : Int)) := Lib.hid rfl
  clear O hA hB hfa hfb
  rw [hJ.out]
  generalize a.map (mov9 1) = ma at HA hla ⊢
  generalize b.map (mov9 (1 + (a.length : Int))) = mb at HBm hlb ⊢
  go_enter Try.func59, Try.ntmps59
  go_wp2_with fail
  generalize w.alloc (.cells #[.int .i64 q, .int .i64 1, .int .i64 (1 + (a.length : Int))] 56) = w0 at HI HI2 HB HO ⊢
  with_reducible refine (HA.out _ HI.out).mono ?_
  rintro e w1 ⟨Am, dm, rfl, hm, hb⟩
  replace HI := Lib.hid (HI.out.step hb)
  replace HI2 := Lib.hid (HI2.out.step hb)
  replace HB := Lib.hid (below_trans HB.out hb)
  replace HO := Lib.hid (past8 HO.out (Past.of_below hb))
  have HM := Lib.hid hm
  clear hm
  clear hb
  obtain ⟨bm, hbm, hb1, hb2⟩ := HM.out.some9 (by rw [hla]; exact hpa)
  subst hbm
  have HNw := Lib.hid HM.out.ins.news
  have hws := HB.out.size
  go_wp2_with (at_builtin; refine wpList_append_own _ rfl (.tmp 14) (.tmp 16) 26 rfl w.heap.size 56 i0 (.agg #[.int .i64 0, .int .i64 0, .int .i64 0]) 3 24 Try.underlying26 hi0 hz0 hz1 hz2 rfl (by decide) _ _ _ rfl HO.out ⟨bm, 0, none⟩ a.length dm (cellsN ma) rfl (by rw [cellsN_len, hla]) HNw.out (cellsN_one ma) (by unfold maxLen; omega) (by omega) hws ?_; intro v' w5 hown' hgrow _; have hp7 := Past.of_within (within_grown8 HO.out hgrow) (Nat.le_refl _); have HO5 : Hid (w5.ownsRow w.heap.size 56 3 v' ([(q, 1, 1 + (a.length : Int))] ++ ma).length (cellsN ([(q, 1, 1 + (a.length : Int))] ++ ma))) := Lib.hid (nds_append (l := [(q, 1, 1 + (a.length : Int))]) (r := ma) hown' rfl hla.symm); have HI5 := Lib.hid (HI2.out.past hp7 htB); have HB5 := Lib.hid (HB.out.trans (hp7.below (Nat.le_refl _) hws)); clear hp7 hown' hgrow)
  clear HO HI HI2 HB HM HNw HA hws
  have HO := HO5
  have HI2 := HI5
  have HB := HB5
  clear HO5 HI5 HB5
  with_reducible refine (HBm.out _ HI2.out).mono ?_
  rintro e w6 ⟨An, dn, rfl, hm, hb⟩
  replace HB := Lib.hid (below_trans HB.out hb)
  replace HO := Lib.hid (past8 HO.out (Past.of_below hb))
  have HM := Lib.hid hm
  clear hm
  clear hb
  obtain ⟨bm2, hbm, hb3, hb4⟩ := HM.out.some9 (by rw [hlb]; exact hpb)
  subst hbm
  have HNw := Lib.hid HM.out.ins.news
  have hws := HB.out.size
  have hl2 : ([(q, 1, 1 + (a.length : Int))] ++ ma).length = 1 + a.length := by rw [List.length_append, hla]; rfl
  go_wp2_with (at_builtin; refine wpList_append_own _ rfl (.tmp 18) (.tmp 23) 26 rfl w.heap.size 56 i0 (.agg #[.int .i64 0, .int .i64 0, .int .i64 0]) 3 24 Try.underlying26 hi0 hz0 hz1 hz2 rfl (by decide) _ _ _ rfl HO.out ⟨bm2, 0, none⟩ b.length dn (cellsN mb) rfl (by rw [cellsN_len, hlb]) HNw.out (cellsN_one mb) (by unfold maxLen; omega) (by omega) hws ?_; intro v' w7 hown' hgrow _; have hp7 := Past.of_within (within_grown8 HO.out hgrow) (Nat.le_refl _); have HO7 : Hid (w7.ownsRow w.heap.size 56 3 v' (([(q, 1, 1 + (a.length : Int))] ++ ma) ++ mb).length (cellsN (([(q, 1, 1 + (a.length : Int))] ++ ma) ++ mb))) := Lib.hid (nds_append (r := mb) hown' rfl hlb.symm); have HB7 := Lib.hid (HB.out.trans (hp7.below (Nat.le_refl _) hws)); clear hp7 hown' hgrow)
  go_wp2
  go_ret
  obtain ⟨Ae, ce, he, hR⟩ := own_resN HO7.out rfl
  rw [he]
  exact ⟨Ae, ce, rfl, hR, HB7.out⟩
end Go.Proofs.Ytnomgnjfamideab
