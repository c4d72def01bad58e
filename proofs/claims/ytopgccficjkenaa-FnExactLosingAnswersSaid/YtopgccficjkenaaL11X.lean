/- slices.Contains, l1Has; LosingAnswers: both. -/
import Derived.Test.YtopgccficjkenaaL11Z
import Derived.Deep.RegionHeld3
namespace Go.Proofs.Ytopgccficjkenaa
open Go.RowKit Go.ChangeShapes Go.WideShapes Go.Maps
set_option linter.unusedVariables false


set_option maxHeartbeats 4000000 in
theorem index_any11 (C : Option Addr) (cc lo hi : Nat) (l : List Int) (q : Int) (w : World) (hC : Ins w lo hi C l) (hn : l.length ≤ 1048576) :
    Calls Try.prog 106 #[.slice C l.length cc, .int .i64 q] w fun e w' => ∃ i : Int, e = .returned (.int .i64 i) ∧ (decide (0 ≤ i) = decide (q ∈ l)) ∧ w' = w := by
  have HC := Lib.hid hC
  have htop := hC.top
  clear hC
  go_enter Try.func106, Try.ntmps106
  go_wp2_with fail
  go_loopw [8] (fun i wr => ∃ k : Nat, k ≤ l.length ∧ i = .int .i64 (k : Int) ∧ Hid (∀ (j : Nat) (h : j < l.length), j < k → ¬ l[j] = q) ∧ wr = w) (fun i _ => l.length - (intOf i).toNat)
  case atStart => exact ⟨0, Nat.zero_le _, rfl, Lib.hid (fun j _ h => absurd h (by omega)), rfl⟩
  case round =>
    obtain ⟨k, hk, rfl, HN, rfl⟩ := hrel
    by_cases hlt : k < l.length
    · have hltI : (k : Int) < (l.length : Int) := by omega
      obtain ⟨b, o, rfl, _, _, hc⟩ := HC.out.ints.at_ hlt
      have HX : Hid (∀ x, x = l[k] → x = q → q ∈ l) := Lib.hid (fun x h1 h2 => by rw [← h2, h1]; exact List.getElem_mem _)
      have HY : Hid (∀ x, x = l[k] → ¬ x = q → ∀ (j : Nat) (h : j < l.length), j < k + 1 → ¬ l[j] = q) := Lib.hid (fun x h1 h2 j h hj => by
        by_cases e : j = k
        · subst e; rw [← h1]; exact h2
        · exact HN.out j h (by omega))
      obtain ⟨x, hx⟩ : ∃ x, x = l[k] := ⟨_, rfl⟩
      rw [← hx] at hc
      by_cases hxq : x = q
      · have HM := Lib.hid (HX.out x hx hxq)
        clear hx HX HY
        subst hxq
        go_wp2
        go_ret
        first | exact ⟨(k : Int), rfl, by simp [HM.out], rfl⟩ | exact ⟨(k : Int), by simp [HM.out]⟩ | simp [HM.out]
      · have HYr := Lib.hid (HY.out x hx hxq)
        have hqx : ¬ q = x := fun h => hxq h.symm
        clear hx HX HY
        go_wp2
        go_roundw
        case rel => exact ⟨k + 1, by omega, by go_num, HYr, by first | rfl | trivial⟩
        case measure => simp [intOf]; omega
    · obtain rfl : k = l.length := by omega
      have hltI : ¬ (l.length : Int) < (l.length : Int) := by omega
      have HM : Hid (¬ q ∈ l) := Lib.hid (fun h => by obtain ⟨j, hj, e⟩ := List.getElem_of_mem h; exact HN.out j hj hj e)
      go_wp2
      go_ret
      first | exact ⟨-1, rfl, by simp [HM.out], rfl⟩ | exact ⟨-1, by simp [HM.out]⟩ | simp [HM.out]

set_option maxHeartbeats 4000000 in
theorem l1Has_any11 (C : Option Addr) (cc lo hi : Nat) (l : List Int) (q : Int) (w : World) (hC : Ins w lo hi C l) (hn : l.length ≤ 1048576) :
    Calls Try.prog 93 #[.slice C l.length cc, .int .i64 q] w fun e w' => e = .returned (.bool (decide (q ∈ l))) ∧ w' = w := by
  have HC := Lib.hid hC
  have htop := hC.top
  clear hC
  go_enter Try.func93, Try.ntmps93
  go_wp2_with fail
  go_loopw [5] (fun i wr => ∃ k : Nat, k ≤ l.length ∧ i = .int .i64 (k : Int) ∧ Hid (∀ (j : Nat) (h : j < l.length), j < k → ¬ l[j] = q) ∧ wr = w) (fun i _ => l.length - (intOf i).toNat)
  case atStart => exact ⟨0, Nat.zero_le _, rfl, Lib.hid (fun j _ h => absurd h (by omega)), rfl⟩
  case round =>
    obtain ⟨k, hk, rfl, HN, rfl⟩ := hrel
    by_cases hlt : k < l.length
    · have hltI : (k : Int) < (l.length : Int) := by omega
      obtain ⟨b, o, rfl, _, _, hc⟩ := HC.out.ints.at_ hlt
      have HX : Hid (∀ x, x = l[k] → x = q → q ∈ l) := Lib.hid (fun x h1 h2 => by rw [← h2, h1]; exact List.getElem_mem _)
      have HY : Hid (∀ x, x = l[k] → ¬ x = q → ∀ (j : Nat) (h : j < l.length), j < k + 1 → ¬ l[j] = q) := Lib.hid (fun x h1 h2 j h hj => by
        by_cases e : j = k
        · subst e; rw [← h1]; exact h2
        · exact HN.out j h (by omega))
      obtain ⟨x, hx⟩ : ∃ x, x = l[k] := ⟨_, rfl⟩
      rw [← hx] at hc
      by_cases hxq : x = q
      · have HM := Lib.hid (HX.out x hx hxq)
        clear hx HX HY
        subst hxq
        go_wp2
        go_ret
        exact ⟨by rw [decide_eq_true HM.out]; rfl, rfl⟩
      · have HYr := Lib.hid (HY.out x hx hxq)
        have hqx : ¬ q = x := fun h => hxq h.symm
        clear hx HX HY
        go_wp2
        go_roundw
        case rel => exact ⟨k + 1, by omega, by go_num, HYr, by first | rfl | trivial⟩
        case measure => simp [intOf]; omega
    · obtain rfl : k = l.length := by omega
      have hltI : ¬ (l.length : Int) < (l.length : Int) := by omega
      have HM : Hid (¬ q ∈ l) := Lib.hid (fun h => by obtain ⟨j, hj, e⟩ := List.getElem_of_mem h; exact HN.out j hj hj e)
      go_wp2
      go_ret
      exact ⟨by rw [decide_eq_false HM.out]; rfl, rfl⟩

theorem contains_any11 (C : Option Addr) (cc lo hi : Nat) (l : List Int) (q : Int) (w : World) (hC : Ins w lo hi C l) (hn : l.length ≤ 1048576) :
    Calls Try.prog 76 #[.slice C l.length cc, .int .i64 q] w fun e w' => e = .returned (.bool (decide (q ∈ l))) ∧ w' = w := by
  have HI := Lib.hid (fun W h => index_any11 C cc lo hi l q W h hn)
  have HC := Lib.hid hC
  clear hC
  generalize decide (q ∈ l) = b at HI ⊢
  go_enter Try.func76, Try.ntmps76
  go_wp2_with fail
  with_reducible refine (HI.out w HC.out).mono ?_
  rintro e w1 ⟨i, rfl, hi, hw⟩
  have hw := hw.symm
  subst hw
  cases b with
  | true =>
    have hi := of_decide_eq_true hi
    go_wp2
    go_ret
    exact ⟨by first | rfl | simp [hi], rfl⟩
  | false =>
    have hi := of_decide_eq_false hi
    go_wp2
    go_ret
    exact ⟨by first | rfl | (simp [hi]; done) | (simp; omega), rfl⟩

set_option maxRecDepth 100000 in
set_option maxHeartbeats 8000000 in
theorem losingAnswers_impl_no (A : Option Addr) (c lo hi : Nat) (zs : List Int) (m : Int) (Q : Option Addr) (cq lo2 hi2 : Nat) (qs : List Int) (q : Int) (w : World) (hS : Ins w lo hi A zs) (hQ : Ins w lo2 hi2 Q qs) (hl : zs.length ≤ 1048576) (hn : qs.length ≤ 1048576) (hg : (beginB zs m && choB zs.length qs) = false) :
    Calls Try.prog 32 #[.agg #[.slice A zs.length c, .int .i64 m], .slice Q qs.length cq, .int .i64 q] w fun e w' => ∃ F c', e = .returned (.tuple #[.slice F (([] : List Bool)).length c', .bool false]) ∧ BRes w' w.heap.size w'.heap.size F ([]) ∧ Below w.heap.size w w' := by
  have HT := Lib.hid (Two.new w (.slice A zs.length c) (.int .i64 m) 26 w.heap.size rfl)
  have HB := Lib.hid ((Below.refl w.heap.size w).alloc (Nat.le_refl _) (.cells #[.slice A zs.length c, .int .i64 m] 26))
  have HQ := Lib.hid (hQ.step HB.out)
  have HS := Lib.hid (hS.step HB.out)
  have hqt := hQ.top
  have hst := hS.top
  have HRF := Lib.hid (fun W h1 h2 => raceFrom_no A c lo hi zs m Q cq lo2 hi2 qs W h1 h2 hl hn hg)
  have HCH := Lib.hid (fun W h2 => choicesAt_any none 0 0 0 [] (.map none) A c lo hi zs m W ⟨Ints.nil, Nat.zero_le _⟩ h2 (by simp) (.inl rfl))
  have hnil : choL [] zs = [] := rfl
  rw [hnil] at HCH
  simp only [List.length_nil] at HCH
  clear hnil
  clear hS hQ hg
  go_enter Try.func32, Try.ntmps32
  go_wp2_with fail
  generalize w.alloc (.cells #[.slice A zs.length c, .int .i64 m] 26) = w0 at HT HB HQ HS ⊢
  have t0 := HT.out.c0
  have t1 := HT.out.c1
  go_wp2_with fail
  with_reducible refine (HRF.out w0 HS.out HQ.out).mono ?_
  rintro e w1 ⟨rfl, hb⟩
  replace HT := Lib.hid (HT.out.step hb)
  replace HQ := Lib.hid (HQ.out.step hb)
  replace HS := Lib.hid (HS.out.step hb)
  replace HB := Lib.hid (below_trans HB.out hb)
  clear hb t0 t1 HRF
  go_upto_region 2 with (fail)
  have HN := Lib.hid (Two.new w1 (.slice none 0 0) (.map none) 81 w1.heap.size rfl)
  have hb := (Below.refl w1.heap.size w1).alloc (Nat.le_refl _) (.cells #[.slice none 0 0, .map none] 81)
  replace HT := Lib.hid (HT.out.step hb)
  replace HQ := Lib.hid (HQ.out.step hb)
  replace HS := Lib.hid (HS.out.step hb)
  replace HB := Lib.hid (below_trans HB.out hb)
  clear hb
  generalize w1.heap.size = b8 at HN ⊢
  generalize w1.alloc (.cells #[.slice none 0 0, .map none] 81) = w2 at HT HQ HS HB HN ⊢
  have t0 := HT.out.c0
  have t1 := HT.out.c1
  have n0 := HN.out.c0
  have n1 := HN.out.c1
  go_wp2_with fail
  with_reducible refine (HCH.out w2 HS.out).mono ?_
  rintro e w3 ⟨C, c3, rfl, _, hr, hb⟩
  have HCI := Lib.hid hr.ins
  replace HT := Lib.hid (HT.out.step hb)
  replace HQ := Lib.hid (HQ.out.step hb)
  replace HS := Lib.hid (HS.out.step hb)
  replace HN := Lib.hid (HN.out.step hb)
  replace HB := Lib.hid (below_trans HB.out hb)
  clear hb hr t0 t1 n0 n1 HCH
  have HCO := Lib.hid (fun W h => contains_any11 C c3 w2.heap.size w3.heap.size [] q W h (by simp))
  simp only [List.length_nil, List.not_mem_nil, decide_false] at HCO
  go_wp2_with ((go_at_call 76; (with_reducible refine (HCO.out w3 HCI.out).mono ?_); rintro e wX ⟨rfl, hw⟩; have hw := hw.symm; subst hw))
  have hsz := HB.out.size
  have HX := Lib.hid (show BRes (w3.alloc (.cells #[] 4)) w.heap.size (w3.alloc (.cells #[] 4)).heap.size (some ⟨w3.heap.size, 0, none⟩) [] from BRes.new w3 [] w.heap.size hsz)
  replace HB := Lib.hid (HB.out.alloc hsz (.cells #[] 4))
  go_ret2
  first | exact ⟨_, _, rfl, HX.out, HB.out⟩ | exact ⟨_, ⟨_, rfl⟩, HX.out, HB.out⟩ | exact ⟨⟨_, rfl⟩, HX.out, HB.out⟩ | exact ⟨rfl, HX.out, HB.out⟩ | exact ⟨HX.out, HB.out⟩
set_option maxRecDepth 100000 in
set_option maxHeartbeats 8000000 in
theorem losingAnswers_impl_out (A : Option Addr) (c lo hi : Nat) (zs : List Int) (m : Int) (Q : Option Addr) (cq lo2 hi2 : Nat) (qs : List Int) (q : Int) (w : World) (hS : Ins w lo hi A zs) (hQ : Ins w lo2 hi2 Q qs) (hl : zs.length ≤ 1048576) (hn : qs.length ≤ 1048576) (hg : (beginB zs m && choB zs.length qs) = true) (hqm : ¬ q ∈ choL qs zs) :
    Calls Try.prog 32 #[.agg #[.slice A zs.length c, .int .i64 m], .slice Q qs.length cq, .int .i64 q] w fun e w' => ∃ F c', e = .returned (.tuple #[.slice F (([] : List Bool)).length c', .bool false]) ∧ BRes w' w.heap.size w'.heap.size F ([]) ∧ Below w.heap.size w w' := by
  have hg' := hg
  rw [Bool.and_eq_true] at hg'
  obtain ⟨M, rfl, hs, hd0⟩ := begin_short hg'.1
  have HT := Lib.hid (Two.new w (.slice A zs.length c) (.int .i64 (M : Int)) 26 w.heap.size rfl)
  have HB := Lib.hid ((Below.refl w.heap.size w).alloc (Nat.le_refl _) (.cells #[.slice A zs.length c, .int .i64 (M : Int)] 26))
  have HQ := Lib.hid (hQ.step HB.out)
  have HS := Lib.hid (hS.step HB.out)
  have hqt := hQ.top
  have hst := hS.top
  have HRF := Lib.hid (fun W h1 h2 => raceFrom_yes A c lo hi zs (M : Int) Q cq lo2 hi2 qs W h1 h2 hl hn hg)
  have HCH := Lib.hid (fun g W h1 h2 => choicesAt_any Q cq lo2 hi2 qs (.map (some g)) A c lo hi zs (M : Int) W h1 h2 hn (.inr ⟨hs.valid, choB_ok hg'.2⟩))
  have HDQ : Hid (decide (q ∈ choL qs zs) = false) := Lib.hid (decide_eq_false hqm)
  clear hs hd0 hg' hqm
  clear hS hQ hg
  go_enter Try.func32, Try.ntmps32
  go_wp2_with fail
  generalize w.alloc (.cells #[.slice A zs.length c, .int .i64 (M : Int)] 26) = w0 at HT HB HQ HS ⊢
  have t0 := HT.out.c0
  have t1 := HT.out.c1
  go_wp2_with fail
  with_reducible refine (HRF.out w0 HS.out HQ.out).mono ?_
  rintro e w1 ⟨g, rfl, hg, hm, hb⟩
  have HM := Lib.hid hm
  have hsz0 := HB.out.size
  replace HT := Lib.hid (HT.out.step hb)
  replace HQ := Lib.hid (HQ.out.step hb)
  replace HS := Lib.hid (HS.out.step hb)
  replace HB := Lib.hid (below_trans HB.out hb)
  clear hb t0 t1 HRF hm
  go_upto_region 2 with (fail)
  have hlg := HM.out.lt
  have HN := Lib.hid (Two.new w1 (.slice Q qs.length cq) (.map (some g)) 81 w1.heap.size rfl)
  have hb := (Below.refl w1.heap.size w1).alloc (Nat.le_refl _) (.cells #[.slice Q qs.length cq, .map (some g)] 81)
  replace HT := Lib.hid (HT.out.step hb)
  replace HQ := Lib.hid (HQ.out.step hb)
  replace HS := Lib.hid (HS.out.step hb)
  replace HM := Lib.hid (HM.out.step hb)
  replace HB := Lib.hid (below_trans HB.out hb)
  clear hb
  generalize w1.heap.size = b8 at HN hlg ⊢
  generalize w1.alloc (.cells #[.slice Q qs.length cq, .map (some g)] 81) = w2 at HT HQ HS HB HN HM ⊢
  have t0 := HT.out.c0
  have t1 := HT.out.c1
  have n0 := HN.out.c0
  have n1 := HN.out.c1
  go_wp2_with fail
  with_reducible refine (HCH.out g w2 HQ.out HS.out).mono ?_
  rintro e w3 ⟨C, c3, rfl, _, hr, hb⟩
  have HCI := Lib.hid hr.ins
  replace HT := Lib.hid (HT.out.step hb)
  replace HQ := Lib.hid (HQ.out.step hb)
  replace HS := Lib.hid (HS.out.step hb)
  replace HN := Lib.hid (HN.out.step hb)
  replace HM := Lib.hid (HM.out.step hb)
  replace HB := Lib.hid (below_trans HB.out hb)
  clear hb hr t0 t1 n0 n1 HCH
  have HCO := Lib.hid (fun W h => contains_any11 C c3 w2.heap.size w3.heap.size (choL qs zs) q W h (Nat.le_trans (List.length_filter_le _ _) hn))
  rw [HDQ.out] at HCO
  go_wp2_with ((go_at_call 76; (with_reducible refine (HCO.out w3 HCI.out).mono ?_); rintro e wX ⟨rfl, hw⟩; have hw := hw.symm; subst hw))
  have hsz := HB.out.size
  have HX := Lib.hid (show BRes (w3.alloc (.cells #[] 4)) w.heap.size (w3.alloc (.cells #[] 4)).heap.size (some ⟨w3.heap.size, 0, none⟩) [] from BRes.new w3 [] w.heap.size hsz)
  replace HB := Lib.hid (HB.out.alloc hsz (.cells #[] 4))
  go_ret2
  first | exact ⟨_, _, rfl, HX.out, HB.out⟩ | exact ⟨_, ⟨_, rfl⟩, HX.out, HB.out⟩ | exact ⟨⟨_, rfl⟩, HX.out, HB.out⟩ | exact ⟨rfl, HX.out, HB.out⟩ | exact ⟨HX.out, HB.out⟩
set_option maxRecDepth 100000 in
set_option maxHeartbeats 8000000 in
theorem losingAnswers_impl_yes (A : Option Addr) (c lo hi : Nat) (zs : List Int) (m : Int) (Q : Option Addr) (cq lo2 hi2 : Nat) (qs : List Int) (q : Int) (w : World) (hS : Ins w lo hi A zs) (hQ : Ins w lo2 hi2 Q qs) (hl : zs.length ≤ 1048576) (hn : qs.length ≤ 1048576) (hg : (beginB zs m && choB zs.length qs) = true) (hqm : q ∈ choL qs zs) :
    Calls Try.prog 32 #[.agg #[.slice A zs.length c, .int .i64 m], .slice Q qs.length cq, .int .i64 q] w fun e w' => ∃ F c', e = .returned (.tuple #[.slice F (loseL m.toNat qs zs q).length c', .bool true]) ∧ BRes w' w.heap.size w'.heap.size F (loseL m.toNat qs zs q) ∧ Below w.heap.size w w' := by
  have hg' := hg
  rw [Bool.and_eq_true] at hg'
  obtain ⟨M, rfl, hs, hd0⟩ := begin_short hg'.1
  rw [Int.toNat_natCast]
  have HT := Lib.hid (Two.new w (.slice A zs.length c) (.int .i64 (M : Int)) 26 w.heap.size rfl)
  have HB := Lib.hid ((Below.refl w.heap.size w).alloc (Nat.le_refl _) (.cells #[.slice A zs.length c, .int .i64 (M : Int)] 26))
  have HQ := Lib.hid (hQ.step HB.out)
  have HS := Lib.hid (hS.step HB.out)
  have hqt := hQ.top
  have hst := hS.top
  have HRF := Lib.hid (fun W h1 h2 => raceFrom_yes A c lo hi zs (M : Int) Q cq lo2 hi2 qs W h1 h2 hl hn hg)
  have HCH := Lib.hid (fun g W h1 h2 => choicesAt_any Q cq lo2 hi2 qs (.map (some g)) A c lo hi zs (M : Int) W h1 h2 hn (.inr ⟨hs.valid, choB_ok hg'.2⟩))
  have HLT := Lib.hid (fun g W h1 h2 h3 h4 h5 => losingTo_any M qs zs q hs (choB_ok hg'.2 q (mem_choL.1 hqm).1) (fun y => outlookAt_any M qs _ (hs.after q y) (by rw [afters_len]; exact choB_ok hg'.2) (choB_len hg'.2).2) Q cq lo2 hi2 A c lo hi W g h1 h2 h3 h4 h5)
  have HDQ : Hid (decide (q ∈ choL qs zs) = true) := Lib.hid (decide_eq_true hqm)
  clear hs hd0 hg' hqm
  clear hS hQ hg
  go_enter Try.func32, Try.ntmps32
  go_wp2_with fail
  generalize w.alloc (.cells #[.slice A zs.length c, .int .i64 (M : Int)] 26) = w0 at HT HB HQ HS ⊢
  have t0 := HT.out.c0
  have t1 := HT.out.c1
  go_wp2_with fail
  with_reducible refine (HRF.out w0 HS.out HQ.out).mono ?_
  rintro e w1 ⟨g, rfl, hg, hm, hb⟩
  have HM := Lib.hid hm
  have hsz0 := HB.out.size
  replace HT := Lib.hid (HT.out.step hb)
  replace HQ := Lib.hid (HQ.out.step hb)
  replace HS := Lib.hid (HS.out.step hb)
  replace HB := Lib.hid (below_trans HB.out hb)
  clear hb t0 t1 HRF hm
  go_upto_region 2 with (fail)
  have hlg := HM.out.lt
  have HN := Lib.hid (Two.new w1 (.slice Q qs.length cq) (.map (some g)) 81 w1.heap.size rfl)
  have hb := (Below.refl w1.heap.size w1).alloc (Nat.le_refl _) (.cells #[.slice Q qs.length cq, .map (some g)] 81)
  replace HT := Lib.hid (HT.out.step hb)
  replace HQ := Lib.hid (HQ.out.step hb)
  replace HS := Lib.hid (HS.out.step hb)
  replace HM := Lib.hid (HM.out.step hb)
  replace HB := Lib.hid (below_trans HB.out hb)
  clear hb
  generalize w1.heap.size = b8 at HN hlg ⊢
  generalize w1.alloc (.cells #[.slice Q qs.length cq, .map (some g)] 81) = w2 at HT HQ HS HB HN HM ⊢
  have t0 := HT.out.c0
  have t1 := HT.out.c1
  have n0 := HN.out.c0
  have n1 := HN.out.c1
  go_wp2_with fail
  with_reducible refine (HCH.out g w2 HQ.out HS.out).mono ?_
  rintro e w3 ⟨C, c3, rfl, _, hr, hb⟩
  have HCI := Lib.hid hr.ins
  replace HT := Lib.hid (HT.out.step hb)
  replace HQ := Lib.hid (HQ.out.step hb)
  replace HS := Lib.hid (HS.out.step hb)
  replace HN := Lib.hid (HN.out.step hb)
  replace HM := Lib.hid (HM.out.step hb)
  replace HB := Lib.hid (below_trans HB.out hb)
  clear hb hr t0 t1 n0 n1 HCH
  have HCO := Lib.hid (fun W h => contains_any11 C c3 w2.heap.size w3.heap.size (choL qs zs) q W h (Nat.le_trans (List.length_filter_le _ _) hn))
  rw [HDQ.out] at HCO
  go_upto_region 4 with ((go_at_call 76; (with_reducible refine (HCO.out w3 HCI.out).mono ?_); rintro e wX ⟨rfl, hw⟩; have hw := hw.symm; subst hw))
  have t0 := HT.out.c0
  have t1 := HT.out.c1
  have n0 := HN.out.c0
  have n1 := HN.out.c1
  go_wp2_with fail
  with_reducible refine (HLT.out g w3 HM.out HQ.out (.inl (by omega)) HS.out (.inl (by omega))).mono ?_
  rintro e w4 ⟨F, c', rfl, _, hr, _, hw⟩
  have hsz := HB.out.size
  have HX := Lib.hid (bres_wide hr hsz)
  replace HB := Lib.hid (HB.out.trans (hw.below (by omega) HB.out.size))
  clear hr hw t0 t1 n0 n1
  go_wp2
  go_ret2
  first | exact ⟨_, _, rfl, HX.out, HB.out⟩ | exact ⟨_, ⟨_, rfl⟩, HX.out, HB.out⟩ | exact ⟨⟨_, rfl⟩, HX.out, HB.out⟩ | exact ⟨rfl, HX.out, HB.out⟩ | exact ⟨HX.out, HB.out⟩
set_option maxRecDepth 100000 in
set_option maxHeartbeats 16000000 in
theorem losingAnswers_spec_no (A : Option Addr) (c lo hi : Nat) (zs : List Int) (m : Int) (Q : Option Addr) (cq lo2 hi2 : Nat) (qs : List Int) (q : Int) (w : World) (hS : Ins w lo hi A zs) (hQ : Ins w lo2 hi2 Q qs) (hl : zs.length ≤ 1048576) (hn : qs.length ≤ 1048576) (hg : (beginB zs m && choB zs.length qs) = false) :
    Calls Try.prog 44 #[.agg #[.slice A zs.length c, .int .i64 m], .slice Q qs.length cq, .int .i64 q] w fun e w' => ∃ F c', e = .returned (.tuple #[.slice F (([] : List Bool)).length c', .bool false]) ∧ BRes w' w.heap.size w'.heap.size F ([]) ∧ Below w.heap.size w w' := by
  have HT := Lib.hid (Two.new w (.slice A zs.length c) (.int .i64 m) 26 w.heap.size rfl)
  have HB := Lib.hid ((Below.refl w.heap.size w).alloc (Nat.le_refl _) (.cells #[.slice A zs.length c, .int .i64 m] 26))
  have HQ := Lib.hid (hQ.step HB.out)
  have HS := Lib.hid (hS.step HB.out)
  have HG := Lib.hid (fun W h1 h2 => l11Good_any A c lo hi zs m Q cq lo2 hi2 qs W h1 h2 hl hn)
  rw [hg] at HG
  clear hS hQ hg
  go_enter Try.func44, Try.ntmps44
  go_wp2_with fail
  generalize w.alloc (.cells #[.slice A zs.length c, .int .i64 m] 26) = w0 at HT HB HQ HS ⊢
  have t0 := HT.out.c0
  have t1 := HT.out.c1
  go_wp2_with fail
  with_reducible refine (HG.out w0 HS.out HQ.out).mono ?_
  rintro e w1 ⟨rfl, hb⟩
  replace HT := Lib.hid (HT.out.step hb)
  replace HQ := Lib.hid (HQ.out.step hb)
  replace HS := Lib.hid (HS.out.step hb)
  replace HB := Lib.hid (below_trans HB.out hb)
  clear hb t0 t1 HG
  have t0 := HT.out.c0
  have t1 := HT.out.c1
  go_wp2
  have hsz := HB.out.size
  have HX := Lib.hid (show BRes (w1.alloc (.cells #[] 4)) w.heap.size (w1.alloc (.cells #[] 4)).heap.size (some ⟨w1.heap.size, 0, none⟩) [] from BRes.new w1 [] w.heap.size hsz)
  replace HB := Lib.hid (HB.out.alloc hsz (.cells #[] 4))
  go_ret2
  first | exact ⟨_, _, rfl, HX.out, HB.out⟩ | exact ⟨_, ⟨_, rfl⟩, HX.out, HB.out⟩ | exact ⟨⟨_, rfl⟩, HX.out, HB.out⟩ | exact ⟨rfl, HX.out, HB.out⟩ | exact ⟨HX.out, HB.out⟩
set_option maxRecDepth 100000 in
set_option maxHeartbeats 16000000 in
theorem losingAnswers_spec_out (A : Option Addr) (c lo hi : Nat) (zs : List Int) (m : Int) (Q : Option Addr) (cq lo2 hi2 : Nat) (qs : List Int) (q : Int) (w : World) (hS : Ins w lo hi A zs) (hQ : Ins w lo2 hi2 Q qs) (hl : zs.length ≤ 1048576) (hn : qs.length ≤ 1048576) (hg : (beginB zs m && choB zs.length qs) = true) (hqm : ¬ q ∈ choL qs zs) :
    Calls Try.prog 44 #[.agg #[.slice A zs.length c, .int .i64 m], .slice Q qs.length cq, .int .i64 q] w fun e w' => ∃ F c', e = .returned (.tuple #[.slice F (([] : List Bool)).length c', .bool false]) ∧ BRes w' w.heap.size w'.heap.size F ([]) ∧ Below w.heap.size w w' := by
  have hg' := hg
  rw [Bool.and_eq_true] at hg'
  obtain ⟨M, rfl, hs, hd0⟩ := begin_short hg'.1
  have hl5 := hs.len
  have HT := Lib.hid (Two.new w (.slice A zs.length c) (.int .i64 (M : Int)) 26 w.heap.size rfl)
  have HB := Lib.hid ((Below.refl w.heap.size w).alloc (Nat.le_refl _) (.cells #[.slice A zs.length c, .int .i64 (M : Int)] 26))
  have HQ := Lib.hid (hQ.step HB.out)
  have HS := Lib.hid (hS.step HB.out)
  have HG := Lib.hid (fun W h1 h2 => l11Good_any A c lo hi zs (M : Int) Q cq lo2 hi2 qs W h1 h2 hl hn)
  rw [hg] at HG
  have HCH := Lib.hid (fun W h1 h2 => l11Choices_any A c lo hi zs (M : Int) Q cq lo2 hi2 qs W h1 h2 hn (by omega))
  have HDQ : Hid (decide (q ∈ choL qs zs) = false) := Lib.hid (decide_eq_false hqm)
  clear hs hd0 hg' hqm
  clear hS hQ hg
  go_enter Try.func44, Try.ntmps44
  go_wp2_with fail
  generalize w.alloc (.cells #[.slice A zs.length c, .int .i64 (M : Int)] 26) = w0 at HT HB HQ HS ⊢
  have t0 := HT.out.c0
  have t1 := HT.out.c1
  go_wp2_with fail
  with_reducible refine (HG.out w0 HS.out HQ.out).mono ?_
  rintro e w1 ⟨rfl, hb⟩
  replace HT := Lib.hid (HT.out.step hb)
  replace HQ := Lib.hid (HQ.out.step hb)
  replace HS := Lib.hid (HS.out.step hb)
  replace HB := Lib.hid (below_trans HB.out hb)
  clear hb t0 t1 HG
  have t0 := HT.out.c0
  have t1 := HT.out.c1
  go_wp2_with fail
  with_reducible refine (HCH.out w1 HS.out HQ.out).mono ?_
  rintro e w2 ⟨C, c3, rfl, _, hr, hb⟩
  have HCI := Lib.hid hr.ins
  replace HT := Lib.hid (HT.out.step hb)
  replace HQ := Lib.hid (HQ.out.step hb)
  replace HS := Lib.hid (HS.out.step hb)
  replace HB := Lib.hid (below_trans HB.out hb)
  clear hb hr t0 t1 HCH
  have HCO := Lib.hid (fun W h => l1Has_any11 C c3 w1.heap.size w2.heap.size (choL qs zs) q W h (Nat.le_trans (List.length_filter_le _ _) hn))
  rw [HDQ.out] at HCO
  go_wp2_with ((go_at_call 93; (with_reducible refine (HCO.out w2 HCI.out).mono ?_); rintro e wX ⟨rfl, hw⟩; have hw := hw.symm; subst hw))
  have hsz := HB.out.size
  have HX := Lib.hid (show BRes (w2.alloc (.cells #[] 4)) w.heap.size (w2.alloc (.cells #[] 4)).heap.size (some ⟨w2.heap.size, 0, none⟩) [] from BRes.new w2 [] w.heap.size hsz)
  replace HB := Lib.hid (HB.out.alloc hsz (.cells #[] 4))
  go_ret2
  first | exact ⟨_, _, rfl, HX.out, HB.out⟩ | exact ⟨_, ⟨_, rfl⟩, HX.out, HB.out⟩ | exact ⟨⟨_, rfl⟩, HX.out, HB.out⟩ | exact ⟨rfl, HX.out, HB.out⟩ | exact ⟨HX.out, HB.out⟩
set_option maxRecDepth 100000 in
set_option maxHeartbeats 16000000 in
theorem losingAnswers_spec_yes (A : Option Addr) (c lo hi : Nat) (zs : List Int) (m : Int) (Q : Option Addr) (cq lo2 hi2 : Nat) (qs : List Int) (q : Int) (w : World) (hS : Ins w lo hi A zs) (hQ : Ins w lo2 hi2 Q qs) (hl : zs.length ≤ 1048576) (hn : qs.length ≤ 1048576) (hg : (beginB zs m && choB zs.length qs) = true) (hqm : q ∈ choL qs zs) :
    Calls Try.prog 44 #[.agg #[.slice A zs.length c, .int .i64 m], .slice Q qs.length cq, .int .i64 q] w fun e w' => ∃ F c', e = .returned (.tuple #[.slice F (loseL m.toNat qs zs q).length c', .bool true]) ∧ BRes w' w.heap.size w'.heap.size F (loseL m.toNat qs zs q) ∧ Below w.heap.size w w' := by
  have hg' := hg
  rw [Bool.and_eq_true] at hg'
  obtain ⟨M, rfl, hs, hd0⟩ := begin_short hg'.1
  have hl5 := hs.len
  rw [Int.toNat_natCast]
  have HT := Lib.hid (Two.new w (.slice A zs.length c) (.int .i64 (M : Int)) 26 w.heap.size rfl)
  have HB := Lib.hid ((Below.refl w.heap.size w).alloc (Nat.le_refl _) (.cells #[.slice A zs.length c, .int .i64 (M : Int)] 26))
  have HQ := Lib.hid (hQ.step HB.out)
  have HS := Lib.hid (hS.step HB.out)
  have HG := Lib.hid (fun W h1 h2 => l11Good_any A c lo hi zs (M : Int) Q cq lo2 hi2 qs W h1 h2 hl hn)
  rw [hg] at HG
  have HCH := Lib.hid (fun W h1 h2 => l11Choices_any A c lo hi zs (M : Int) Q cq lo2 hi2 qs W h1 h2 hn (by omega))
  have HDQ : Hid (decide (q ∈ choL qs zs) = true) := Lib.hid (decide_eq_true hqm)
  have HFc := Lib.hid (fun W h1 h2 => l11Facts_any A c lo hi zs M Q cq lo2 hi2 qs W h1 h2 hs (choB_ok hg'.2) (choB_len hg'.2).2)
  have HLO := Lib.hid (fun B ct T W h1 h2 h3 => l11Losing_any A c lo hi zs M B ct qs q T W h1 h2 hs hqm h3)
  clear hs hd0 hg' hqm
  clear hS hQ hg
  go_enter Try.func44, Try.ntmps44
  go_wp2_with fail
  generalize w.alloc (.cells #[.slice A zs.length c, .int .i64 (M : Int)] 26) = w0 at HT HB HQ HS ⊢
  have t0 := HT.out.c0
  have t1 := HT.out.c1
  go_wp2_with fail
  with_reducible refine (HG.out w0 HS.out HQ.out).mono ?_
  rintro e w1 ⟨rfl, hb⟩
  replace HT := Lib.hid (HT.out.step hb)
  replace HQ := Lib.hid (HQ.out.step hb)
  replace HS := Lib.hid (HS.out.step hb)
  replace HB := Lib.hid (below_trans HB.out hb)
  clear hb t0 t1 HG
  have t0 := HT.out.c0
  have t1 := HT.out.c1
  go_wp2_with fail
  with_reducible refine (HCH.out w1 HS.out HQ.out).mono ?_
  rintro e w2 ⟨C, c3, rfl, _, hr, hb⟩
  have HCI := Lib.hid hr.ins
  replace HT := Lib.hid (HT.out.step hb)
  replace HQ := Lib.hid (HQ.out.step hb)
  replace HS := Lib.hid (HS.out.step hb)
  replace HB := Lib.hid (below_trans HB.out hb)
  clear hb hr t0 t1 HCH
  have HCO := Lib.hid (fun W h => l1Has_any11 C c3 w1.heap.size w2.heap.size (choL qs zs) q W h (Nat.le_trans (List.length_filter_le _ _) hn))
  rw [HDQ.out] at HCO
  go_upto_region 3 with ((go_at_call 93; (with_reducible refine (HCO.out w2 HCI.out).mono ?_); rintro e wX ⟨rfl, hw⟩; have hw := hw.symm; subst hw))
  have t0 := HT.out.c0
  have t1 := HT.out.c1
  obtain ⟨top, htp⟩ : ∃ t, t = (M + 2) ^ zs.length := ⟨_, rfl⟩
  rw [← htp] at HFc HLO
  clear htp
  go_region_held3 (fun w' => w'.cell? ⟨w.heap.size, 0, none⟩ = some (.slice A zs.length c) ∧ w'.cell? ⟨w.heap.size, 1, none⟩ = some (.int .i64 (M : Int)))
    (first | exact ⟨(HT.out.step (Below.refl _ w2).drew).c0, (HT.out.step (Below.refl _ w2).drew).c1⟩ | exact ⟨HT_1.out.c0, HT_1.out.c1⟩ | exact ⟨HT_2.out.c0, HT_2.out.c1⟩)
    (first
     | (go_at_call 81; (with_reducible refine (HLO.out g top T v1 (HS.out.step HZ1.out) HFT.out HTK.out).mono ?_); rintro e v2 ⟨F, c', rfl, _, hr, hb⟩; have HZ2 := Lib.hid (below_trans HZ1.out hb); have hz1 := HZ1.out.size; have HT_2 := Lib.hid (HT.out.step HZ2.out); have HRR := Lib.hid hr; clear hb hr)
     | (go_at_call 65; (with_reducible refine (HFc.out w2.drew (HS.out.step (Below.refl _ w2).drew) (HQ.out.step (Below.refl _ w2).drew)).mono ?_); rintro e v1 ⟨g, T, rfl, hg, hf, htk, hb⟩; have HZ1 := Lib.hid (below_trans (Below.refl _ w2).drew hb); have HT_1 := Lib.hid (HT.out.step HZ1.out); have HFT := Lib.hid hf; have HTK := Lib.hid htk; clear hb hf htk))
  all_goals
    have hsz := HB.out.size
    have HX := Lib.hid (bres_wide HRR.out (show w.heap.size ≤ v1.heap.size by omega))
    replace HB := Lib.hid (below_trans HB.out HZ2.out)
    go_wp2
    go_ret2
    first | exact ⟨_, _, rfl, HX.out, HB.out⟩ | exact ⟨_, ⟨_, rfl⟩, HX.out, HB.out⟩ | exact ⟨⟨_, rfl⟩, HX.out, HB.out⟩ | exact ⟨rfl, HX.out, HB.out⟩ | exact ⟨HX.out, HB.out⟩
theorem losingAnswers_both (zs : List Int) (m : Int) (h : zs.length ≤ 1048576) (qs : List Int) (h2 : qs.length ≤ 1048576) (q : Int) : ∃ (r0 : List Bool) (r1 : Bool), r0.length ≤ 1048576 ∧
    (∀ (w : World) (B : Option Addr) (c lo hi : Nat) (B2 : Option Addr) (c2 lo2 hi2 : Nat), Ins w lo hi B zs → Ins w lo2 hi2 B2 qs → Calls Try.prog 32 #[.agg #[.slice B zs.length c, .int .i64 m], .slice B2 qs.length c2, .int .i64 q] w fun e w' => ∃ B c', e = .returned (.tuple #[.slice B r0.length c', .bool r1]) ∧ BRes w' w.heap.size w'.heap.size B r0 ∧ Below w.heap.size w w') ∧
    (∀ (w : World) (B : Option Addr) (c lo hi : Nat) (B2 : Option Addr) (c2 lo2 hi2 : Nat), Ins w lo hi B zs → Ins w lo2 hi2 B2 qs → Calls Try.prog 44 #[.agg #[.slice B zs.length c, .int .i64 m], .slice B2 qs.length c2, .int .i64 q] w fun e w' => ∃ B c', e = .returned (.tuple #[.slice B r0.length c', .bool r1]) ∧ BRes w' w.heap.size w'.heap.size B r0 ∧ Below w.heap.size w w') := by
  cases hg : (beginB zs m && choB zs.length qs) with
  | false => exact ⟨[], false, by simp, fun w B c lo hi B2 c2 lo2 hi2 hS hS2 => losingAnswers_impl_no B c lo hi zs m B2 c2 lo2 hi2 qs q w hS hS2 h h2 hg, fun w B c lo hi B2 c2 lo2 hi2 hS hS2 => losingAnswers_spec_no B c lo hi zs m B2 c2 lo2 hi2 qs q w hS hS2 h h2 hg⟩
  | true =>
    by_cases hqm : q ∈ choL qs zs
    · exact ⟨loseL m.toNat qs zs q, true, Nat.le_trans (List.length_filter_le _ _) (by simp), fun w B c lo hi B2 c2 lo2 hi2 hS hS2 => losingAnswers_impl_yes B c lo hi zs m B2 c2 lo2 hi2 qs q w hS hS2 h h2 hg hqm, fun w B c lo hi B2 c2 lo2 hi2 hS hS2 => losingAnswers_spec_yes B c lo hi zs m B2 c2 lo2 hi2 qs q w hS hS2 h h2 hg hqm⟩
    · exact ⟨[], false, by simp, fun w B c lo hi B2 c2 lo2 hi2 hS hS2 => losingAnswers_impl_out B c lo hi zs m B2 c2 lo2 hi2 qs q w hS hS2 h h2 hg hqm, fun w B c lo hi B2 c2 lo2 hi2 hS hS2 => losingAnswers_spec_out B c lo hi zs m B2 c2 lo2 hi2 qs q w hS hS2 h h2 hg hqm⟩

end Go.Proofs.Ytopgccficjkenaa
