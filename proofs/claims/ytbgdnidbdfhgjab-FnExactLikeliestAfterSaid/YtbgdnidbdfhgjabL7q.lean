/- ChancesAfter, of both sides. -/
import Derived.Test.YtbgdnidbdfhgjabL7p
import Derived.Test.YtbgdnidbdfhgjabRow8
import Derived.Test.YtbgdnidbdfhgjabL6R
namespace Go.Proofs.Ytbgdnidbdfhgjab
open Go.RowKit Go.ChangeShapes Go.WideShapes Go.Maps
set_option linter.unusedVariables false

theorem row_ownN {w : World} {B n : Nat} {v : Value} {f : Nat → Nat} (h : w.ownsRow B 3 1 v n ((zsN f n).map (Value.int .i64))) (h0 : 0 < n) : ∃ g c, v = .slice (some ⟨g, 0, none⟩) n c ∧ B ≤ g ∧ Own w g (g + 1) (some ⟨g, 0, none⟩) (zsN f n) := by
  obtain ⟨g, c, e, hb, hi⟩ := own_rowS6 h (zsN_len f n).symm h0
  rw [zsN_len] at e
  exact ⟨g, c, e, hb, hi⟩
theorem zsN_atP (f : Nat → Nat) {n k : Nat} (h : k < n) : (zsN f n)[k]? = some ((f k : Nat) : Int) := by simp [zsN, h]
theorem chP_take (a b : Nat) (l : List (Int × Bool)) {n k : Nat} (h : k < n) : (chP a b l n).take (k + 1) = (chP a b l n).take k ++ [(((fr1 (g7 a b l k) (sumF (g7 a b l) n) : Nat) : Int), ((fr2 (g7 a b l k) (sumF (g7 a b l) n) : Nat) : Int))] := by
  have hk : k < (chP a b l n).length := by rw [chP_len]; exact h
  rw [List.take_succ_eq_append_getElem hk, chP_at a b l hk]
theorem PMade.wide {w : World} {lo hi lo' : Nat} {A : Option Addr} {l : List (Int × Int)} (h : PMade w lo hi A l) (hl : lo' ≤ lo) : PMade w lo' hi A l := by
  refine ⟨?_, h.top⟩
  rcases h.own with h | ⟨g, cur, e, h1, h2, r⟩
  · exact .inl h
  · exact .inr ⟨g, cur, e, Nat.le_trans hl h1, h2, r⟩
theorem PMade.top_up {w : World} {lo hi : Nat} {A : Option Addr} {l : List (Int × Int)} (h : PMade w lo hi A l) : PMade w lo w.heap.size A l := by
  refine ⟨?_, Nat.le_refl _⟩
  rcases h.own with e | ⟨g, cur, e, h1, h2, r⟩
  · exact .inl e
  · exact .inr ⟨g, cur, e, h1, Nat.lt_of_lt_of_le h2 h.top, r⟩

set_option maxRecDepth 100000 in
set_option maxHeartbeats 4000000 in
theorem chancesAfter_spec (n a b : Nat) (A : Option Addr) (c lo hi : Nat) (l : List (Int × Bool)) (w : World) (hS : AIns w lo hi A l) (hg : Given n a b l) (hpos : 0 < sumF (g7 a b l) n) :
    Calls Try.prog 9 #[.int .i64 (n : Int), .slice A l.length c, .agg #[.int .i64 (a : Int), .int .i64 (b : Int)]] w fun e w' => ∃ B d, e = .returned (.tuple #[.slice B (chP a b l n).length d, .bool true]) ∧ PMade w' w.heap.size w'.heap.size B (chP a b l n) ∧ Below w.heap.size w w' := by
  have HT := Lib.hid (Two.new w (.int .i64 (a : Int)) (.int .i64 (b : Int)) 31 (w.heap.size) rfl)
  have HB := Lib.hid ((Below.refl w.heap.size w).alloc (Nat.le_refl _) (.cells #[.int .i64 (a : Int), .int .i64 (b : Int)] 31))
  obtain ⟨i0, hi0, hz0, hz1, hz2⟩ := info_parts infoP
  have HI := Lib.hid (hS.step HB.out)
  have hb1 := (Below.refl _ (w.alloc (.cells #[.int .i64 (a : Int), .int .i64 (b : Int)] 31))).alloc (Nat.le_refl _) (.cells #[] 85)
  have O0 := Lib.hid (P0_any (w.alloc (.cells #[.int .i64 (a : Int), .int .i64 (b : Int)] 31)) (w.heap.size + 1) (by simp))
  replace HT := Lib.hid (HT.out.step hb1)
  replace HI := Lib.hid (HI.out.step hb1)
  replace HB := Lib.hid (below_trans HB.out hb1)
  have hsz1 : (w.alloc (.cells #[.int .i64 (a : Int), .int .i64 (b : Int)] 31)).heap.size = w.heap.size + 1 := by simp
  rw [hsz1] at O0
  have HA := Lib.hid (fun W h => l7Answers_any (n : Int) (a : Int) (b : Int) A c lo hi l W h (by have := hg.l12; omega))
  rw [hg.yes] at HA
  have HD := Lib.hid (fun W h => l7After_any n a b A c lo hi l W h hg)
  have hn12 := hg.n12
  have hn1 := hg.n1
  have hs := hg.sum n (Nat.le_refl _)
  have HCT := Lib.hid (fun (W : World) (k : Nat) => l7Cut_any (g7 a b l k) (sumF (g7 a b l) n) hpos (by have := hg.bd k; omega) (by omega) W)
  have HCP := Lib.hid (fun k (h : k < n) => chP_take a b l h)
  have HLN := Lib.hid (chP_len a b l n)
  have HFU := Lib.hid (List.take_length (l := chP a b l n))
  have hSp : (0 : Int) < ((sumF (g7 a b l) n : Nat) : Int) := by omega
  generalize chP a b l n = L at HCP HLN HFU ⊢
  generalize sumF (g7 a b l) n = S at HD HCT HCP hs hpos hSp
  clear hS hg hb1 hsz1
  go_enter Try.func9, Try.ntmps9
  go_wp2_with fail
  generalize (w.alloc (.cells #[.int .i64 (a : Int), .int .i64 (b : Int)] 31)).alloc (.cells #[] 85) = w0 at HT HB HI O0 ⊢
  have h0 := HT.out.c0
  have h1 := HT.out.c1
  with_reducible refine (HA.out _ HI.out).mono ?_
  rintro e w1 ⟨rfl, hb⟩
  replace HT := Lib.hid (HT.out.step hb)
  replace HB := Lib.hid (below_trans HB.out hb)
  replace HI := Lib.hid (HI.out.step hb)
  replace O0 := Lib.hid (past8 O0.out (Past.of_below hb))
  replace h0 := HT.out.c0
  replace h1 := HT.out.c1
  clear hb
  go_wp2_with fail
  with_reducible refine (HD.out _ HI.out).mono ?_
  rintro e w2 ⟨v, rfl, hrow, hb⟩
  have hsz2 := HB.out.size
  replace HB := Lib.hid (below_trans HB.out hb)
  replace O0 := Lib.hid (past8 O0.out (Past.of_below hb))
  clear hb h0 h1 HI HT HA HD
  obtain ⟨gr, cr, rfl, hgr, hOr⟩ := row_ownN hrow (by omega)
  have HW := Lib.hid hOr
  clear hrow hOr
  have hsp := HCP.out
  go_wp2_with fail
  clear hsp
  go_loopw [8, 11] (fun out i wr => ∃ (k : Nat), k ≤ n ∧ i = .int .i64 (k : Int) ∧ Hid (wr.ownsRow (w.heap.size + 1) 85 2 out (L.take k).length (cellsP (L.take k))) ∧ Hid (Own wr gr (gr + 1) (some ⟨gr, 0, none⟩) (zsN (g7 a b l) n)) ∧ Hid (Below w.heap.size w wr)) (fun _ i _ => n - (intOf i).toNat)
  case atStart => exact ⟨0, Nat.zero_le _, rfl, (by first | exact O0.out | exact O0), HW, HB⟩
  case round =>
    clear O0 HW HB
    obtain ⟨k, hk, rfl, HO, HW, HB⟩ := hrel
    rename World => wr
    by_cases hlt : k < n
    · obtain ⟨cur, hcr, hcs, hcc⟩ := own_at HW.out
      have hcell : wr.cell? ⟨gr, k, none⟩ = some (.int .i64 ((g7 a b l k : Nat) : Int)) := by rw [row_cellI hcr]; exact hcc k _ (zsN_atP (g7 a b l) hlt)
      have HF := Lib.hid (HCP.out k hlt)
      have HC := Lib.hid (fun W => HCT.out W k)
      have hlk : (L.take k).length ≤ 12 := by rw [List.length_take]; omega
      generalize fr1 (g7 a b l k) S = X at HF HC
      generalize fr2 (g7 a b l k) S = Y at HF HC
      generalize ((g7 a b l k : Nat) : Int) = x at hcell HC
      generalize L.take k = f at HO HF hlk
      clear hcr hcs hcc
      have hki : (k : Int) < (n : Int) := by omega
      go_wp2_with fail
      refine (HC.out _).mono ?_
      rintro e w3 ⟨rfl, hb⟩
      have HO3 := Lib.hid (past8 HO.out (Past.of_below hb))
      have HW3 := Lib.hid (own_same HW.out (hb.block gr (own_lt HW.out)))
      have HB3 := Lib.hid (below_trans HB.out hb)
      clear hb HO HW HB HC hcell
      have hown := HO3.out
      have hsz3 := HB3.out.size
      go_wp2_with (at_builtin; refine wpList_append_own _ rfl _ _ 26 rfl (w.heap.size + 1) 85 i0 (.agg #[.int .i64 0, .int .i64 0]) 2 16 Try.underlying26 hi0 hz0 hz1 hz2 rfl (by decide) _ _ _ rfl (hown.alloc _) ⟨w3.heap.size, 0, none⟩ 1 1 [.int .i64 (X : Int), .int .i64 (Y : Int)] rfl rfl (cell_two_newP _ _ _ _) (by simp [Value.oneCell']) (by unfold maxLen; omega) (by omega) (by simp; omega) ?_; intro v' w4 hown' hgrow _)
      have HO4 := Lib.hid (prs_snoc hown' rfl)
      rw [← HF.out] at HO4
      have hps := pastGrown8 hown hgrow
      have HW4 := Lib.hid (grown_own8 hown HW3.out (by decide) hgrow)
      have HB4 := Lib.hid (HB3.out.trans (hps.below (Nat.le_succ _) HB3.out.size))
      clear hown' hgrow hown HO3 HW3 HB3 hps
      go_wp2
      go_roundw
      case rel => exact ⟨k + 1, by omega, by go_num, HO4, HW4, HB4⟩
      case measure => simp [intOf]; omega
    · obtain rfl : k = n := by omega
      have hfull := HFU.out
      rw [HLN.out] at hfull
      rw [hfull] at HO
      obtain ⟨Br, cr2, rfl, hM⟩ := own_resP HO.out rfl
      have HM := Lib.hid (hM.wide (lo' := w.heap.size) (Nat.le_succ _))
      clear hM HO
      go_wp2
      go_ret2
      exact ⟨_, _, rfl, HM.out, HB.out⟩
set_option maxRecDepth 100000 in
set_option maxHeartbeats 2000000 in
theorem chancesAfter_impl_no1 (n a b : Int) (A : Option Addr) (c lo hi : Nat) (l : List (Int × Bool)) (w : World) (hS : AIns w lo hi A l) (hl : l.length ≤ 1048576) (h : givenB n l a b = false) :
    Calls Try.prog 12 #[.int .i64 n, .slice A l.length c, .agg #[.int .i64 a, .int .i64 b]] w fun e w' => ∃ B d, e = .returned (.tuple #[.slice B 0 d, .bool false]) ∧ PMade w' w.heap.size w'.heap.size B [] ∧ Below w.heap.size w w' := by
  have HT := Lib.hid (Two.new w (.int .i64 a) (.int .i64 b) 31 (w.heap.size) rfl)
  have HB := Lib.hid ((Below.refl w.heap.size w).alloc (Nat.le_refl _) (.cells #[.int .i64 a, .int .i64 b] 31))
  have HI := Lib.hid (hS.step HB.out)
  have HD := Lib.hid (fun W hh => drawsAfter_no n a b A c lo hi l W hh hl h)
  clear hS
  go_enter Try.func12, Try.ntmps12
  go_wp2_with fail
  generalize w.alloc (.cells #[.int .i64 a, .int .i64 b] 31) = w0 at HT HB HI ⊢
  have h0 := HT.out.c0
  have h1 := HT.out.c1
  with_reducible refine (HD.out _ HI.out).mono ?_
  rintro e w1 ⟨v, rfl, hb⟩
  replace HB := Lib.hid (below_trans HB.out hb)
  clear hb
  clear h0 h1
  have HE := Lib.hid (empty_madeP w1 w.heap.size HB.out.size)
  replace HB := Lib.hid (HB.out.alloc HB.out.size (.cells #[] 85))
  go_wp2
  go_ret2
  exact ⟨_, _, rfl, HE.out, HB.out⟩
set_option maxRecDepth 100000 in
set_option maxHeartbeats 2000000 in
theorem chancesAfter_impl_no2 (n a b : Nat) (A : Option Addr) (c lo hi : Nat) (l : List (Int × Bool)) (w : World) (hS : AIns w lo hi A l) (hg : Given n a b l) (hpos : ¬ 0 < sumF (g7 a b l) n) :
    Calls Try.prog 12 #[.int .i64 (n : Int), .slice A l.length c, .agg #[.int .i64 (a : Int), .int .i64 (b : Int)]] w fun e w' => ∃ B d, e = .returned (.tuple #[.slice B 0 d, .bool false]) ∧ PMade w' w.heap.size w'.heap.size B [] ∧ Below w.heap.size w w' := by
  have HT := Lib.hid (Two.new w (.int .i64 (a : Int)) (.int .i64 (b : Int)) 31 (w.heap.size) rfl)
  have HB := Lib.hid ((Below.refl w.heap.size w).alloc (Nat.le_refl _) (.cells #[.int .i64 (a : Int), .int .i64 (b : Int)] 31))
  have HI := Lib.hid (hS.step HB.out)
  have HD := Lib.hid (fun W h => drawsAfter_impl n a b A c lo hi l W h hg)
  rw [show decide (0 < sumF (g7 a b l) n) = false from decide_eq_false hpos] at HD
  clear hS
  go_enter Try.func12, Try.ntmps12
  go_wp2_with fail
  generalize w.alloc (.cells #[.int .i64 (a : Int), .int .i64 (b : Int)] 31) = w0 at HT HB HI ⊢
  have h0 := HT.out.c0
  have h1 := HT.out.c1
  with_reducible refine (HD.out _ HI.out).mono ?_
  rintro e w1 ⟨g, rfl, hgl, hrow, hb⟩
  replace HB := Lib.hid (below_trans HB.out hb)
  clear hb hrow
  clear h0 h1
  have HE := Lib.hid (empty_madeP w1 w.heap.size HB.out.size)
  replace HB := Lib.hid (HB.out.alloc HB.out.size (.cells #[] 85))
  go_wp2
  go_ret2
  exact ⟨_, _, rfl, HE.out, HB.out⟩
set_option maxRecDepth 100000 in
set_option maxHeartbeats 2000000 in
theorem chancesAfter_spec_no1 (n a b : Int) (A : Option Addr) (c lo hi : Nat) (l : List (Int × Bool)) (w : World) (hS : AIns w lo hi A l) (hl : l.length ≤ 1048576) (h : givenB n l a b = false) :
    Calls Try.prog 9 #[.int .i64 n, .slice A l.length c, .agg #[.int .i64 a, .int .i64 b]] w fun e w' => ∃ B d, e = .returned (.tuple #[.slice B 0 d, .bool false]) ∧ PMade w' w.heap.size w'.heap.size B [] ∧ Below w.heap.size w w' := by
  have HT := Lib.hid (Two.new w (.int .i64 a) (.int .i64 b) 31 (w.heap.size) rfl)
  have HB := Lib.hid ((Below.refl w.heap.size w).alloc (Nat.le_refl _) (.cells #[.int .i64 a, .int .i64 b] 31))
  have HI := Lib.hid (hS.step HB.out)
  have hb1 := (Below.refl _ (w.alloc (.cells #[.int .i64 a, .int .i64 b] 31))).alloc (Nat.le_refl _) (.cells #[] 85)
  have HE := Lib.hid (empty_madeP (w.alloc (.cells #[.int .i64 a, .int .i64 b] 31)) w.heap.size HB.out.size)
  replace HT := Lib.hid (HT.out.step hb1)
  replace HI := Lib.hid (HI.out.step hb1)
  replace HB := Lib.hid (below_trans HB.out hb1)
  have hsz1 : (w.alloc (.cells #[.int .i64 a, .int .i64 b] 31)).heap.size = w.heap.size + 1 := by simp
  rw [hsz1] at HE
  have HA := Lib.hid (fun W hh => l7Answers_any n a b A c lo hi l W hh hl)
  rw [h] at HA
  clear hS h hb1 hsz1
  go_enter Try.func9, Try.ntmps9
  go_wp2_with fail
  generalize (w.alloc (.cells #[.int .i64 a, .int .i64 b] 31)).alloc (.cells #[] 85) = w0 at HT HB HI HE ⊢
  have h0 := HT.out.c0
  have h1 := HT.out.c1
  with_reducible refine (HA.out _ HI.out).mono ?_
  rintro e w1 ⟨rfl, hb⟩
  replace HB := Lib.hid (below_trans HB.out hb)
  replace HE := Lib.hid (HE.out.step hb).top_up
  clear hb
  clear h0 h1
  go_wp2
  go_ret2
  exact ⟨_, _, rfl, HE.out, HB.out⟩
set_option maxRecDepth 100000 in
set_option maxHeartbeats 2000000 in
theorem chancesAfter_spec_no2 (n a b : Nat) (A : Option Addr) (c lo hi : Nat) (l : List (Int × Bool)) (w : World) (hS : AIns w lo hi A l) (hg : Given n a b l) (hpos : ¬ 0 < sumF (g7 a b l) n) :
    Calls Try.prog 9 #[.int .i64 (n : Int), .slice A l.length c, .agg #[.int .i64 (a : Int), .int .i64 (b : Int)]] w fun e w' => ∃ B d, e = .returned (.tuple #[.slice B 0 d, .bool false]) ∧ PMade w' w.heap.size w'.heap.size B [] ∧ Below w.heap.size w w' := by
  have HT := Lib.hid (Two.new w (.int .i64 (a : Int)) (.int .i64 (b : Int)) 31 (w.heap.size) rfl)
  have HB := Lib.hid ((Below.refl w.heap.size w).alloc (Nat.le_refl _) (.cells #[.int .i64 (a : Int), .int .i64 (b : Int)] 31))
  have HI := Lib.hid (hS.step HB.out)
  have hb1 := (Below.refl _ (w.alloc (.cells #[.int .i64 (a : Int), .int .i64 (b : Int)] 31))).alloc (Nat.le_refl _) (.cells #[] 85)
  have HE := Lib.hid (empty_madeP (w.alloc (.cells #[.int .i64 (a : Int), .int .i64 (b : Int)] 31)) w.heap.size HB.out.size)
  replace HT := Lib.hid (HT.out.step hb1)
  replace HI := Lib.hid (HI.out.step hb1)
  replace HB := Lib.hid (below_trans HB.out hb1)
  have hsz1 : (w.alloc (.cells #[.int .i64 (a : Int), .int .i64 (b : Int)] 31)).heap.size = w.heap.size + 1 := by simp
  rw [hsz1] at HE
  have HA := Lib.hid (fun W h => l7Answers_any (n : Int) (a : Int) (b : Int) A c lo hi l W h (by have := hg.l12; omega))
  rw [hg.yes] at HA
  have HD := Lib.hid (fun W h => l7After_any n a b A c lo hi l W h hg)
  have hz : sumF (g7 a b l) n = 0 := by omega
  rw [hz, show ((0 : Nat) : Int) = 0 from rfl] at HD
  have hn1 := hg.n1
  have hn1i : (0 : Int) < (n : Int) := by omega
  clear hS hb1 hsz1 hz hpos hg
  go_enter Try.func9, Try.ntmps9
  go_wp2_with fail
  generalize (w.alloc (.cells #[.int .i64 (a : Int), .int .i64 (b : Int)] 31)).alloc (.cells #[] 85) = w0 at HT HB HI HE ⊢
  have h0 := HT.out.c0
  have h1 := HT.out.c1
  with_reducible refine (HA.out _ HI.out).mono ?_
  rintro e w1 ⟨rfl, hb⟩
  replace HT := Lib.hid (HT.out.step hb)
  replace HB := Lib.hid (below_trans HB.out hb)
  replace HI := Lib.hid (HI.out.step hb)
  replace HE := Lib.hid (HE.out.step hb)
  replace h0 := HT.out.c0
  replace h1 := HT.out.c1
  clear hb
  go_wp2_with fail
  with_reducible refine (HD.out _ HI.out).mono ?_
  rintro e w2 ⟨v, rfl, hrow, hb⟩
  replace HB := Lib.hid (below_trans HB.out hb)
  replace HE := Lib.hid (HE.out.step hb).top_up
  clear hb hrow h0 h1 HT HI HA HD
  go_wp2_with fail
  go_loopw [8, 11] (fun out i wr => i = .int .i64 0 ∧ out = .slice (some ⟨w.heap.size + 1, 0, none⟩) 0 0 ∧ Hid (wr = w2)) (fun _ i _ => 1)
  case atStart => exact ⟨rfl, rfl, Lib.hid rfl⟩
  case round =>
    obtain ⟨rfl, rfl, HWW⟩ := hrel
    have hww := HWW.out
    subst hww
    go_wp2
    go_ret2
    exact ⟨_, ⟨_, rfl⟩, HE.out, HB.out⟩

def chB (n : Int) (l : List (Int × Bool)) (a b : Int) : Bool := givenB n l a b && decide (0 < sumF (g7 a.toNat b.toNat l) n.toNat)
def chL (n : Int) (l : List (Int × Bool)) (a b : Int) : List (Int × Int) := if chB n l a b = true then chP a.toNat b.toNat l n.toNat else []
theorem chL_le (n : Int) (l : List (Int × Bool)) (a b : Int) : (chL n l a b).length ≤ 12 := by
  unfold chL
  split
  · rename_i h
    unfold chB at h
    rw [Bool.and_eq_true] at h
    obtain ⟨N, x, y, rfl, rfl, rfl, hg⟩ := given_nats h.1
    rw [chP_len]
    have := hg.n12
    omega
  · simp
/-- Both sides answer the same chances. -/
theorem chancesAfter_both (n : Int) (l : List (Int × Bool)) (hl : l.length ≤ 1048576) (a b : Int) :
    (∀ (A : Option Addr) (c lo hi : Nat) (w : World), AIns w lo hi A l → Calls Try.prog 12 #[.int .i64 n, .slice A l.length c, .agg #[.int .i64 a, .int .i64 b]] w fun e w' => ∃ B d, e = .returned (.tuple #[.slice B (chL n l a b).length d, .bool (chB n l a b)]) ∧ PMade w' w.heap.size w'.heap.size B (chL n l a b) ∧ Below w.heap.size w w') ∧
    (∀ (A : Option Addr) (c lo hi : Nat) (w : World), AIns w lo hi A l → Calls Try.prog 9 #[.int .i64 n, .slice A l.length c, .agg #[.int .i64 a, .int .i64 b]] w fun e w' => ∃ B d, e = .returned (.tuple #[.slice B (chL n l a b).length d, .bool (chB n l a b)]) ∧ PMade w' w.heap.size w'.heap.size B (chL n l a b) ∧ Below w.heap.size w w') := by
  cases hg : givenB n l a b with
  | false =>
    have e1 : chB n l a b = false := by unfold chB; rw [hg]; rfl
    have e2 : chL n l a b = [] := by unfold chL; rw [e1]; rfl
    rw [e1, e2]
    exact ⟨fun A c lo hi w hS => chancesAfter_impl_no1 n a b A c lo hi l w hS hl hg, fun A c lo hi w hS => chancesAfter_spec_no1 n a b A c lo hi l w hS hl hg⟩
  | true =>
    obtain ⟨N, x, y, rfl, rfl, rfl, hG⟩ := given_nats hg
    by_cases hp : 0 < sumF (g7 x y l) N
    · have e1 : chB (N : Int) l (x : Int) (y : Int) = true := by unfold chB; rw [hg]; simp [hp]
      have e2 : chL (N : Int) l (x : Int) (y : Int) = chP x y l N := by unfold chL; rw [if_pos e1]; simp
      rw [e1, e2]
      exact ⟨fun A c lo hi w hS => chancesAfter_impl N x y A c lo hi l w hS hG hp, fun A c lo hi w hS => chancesAfter_spec N x y A c lo hi l w hS hG hp⟩
    · have e1 : chB (N : Int) l (x : Int) (y : Int) = false := by unfold chB; rw [hg]; simp [hp]
      have e2 : chL (N : Int) l (x : Int) (y : Int) = [] := by unfold chL; rw [e1]; rfl
      rw [e1, e2]
      exact ⟨fun A c lo hi w hS => chancesAfter_impl_no2 N x y A c lo hi l w hS hG hp, fun A c lo hi w hS => chancesAfter_spec_no2 N x y A c lo hi l w hS hG hp⟩
end Go.Proofs.Ytbgdnidbdfhgjab
