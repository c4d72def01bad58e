/- NearNumbers: both. -/
import Derived.Test.YthjkmfjhcohhbaaFit
namespace Go.Proofs.Ythjkmfjhcohhbaa
open Go.RowKit Go.ChangeShapes Go.WideShapes
set_option linter.unusedVariables false

set_option maxRecDepth 100000 in
set_option maxHeartbeats 2000000 in
theorem l5Near_any (A : Option Addr) (c lo hi : Nat) (ws : List Nat) (x : Nat) (w : World) (hS : Ins w lo hi A (ws.map Int.ofNat)) (hw : ∀ v ∈ ws, v < 2 ^ 14) (hx : x < 2 ^ 14) (hl : ws.length ≤ 12) :
    Calls Try.prog 64 #[.slice A ws.length c, .int .i64 (x : Int)] w fun e w' => ∃ v, e = .returned (.tuple #[v, .int .i64 (leastTo ws x ws.length : Int)]) ∧ w'.ownsRow w.heap.size 3 1 v (nearTo ws x ws.length).length ((nearTo ws x ws.length).map (Value.int .i64)) ∧ Below w.heap.size w w' := by
  obtain ⟨i0, hi0, hz0, hz1, hz2⟩ := info_parts infoI3
  have HI := Lib.hid hS
  have htop := hS.top
  have HA := Lib.hid (fun k (hk : k < ws.length) W => l5Apart_any (ws.getD k 0) x W (hw _ (getD_mem hk)) hx)
  have HWl := Lib.hid (fun k (hk : k < ws.length) => hw _ (getD_mem hk))
  have hx2 : x < 16384 := hx
  have O0 := Lib.hid (O0_any w w.heap.size (Nat.le_refl _))
  clear hS hw hx
  go_enter Try.func64, Try.ntmps64
  go_wp2_with fail
  go_loopw [6, 7, 8] (fun out l i wr => ∃ (k : Nat), k ≤ ws.length ∧ i = .int .i64 k ∧ l = .int .i64 (leastTo ws x k : Int) ∧ Hid (wr.ownsRow w.heap.size 3 1 out (nearTo ws x k).length ((nearTo ws x k).map (Value.int .i64))) ∧ Hid (Past w.heap.size w wr)) (fun _ _ i _ => ws.length - (intOf i).toNat)
  case atStart => exact ⟨0, Nat.zero_le _, rfl, rfl, (by first | exact O0.out | exact O0), Past.of_below ((Below.refl _ _).alloc (Nat.le_refl _) _)⟩
  case round =>
    obtain ⟨k, hk, rfl, rfl, HO, HP⟩ := hrel
    rename World => wr
    have hsz := HP.out.size
    by_cases hlt : k < ws.length
    · obtain ⟨b, o, rfl, _, hb, hcs⟩ := (HI.out.past HP.out htop).ints (by simp; omega)
      have hcell := hcs k _ (natI_at hlt)
      have HAk := Lib.hid (HA.out k hlt)
      have hwk : ws.getD k 0 < 16384 := HWl.out k hlt
      have hap := apartN_le (ws.getD k 0) x
      have hfl := nearTo_len ws x k
      have hll := leastTo_le ws x k
      have H1 := Lib.hid (nearTo_less (ws := ws) (x := x) (k := k))
      have H2 := Lib.hid (nearTo_same (ws := ws) (x := x) (k := k))
      have H3 := Lib.hid (nearTo_more (ws := ws) (x := x) (k := k))
      clear hcs
      generalize nearTo ws x k = f at HO hfl H2 H3
      generalize leastTo ws x k = L at hll H1 H2 H3 ⊢
      generalize apartN (ws.getD k 0) x = a at HAk hap H1 H2 H3
      generalize ws.getD k 0 = u at hcell HAk hwk
      have hown := HO.out
      by_cases hle : a < L
      · have HF := Lib.hid (H1.out hle)
        have hown1 := O0_any wr w.heap.size hsz
        clear H1 H2 H3 hown HO
        go_wp2_with (first | (go_at_call 76; refine (HAk.out _).mono ?_; rintro e w1 ⟨rfl, rfl⟩) | (at_builtin; refine wpList_append_own _ rfl _ _ 22 rfl w.heap.size 3 i0 (.int .i64 0) 1 8 Try.underlying22 hi0 hz0 hz1 hz2 rfl (by decide) _ _ _ rfl (hown1.alloc _) ⟨_, 0, none⟩ 1 1 [.int .i64 (k : Int)] rfl rfl (qrow_news (x := (k : Int)) ⟨alloc_row' _ _ _ _ (by simp)⟩) (by simp [Value.oneCell']) (by unfold maxLen; omega) (by omega) (by simp <;> omega) ?_; intro v' w1 hown' hgrow _))
        have HO2 := Lib.hid (own_snocI (zs := []) hown' rfl)
        have HP2 := Lib.hid ((HP.out.trans (Past.of_below ((Below.refl _ _).alloc (Nat.le_refl _) (.cells #[] 3)))).trans (Past.grown hown1 hgrow))
        clear hown' hgrow hown1
        go_wp2
        go_roundw
        case rel => exact ⟨k + 1, by omega, by go_num, by rw [HF.out.2], by rw [HF.out.1]; exact HO2.out, HP2.out⟩
        case measure => simp [intOf]; omega
      · by_cases heq : a = L
        · subst heq
          have HF := Lib.hid (H2.out rfl)
          clear H1 H2 H3
          go_wp2_with (first | (go_at_call 76; refine (HAk.out _).mono ?_; rintro e w1 ⟨rfl, rfl⟩) | (at_builtin; refine wpList_append_own _ rfl _ _ 22 rfl w.heap.size 3 i0 (.int .i64 0) 1 8 Try.underlying22 hi0 hz0 hz1 hz2 rfl (by decide) _ _ _ rfl (hown.alloc _) ⟨_, 0, none⟩ 1 1 [.int .i64 (k : Int)] rfl rfl (cell_one_new _ _ _) (by simp [Value.oneCell']) (by unfold maxLen; omega) (by omega) (by simp; omega) ?_; intro v' w1 hown' hgrow _))
          have HO2 := Lib.hid (own_snocI hown' rfl)
          have HP2 := Lib.hid (HP.out.trans (Past.grown hown hgrow))
          clear hown' hgrow hown HO
          go_wp2
          go_roundw
          case rel => exact ⟨k + 1, by omega, by go_num, by rw [HF.out.2], by rw [HF.out.1]; exact HO2.out, HP2.out⟩
          case measure => simp [intOf]; omega
        · have HF := Lib.hid (H3.out (by omega))
          clear H1 H2 H3
          go_wp2_with (first | (go_at_call 76; refine (HAk.out _).mono ?_; rintro e w1 ⟨rfl, rfl⟩))
          go_roundw
          case rel => exact ⟨k + 1, by omega, by go_num, by rw [HF.out.2], by rw [HF.out.1]; exact hown, HP.out⟩
          case measure => simp [intOf]; omega
    · obtain rfl : k = ws.length := by omega
      go_wp2
      go_ret2
      exact ⟨_, rfl, HO.out, HP.out.below (Nat.le_refl _) (Nat.le_refl _)⟩

/-- A list, a number and whether they are. -/
def LAns3 (w : World) (l : List Int) (x : Int) (b : Bool) (e : Ending) (w' : World) : Prop :=
  ∃ B c', e = .returned (.tuple #[.slice B l.length c', .int .i64 x, .bool b]) ∧ Res w' w.heap.size w'.heap.size B l ∧ Below w.heap.size w w'
theorem lans3_own {w w' : World} {v : Value} {zs : List Int} {x : Int} {b : Bool} {e : Ending} (he : e = .returned (.tuple #[v, .int .i64 x, .bool b])) (ho : w'.ownsRow w.heap.size 3 1 v zs.length (zs.map (Value.int .i64))) (hb : Below w.heap.size w w') : LAns3 w zs x b e w' := by
  obtain ⟨A, c, rfl, _, hr⟩ := own_res ho rfl
  exact ⟨A, c, he, hr, hb⟩
theorem lans3_nil {w w1 : World} (hb : Below w.heap.size w w1) : LAns3 w [] 0 false (.returned (.tuple #[.slice (some ⟨w1.heap.size, 0, none⟩) 0 0, .int .i64 0, .bool false])) (w1.alloc (.cells #[] 3)) :=
  ⟨_, 0, rfl, empty_res w1 w.heap.size hb.size, hb.alloc hb.size _⟩
set_option maxRecDepth 100000 in
set_option maxHeartbeats 2000000 in
theorem nearNumbers_yes (A : Option Addr) (c lo hi : Nat) (n : Nat) (qs : List Int) (x : Nat) (w : World) (hS : Ins w lo hi A qs) (hs : isSch n qs = true) (hx : wOK qs.length (x : Int) = true) :
    Calls Try.prog 32 #[.int .i64 (n : Int), .slice A qs.length c, .int .i64 (x : Int)] w (LAns3 w (nearTo (twL qs n) x n) (leastTo (twL qs n) x n : Int) true) := by
  obtain ⟨hn, hl, _⟩ := isSch_iff.1 hs
  obtain ⟨x', e, _, hx14⟩ := word_nat hl hx
  obtain rfl : x = x' := by omega
  have HI := Lib.hid hS
  have HC := Lib.hid (fun W h => isScheme_impl A c lo hi (n : Int) qs W h (by omega))
  have HD := Lib.hid (fun W => isWord_any qs.length (x : Int) W hl)
  rw [hs] at HC
  rw [hx] at HD
  have HH := Lib.hid (fun W h => holdersOf_any A c lo hi qs n W h hl (by omega))
  have HA := Lib.hid (fun W => answersOf_any x W hx14)
  have HNr := Lib.hid (fun M base D W h => nearest_any M base qs n x D W h hl (by omega))
  have hL14 := leastTo_14 (twL qs n) x (k := n) (by omega)
  have HW := Lib.hid (fun M base D W h => within_any M base qs n x (leastTo (twL qs n) x n) D W h hl (by omega) hL14)
  have hfit := nearTo_fit (twL qs n) x
  rw [twL_len] at hfit
  rw [← hfit] at HW
  clear hS hs hx e hn hfit
  generalize leastTo (twL qs n) x n = L at HNr HW hL14 ⊢
  go_enter Try.func32, Try.ntmps32
  go_wp2_with fail
  refine (HC.out w HI.out).mono ?_
  rintro e w1 ⟨rfl, rfl⟩
  go_wp2_with fail
  refine (HD.out _).mono ?_
  rintro e w2 ⟨rfl, rfl⟩
  go_wp2_with fail
  refine (HH.out _ HI.out).mono ?_
  rintro e w4 ⟨base, D, rfl, hh, hb⟩
  have HHo := Lib.hid hh
  have HB := Lib.hid hb
  clear hh hb
  go_wp2_with fail
  refine (HA.out _).mono ?_
  rintro e w5 ⟨rfl, hb⟩
  have HZ := Lib.hid (W14.new0 w5)
  have HP := Lib.hid (HZ.out.put x.testBit)
  have HBn := Lib.hid (below_new14 w5 x.testBit)
  have HHo2 := Lib.hid ((HHo.out.step hb).step HBn.out)
  have HB2 := Lib.hid (below_trans (below_trans HB.out hb) HBn.out)
  clear hb HHo HB HBn
  go_wp2_with (first
    | (with_reducible refine wpList_store14 rfl (.tmp 10) (.tmp 28) rfl w5.heap.size (fun _ => false) x.testBit rfl rfl HZ.out ?_)
    | (with_reducible refine wpList_load14 rfl (.tmp 10) rfl w5.heap.size x.testBit rfl HP.out ?_))
  refine (HNr.out _ base D _ HHo2.out).mono ?_
  rintro e w6 ⟨rfl, hb⟩
  have HP2 := Lib.hid (HP.out.step hb)
  have HHo3 := Lib.hid (HHo2.out.step hb)
  have HB3 := Lib.hid (below_trans HB2.out hb)
  clear hb HP HHo2 HB2 HZ
  go_wp2_with (first
    | (with_reducible refine wpList_load14 rfl (.tmp 10) rfl w5.heap.size x.testBit rfl HP2.out ?_))
  refine (HW.out _ base D _ HHo3.out).mono ?_
  rintro e w7 ⟨v, rfl, ho, hb⟩
  have HO := Lib.hid (own_base ho HB3.out.size)
  have HB4 := Lib.hid (below_trans HB3.out hb)
  clear ho hb HHo3 HB3 HP2
  go_wp2
  go_ret3
  exact lans3_own rfl HO.out HB4.out
set_option maxRecDepth 100000 in
set_option maxHeartbeats 2000000 in
theorem nearNumbers_yesS (A : Option Addr) (c lo hi : Nat) (n : Nat) (qs : List Int) (x : Nat) (w : World) (hS : Ins w lo hi A qs) (hs : isSch n qs = true) (hx : wOK qs.length (x : Int) = true) :
    Calls Try.prog 31 #[.int .i64 (n : Int), .slice A qs.length c, .int .i64 (x : Int)] w (LAns3 w (nearTo (twL qs n) x n) (leastTo (twL qs n) x n : Int) true) := by
  obtain ⟨hn, hl, _⟩ := isSch_iff.1 hs
  obtain ⟨x', e, _, hx14⟩ := word_nat hl hx
  obtain rfl : x = x' := by omega
  have HI := Lib.hid hS
  have HC := Lib.hid (fun W h => l5Scheme_any A c lo hi (n : Int) qs W h (by omega))
  have HD := Lib.hid (fun W => l5Word_any qs.length (x : Int) W hl)
  rw [hs] at HC
  rw [hx] at HD
  have HH := Lib.hid (fun W h => l5Words_any A c lo hi qs n W h hl (by omega))
  have HW := Lib.hid (fun B c' lo hi W h => l5Near_any B c' lo hi (twL qs n) x W h (twL_14 hl n) hx14 (by rw [twL_len]; omega))
  have HL := Lib.hid (twL_len qs n)
  clear hS hs hx e hn
  go_enter Try.func31, Try.ntmps31
  go_wp2_with fail
  refine (HC.out w HI.out).mono ?_
  rintro e w1 ⟨rfl, rfl⟩
  go_wp2_with fail
  refine (HD.out _).mono ?_
  rintro e w2 ⟨rfl, rfl⟩
  go_wp2_with fail
  refine (HH.out _ HI.out).mono ?_
  rintro e w4 ⟨v, rfl, ho, hb⟩
  obtain ⟨B, c', rfl, _, hr⟩ := own_res ho rfl
  have HR := Lib.hid hr.ins
  have HB := Lib.hid hb
  have HWk := Lib.hid (HW.out B c' _ _ w4 HR.out)
  rw [HL.out] at HWk
  rw [List.length_map, HL.out]
  clear ho hb hr HW
  go_wp2_with fail
  refine HWk.out.mono ?_
  rintro e w6 ⟨v, rfl, ho, hb⟩
  have HO := Lib.hid (own_base ho HB.out.size)
  have HB3 := Lib.hid (below_trans HB.out hb)
  clear ho hb
  go_wp2
  go_ret3
  exact lans3_own rfl HO.out HB3.out
set_option maxHeartbeats 2000000 in
theorem nearNumbers_no (A : Option Addr) (c lo hi : Nat) (n : Int) (qs : List Int) (x : Int) (w : World) (hS : Ins w lo hi A qs) (hl : qs.length ≤ 1048576) (h : isSch n qs = false ∨ (isSch n qs = true ∧ wOK qs.length x = false)) :
    Calls Try.prog 32 #[.int .i64 n, .slice A qs.length c, .int .i64 x] w (LAns3 w [] 0 false) := by
  have HI := Lib.hid hS
  have HC := Lib.hid (fun W h => isScheme_impl A c lo hi n qs W h hl)
  have HD := Lib.hid (fun (h14 : qs.length ≤ 14) W => isWord_any qs.length x W h14)
  clear hS
  rcases h with h | ⟨h, h2⟩
  · rw [h] at HC
    clear h
    go_enter Try.func32, Try.ntmps32
    go_wp2_with fail
    refine (HC.out w HI.out).mono ?_
    rintro e w1 ⟨rfl, rfl⟩
    go_wp2
    go_ret3
    exact lans3_nil (Below.refl _ _)
  · obtain ⟨_, hl14, _⟩ := isSch_iff.1 h
    rw [h] at HC
    rw [h2] at HD
    clear h h2
    go_enter Try.func32, Try.ntmps32
    go_wp2_with fail
    refine (HC.out w HI.out).mono ?_
    rintro e w1 ⟨rfl, rfl⟩
    go_wp2_with fail
    refine (HD.out hl14 _).mono ?_
    rintro e w2 ⟨rfl, rfl⟩
    go_wp2
    go_ret3
    exact lans3_nil (Below.refl _ _)
set_option maxHeartbeats 2000000 in
theorem nearNumbers_noS (A : Option Addr) (c lo hi : Nat) (n : Int) (qs : List Int) (x : Int) (w : World) (hS : Ins w lo hi A qs) (hl : qs.length ≤ 1048576) (h : isSch n qs = false ∨ (isSch n qs = true ∧ wOK qs.length x = false)) :
    Calls Try.prog 31 #[.int .i64 n, .slice A qs.length c, .int .i64 x] w (LAns3 w [] 0 false) := by
  have HI := Lib.hid hS
  have HC := Lib.hid (fun W h => l5Scheme_any A c lo hi n qs W h hl)
  have HD := Lib.hid (fun (h14 : qs.length ≤ 14) W => l5Word_any qs.length x W h14)
  clear hS
  rcases h with h | ⟨h, h2⟩
  · rw [h] at HC
    clear h
    go_enter Try.func31, Try.ntmps31
    go_wp2_with fail
    refine (HC.out w HI.out).mono ?_
    rintro e w1 ⟨rfl, rfl⟩
    go_wp2
    go_ret3
    exact lans3_nil (Below.refl _ _)
  · obtain ⟨_, hl14, _⟩ := isSch_iff.1 h
    rw [h] at HC
    rw [h2] at HD
    clear h h2
    go_enter Try.func31, Try.ntmps31
    go_wp2_with fail
    refine (HC.out w HI.out).mono ?_
    rintro e w1 ⟨rfl, rfl⟩
    go_wp2_with fail
    refine (HD.out hl14 _).mono ?_
    rintro e w2 ⟨rfl, rfl⟩
    go_wp2
    go_ret3
    exact lans3_nil (Below.refl _ _)
theorem nearNumbers_both (n : Int) (qs : List Int) (h : qs.length ≤ 1048576) (x : Int) : ∃ (r0 : List Int) (r1 : Int) (r2 : Bool), r0.length ≤ 1048576 ∧
    (∀ (w : World) (B : Option Addr) (c lo hi : Nat), Ins w lo hi B qs → Calls Try.prog 32 #[.int .i64 n, .slice B qs.length c, .int .i64 x] w fun e w' => ∃ B c', e = .returned (.tuple #[.slice B r0.length c', .int .i64 r1, .bool r2]) ∧ Res w' w.heap.size w'.heap.size B r0 ∧ Below w.heap.size w w') ∧
    (∀ (w : World) (B : Option Addr) (c lo hi : Nat), Ins w lo hi B qs → Calls Try.prog 31 #[.int .i64 n, .slice B qs.length c, .int .i64 x] w fun e w' => ∃ B c', e = .returned (.tuple #[.slice B r0.length c', .int .i64 r1, .bool r2]) ∧ Res w' w.heap.size w'.heap.size B r0 ∧ Below w.heap.size w w') := by
  by_cases hok : isSch n qs = true ∧ wOK qs.length x = true
  · obtain ⟨h1, h2⟩ := hok
    obtain ⟨hn, hl, _⟩ := isSch_iff.1 h1
    obtain ⟨v, rfl, _, _⟩ := word_nat hl h2
    obtain ⟨k, rfl⟩ : ∃ k : Nat, n = (k : Int) := ⟨n.toNat, by omega⟩
    exact ⟨nearTo (twL qs k) v k, _, true, by have := nearTo_len (twL qs k) v k; omega, fun w B c lo hi hS => nearNumbers_yes B c lo hi k qs v w hS h1 h2, fun w B c lo hi hS => nearNumbers_yesS B c lo hi k qs v w hS h1 h2⟩
  · have h2 : isSch n qs = false ∨ (isSch n qs = true ∧ wOK qs.length x = false) := by
      cases ha : isSch n qs <;> cases hb : wOK qs.length x <;> simp_all
    exact ⟨[], 0, false, by simp, fun w B c lo hi hS => nearNumbers_no B c lo hi n qs x w hS h h2, fun w B c lo hi hS => nearNumbers_noS B c lo hi n qs x w hS h h2⟩
end Go.Proofs.Ythjkmfjhcohhbaa
