/- Chances behind answers: how many draws lead to them for each number, of both sides. -/
import Derived.Test.YtbgdnidbdfhgjabL7g
import Derived.Test.YtbgdnidbdfhgjabMaxI
import Derived.Test.YtbgdnidbdfhgjabFewI
namespace Go.Proofs.Ytbgdnidbdfhgjab
open Go.RowKit Go.ChangeShapes Go.WideShapes Go.Maps
set_option linter.unusedVariables false

theorem Two.past {B : Nat} {w w' : World} {b : Nat} {x y : Value} {t : TypeId} (h : Two w b x y t) (hp : Past B w w') (hb : b < B) : Two w' b x y t := ⟨(hp.block b h.lt hb).trans h.row⟩
/-- Answers to n numbers, and a doubt, that are valid here. -/
structure Given (n a b : Nat) (l : List (Int × Bool)) : Prop where
  n1 : 1 ≤ n
  n12 : n ≤ 12
  ok : okA (n : Int) l = true
  l12 : l.length ≤ 12
  b10 : b ≤ 10
  b1 : 1 ≤ b
  ab : a ≤ b
def givenB (n : Int) (l : List (Int × Bool)) (a b : Int) : Bool := dOK a b && (okA n l && inB (l.length : Int) 0 12)
theorem given_nats {n a b : Int} {l : List (Int × Bool)} (h : givenB n l a b = true) : ∃ N x y : Nat, n = N ∧ a = x ∧ b = y ∧ Given N x y l := by
  unfold givenB at h
  rw [Bool.and_eq_true, Bool.and_eq_true] at h
  obtain ⟨h1, h2, h3⟩ := h
  obtain ⟨x, y, rfl, rfl, g1, g2, g3⟩ := dOK_nats h1
  have h4 := inB_iff.1 (okA_iff h2).1
  have h5 := inB_iff.1 h3
  obtain ⟨N, rfl⟩ : ∃ N : Nat, n = (N : Int) := ⟨n.toNat, by omega⟩
  exact ⟨N, x, y, rfl, rfl, rfl, ⟨by omega, by omega, h2, by omega, g2, g1, g3⟩⟩
theorem Given.yes {n a b : Nat} {l : List (Int × Bool)} (h : Given n a b l) : givenB n l a b = true := by
  unfold givenB
  rw [h.ok, dOK_iff.2 ⟨⟨by have := h.b1; omega, by have := h.b10; omega⟩, by omega, by have := h.ab; omega⟩, inB_t (by omega) (by have := h.l12; omega)]
  rfl
/-- How many draws lead to the answers if k is the secret. -/
def g7 (a b : Nat) (l : List (Int × Bool)) (k : Nat) : Nat := dr a b l.length (cntF l k l.length)
theorem Given.bd {n a b : Nat} {l : List (Int × Bool)} (h : Given n a b l) (k : Nat) : g7 a b l k ≤ 1000000000000 := dr_bd a b _ _ h.b10 h.ab h.l12 (cntF_le l k l.length)
theorem Given.sum {n a b : Nat} {l : List (Int × Bool)} (h : Given n a b l) (k : Nat) (hk : k ≤ n) : sumF (g7 a b l) k ≤ 12000000000000 := by
  have h1 := sumF_le (f := g7 a b l) (B := 1000000000000) k fun i _ => h.bd i
  have h2 := Nat.mul_le_mul_right 1000000000000 (show k ≤ 12 by have := h.n12; omega)
  omega
theorem sumF_zero {f : Nat → Nat} : ∀ n, sumF f n = 0 → ∀ i, i < n → f i = 0
  | n + 1, h, i, hi => by
    simp only [sumF] at h
    by_cases he : i = n
    · subst he; omega
    · exact sumF_zero n (by omega) i (by omega)
theorem max_sum (f : Nat → Nat) (n : Nat) (d : Nat) (hb : BestI (zsN f n) n d) : (0 < (zsN f n).getD d 0) ↔ 0 < sumF f n := by
  have hg : ∀ i, i < n → (zsN f n).getD i 0 = ((f i : Nat) : Int) := fun i hi => by
    unfold zsN
    simp [List.getD, hi]
  have hmx : 0 < (zsN f n).getD d 0 ↔ ∃ y : Int, (∃ i, i < n ∧ y = ((f i : Nat) : Int)) ∧ 0 < y := by
    constructor
    · intro h
      exact ⟨_, ⟨d, hb.lt, hg d hb.lt⟩, h⟩
    · rintro ⟨y, ⟨i, hi, rfl⟩, h⟩
      have := hb.top i hi
      rw [hg i hi] at this
      omega
  rw [hmx]
  constructor
  · rintro ⟨y, ⟨i, hi, rfl⟩, h⟩
    have := term_le f hi
    omega
  · intro h
    by_cases hc : ∃ i, i < n ∧ 0 < f i
    · obtain ⟨i, hi, h2⟩ := hc
      exact ⟨_, ⟨i, hi, rfl⟩, by omega⟩
    · exfalso
      have hz : ∀ k, k ≤ n → sumF f k = 0 := fun k hk => by
        induction k with
        | zero => rfl
        | succ k ih =>
          have h1 := ih (by omega)
          have h2 : f k = 0 := by
            by_cases h3 : 0 < f k
            · exact absurd ⟨k, by omega, h3⟩ hc
            · omega
          simp only [sumF]
          omega
      have := hz n (Nat.le_refl _)
      omega
def g7I (a b : Nat) (l : List (Int × Bool)) (k : Nat) : Int := ((g7 a b l k : Nat) : Int)
theorem g7_all (a b : Nat) (l : List (Int × Bool)) (n : Nat) : upd (g7I a b l) n n = zsN (g7 a b l) n := by rw [upd_all]; rfl
theorem map_ne {w : World} {M n j i g : Nat} {l : List (Int × Bool)} {cs : Array Value} {t : TypeId} (h : MapIs w M l n j i) (hr : w.heap[g]? = some (.cells cs t (0, 0))) : M ≠ g := by
  obtain ⟨D, N, ⟨es, clock, hb, r⟩, _, _⟩ := h
  intro e
  subst e
  rw [hb] at hr
  cases hr
theorem areDrawn_any (n : Int) (A : Option Addr) (c lo hi : Nat) (l : List (Int × Bool)) (w : World) (hS : AIns w lo hi A l) (hn : l.length ≤ 1048576) :
    Calls Try.prog 131 #[.int .i64 n, .slice A l.length c] w fun e w' => e = .returned (.bool (okA n l && inB (l.length : Int) 0 12)) ∧ Below w.heap.size w w' := by
  have HA := Lib.hid (areAnswers_any n A c lo hi l w hS hn)
  have HC := Lib.hid (fun W => isDrawn_any (l.length : Int) W)
  generalize okA n l = x at HA ⊢
  generalize inB (l.length : Int) 0 12 = y at HC ⊢
  clear hS
  cases x
  all_goals
    go_enter Try.func131, Try.ntmps131
    go_wp2_with fail
    refine (HA.out).mono ?_
    rintro e w1 ⟨rfl, hb⟩
    go_wp2_with (first | (go_at_call 178; (with_reducible refine (HC.out _).mono ?_); rintro e w2 ⟨rfl, hw⟩; have hw := hw.symm; subst hw))
    go_ret
    exact ⟨by simp, hb⟩
set_option maxRecDepth 100000 in
set_option maxHeartbeats 16000000 in
theorem drawsAfter_impl (n a b : Nat) (A : Option Addr) (c lo hi : Nat) (l : List (Int × Bool)) (w : World) (hS : AIns w lo hi A l) (hg : Given n a b l) :
    Calls Try.prog 67 #[.int .i64 (n : Int), .slice A l.length c, .agg #[.int .i64 (a : Int), .int .i64 (b : Int)]] w fun e w' => ∃ g, e = .returned (.tuple #[.slice (some ⟨g, 0, none⟩) n n, .bool (decide (0 < sumF (g7 a b l) n))]) ∧ w.heap.size ≤ g ∧ w'.heap[g]? = some (.cells ((zsN (g7 a b l) n).map (Value.int .i64)).toArray 3 (0, 0)) ∧ Below w.heap.size w w' := by
  have HT := Lib.hid (Two.new w (.int .i64 (a : Int)) (.int .i64 (b : Int)) 31 (w.heap.size) rfl)
  have HB := Lib.hid ((Below.refl w.heap.size w).alloc (Nat.le_refl _) (.cells #[.int .i64 (a : Int), .int .i64 (b : Int)] 31))
  have HI := Lib.hid (hS.step HB.out)
  have HG := Lib.hid (fun W => isDoubt_impl (a : Int) (b : Int) W)
  rw [dOK_iff.2 ⟨⟨by have := hg.b1; omega, by have := hg.b10; omega⟩, by omega, by have := hg.ab; omega⟩] at HG
  have HA := Lib.hid (fun W h => areDrawn_any (n : Int) A c lo hi l W h (by have := hg.l12; omega))
  rw [hg.ok, inB_t (x := (l.length : Int)) (a := 0) (b := 12) (by omega) (by have := hg.l12; omega)] at HA
  have HF := Lib.hid (fun W h => falseByNumber_any n A c lo hi l W h hg.n12 (by have := hg.l12; omega))
  have hmk := makeIntsA n (by have := hg.n12; omega)
  have HGV := Lib.hid hg
  clear hS hg
  go_enter Try.func67, Try.ntmps67
  go_wp2_with fail
  generalize w.alloc (.cells #[.int .i64 (a : Int), .int .i64 (b : Int)] 31) = w0 at HT HB HI ⊢
  have h0 := HT.out.c0
  have h1 := HT.out.c1
  with_reducible refine (HG.out _).mono ?_
  rintro e w1 ⟨rfl, hb⟩
  replace HT := Lib.hid (HT.out.step hb)
  replace HB := Lib.hid (below_trans HB.out hb)
  replace HI := Lib.hid (HI.out.step hb)
  replace h0 := HT.out.c0
  replace h1 := HT.out.c1
  clear hb
  go_wp2_with fail
  with_reducible refine (HA.out _ HI.out).mono ?_
  rintro e w2 ⟨rfl, hb⟩
  replace HT := Lib.hid (HT.out.step hb)
  replace HB := Lib.hid (below_trans HB.out hb)
  replace HI := Lib.hid (HI.out.step hb)
  replace h0 := HT.out.c0
  replace h1 := HT.out.c1
  clear hb
  clear h0 h1
  go_upto_region 3 with fail
  have hRW : ((upd (g7I a b l) n 0).map (Value.int .i64)).toArray = Array.replicate n (Value.int .i64 0) := by rw [upd_zero]; simp
  generalize Array.replicate n (Value.int .i64 0) = RW at hmk hRW
  have HRW := Lib.hid hRW
  clear hRW
  go_cut [8, 9] from 21 to 25 (fun p8 p9 wx => ∃ (M g : Nat), p8 = .map (some M) ∧ p9 = .slice (some ⟨g, 0, none⟩) n n ∧ Hid (MapIs wx M l n l.length 0) ∧ Hid (wx.heap[g]? = some (.cells RW 3 (0, 0))) ∧ Hid (Below w2.heap.size w2 wx) ∧ w2.heap.size ≤ g)
  case first =>
    go_region_with (first | (go_at_call 132; (with_reducible refine (HF.out _ (HI.out.step (Below.refl _ w2).drew)).mono ?_); rintro e w3 ⟨M, rfl, hmap, hb⟩; have hbx := below_trans (Below.refl _ w2).drew hb) | (go_at_call 132; (with_reducible refine (HF.out _ (HI.out.step ((Below.refl _ w2).alloc (Nat.le_refl _) (.cells RW 3)).drew)).mono ?_); rintro e w3 ⟨M, rfl, hmap, hb⟩; have hbx := below_trans ((Below.refl _ w2).alloc (Nat.le_refl _) (.cells RW 3)).drew hb; have hrw := (hb.block w2.heap.size (by show w2.heap.size < (w2.alloc (.cells RW 3)).heap.size; simp)).trans (alloc_row' w2 RW 3 w2.heap.size rfl)))
    all_goals
      go_wp2_with fail
      go_meet
      first
        | exact ⟨M, w3.heap.size, rfl, rfl, Lib.hid (hmap.heap (((Below.refl _ w3).alloc (Nat.le_refl _) _).block _ hmap.lt)), Lib.hid (alloc_row' w3 RW 3 _ rfl), Lib.hid (hbx.alloc (hbx.size) _), hbx.size⟩
        | exact ⟨M, w2.heap.size, rfl, rfl, Lib.hid hmap, Lib.hid hrw, Lib.hid hbx, Nat.le_refl _⟩
  case rest =>
    obtain ⟨M, g, rfl, rfl, HM, HR, HB2, hgl⟩ := hcut
    rename World => w3
    rw [← HRW.out] at HR
    have HT3 := Lib.hid (HT.out.step HB2.out)
    have HI3 := Lib.hid (HI.out.step HB2.out)
    have HB3 := Lib.hid (below_trans HB.out HB2.out)
    have hsz := HB.out.size
    have hwb : w.heap.size < w2.heap.size := HT.out.lt
    clear HRW hmk HF HT HI HB HB2 HG HA
    go_wp2_with fail
    go_loopw [28] (fun i wr => ∃ (k : Nat), k ≤ n ∧ i = .int .i64 (k : Int) ∧ Hid (wr.heap[g]? = some (.cells (((upd (g7I a b l) n k).map (Value.int .i64)).toArray) 3 (0, 0))) ∧ Hid (MapIs wr M l n l.length 0) ∧ Hid (Two wr w.heap.size (.int .i64 (a : Int)) (.int .i64 (b : Int)) 31) ∧ Hid (Below w.heap.size w wr)) (fun i _ => n - (intOf i).toNat)
    case atStart => exact ⟨0, by omega, rfl, HR, HM, HT3, HB3⟩
    case round =>
      clear HR HM HT3 HB3 HI3
      obtain ⟨k, hk, rfl, HR, HM, HT, HB⟩ := hrel
      rename World => wr
      have h12 := HGV.out.n12
      by_cases hlt : k < n
      · have hlk := look_any HM.out hlt h12
        have HD := Lib.hid (fun W => draws_any a b l.length (cntF l k l.length) HGV.out.b10 HGV.out.ab HGV.out.l12 (cntF_le l k l.length) W)
        have hgk : ((dr a b l.length (cntF l k l.length) : Nat) : Int) = g7I a b l k := rfl
        rw [hgk] at HD
        clear hgk
        generalize hcf : ((cntF l k l.length : Nat) : Int) = cf at hlk HD
        clear hcf
        have h0 := HT.out.c0
        have h1 := HT.out.c1
        go_wp2_with fail
        refine (HD.out _).mono ?_
        rintro e w4 ⟨rfl, hb⟩
        have hlo := row_ltI HR.out
        have hrow : w4.heap[g]? = some (.cells (((upd (g7I a b l) n k).map (Value.int .i64)).toArray) 3 (0, 0)) := (hb.block _ hlo).trans HR.out
        have HM2 := Lib.hid (HM.out.heap (hb.block _ HM.out.lt))
        have HT2 := Lib.hid (HT.out.step hb)
        have HB2 := Lib.hid (below_trans HB.out hb)
        clear hb HT HB HM h0 h1 HR hlo HD hlk
        have hne := map_ne HM2.out hrow
        have HF := Lib.hid (upd_set (g7I a b l) n k)
        have hcell := getD_cell hrow (i := k) (by rw [upd_len]; exact hlt)
        have hfr := row_freeI hrow k
        have HO2 := Lib.hid (row_setI hrow k (.int .i64 (g7I a b l k)))
        rw [map_set, HF.out] at HO2
        have HW := Lib.hid (within_set (Within.refl g (g + 1) w4) (Nat.le_refl _) (by omega) k (.int .i64 (g7I a b l k)))
        clear hrow HF
        have hml := HM2.out.lt
        have HM3 := Lib.hid (HM2.out.heap (HW.out.block _ hml (by omega)))
        generalize g7I a b l k = x at HO2 HW HM3 ⊢
        generalize (upd (g7I a b l) n k).getD k 0 = z at hcell
        go_wp2
        go_roundw
        case rel => exact ⟨k + 1, by omega, by go_num, HO2, HM3, Lib.hid (HT2.out.within HW.out (.inl (by omega))), Lib.hid (HB2.out.trans (HW.out.below (by omega) HB2.out.size))⟩
        case measure => simp [intOf]; omega
      · obtain rfl : k = n := by omega
        rw [g7_all] at HR
        have hr := HR.out
        obtain ⟨d, hd⟩ := bestI_is (zsN (g7 a b l) k) k HGV.out.n1 (Nat.le_of_eq (zsN_len _ _).symm)
        have hmx := max_sum (g7 a b l) k d hd
        have HMX := Lib.hid (slicesMaxI_any (some ⟨g, 0, none⟩) k g (g + 1) (zsN (g7 a b l) k) d wr (row_ins70 hr) (by rw [zsN_len]; exact hd) (by rw [zsN_len]; omega))
        rw [zsN_len] at HMX
        generalize (zsN (g7 a b l) k).getD d 0 = mx at HMX hmx
        clear hd
        clear hr
        by_cases hpos : 0 < sumF (g7 a b l) k
        all_goals
          have hmp := hmx
          simp only [hpos] at hmp
          clear hmx
          go_wp2_with fail
          refine (HMX.out).mono ?_
          rintro e w4 ⟨rfl, hw⟩
          have hw := hw.symm
          subst hw
          go_wp2
          go_ret2
          exact ⟨g, by simp [hpos], by omega, HR.out, HB.out⟩
end Go.Proofs.Ytbgdnidbdfhgjab
