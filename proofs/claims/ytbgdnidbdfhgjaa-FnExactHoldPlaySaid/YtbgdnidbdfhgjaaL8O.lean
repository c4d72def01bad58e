/- The answerer of the program: how many numbers are open at the ends, and what is counted there. -/
import Derived.Test.YtbgdnidbdfhgjaaL8S
import Derived.Test.YtbgdnidbdfhgjaaL8B
namespace Go.Proofs.Ytbgdnidbdfhgjaa
open Go.RowKit Go.ChangeShapes Go.WideShapes Go.Maps
set_option linter.unusedVariables false

theorem opnL_take (m : Int) (zs qs : List Int) (k : Nat) (h : k < (opnL m zs qs).length) : (opnL m zs qs).take (k + 1) = (opnL m zs qs).take k ++ [(opnL m zs qs)[k]] := List.take_succ_eq_append_getElem h
theorem O0_any8 (w : World) (B : Nat) (h : B ≤ w.heap.size) : (w.alloc (.cells #[] 3)).ownsRow B 3 1 (.slice (some ⟨w.heap.size, 0, none⟩) 0 0) 0 [] :=
  World.ownsRow_lit w (e := 3) (size := 1) (base := B) #[] 0 h (by unfold maxLen; omega) rfl
theorem pow8 {n : Nat} (h : n ≤ 8) : 1 ≤ 2 ^ n ∧ 2 ^ n ≤ 256 := ⟨Nat.one_le_two_pow, Nat.le_trans (Nat.pow_le_pow_right (by omega) h) (by decide)⟩

set_option maxRecDepth 100000 in
set_option maxHeartbeats 8000000 in
theorem openAtEnds_any (A : Option Addr) (c lo hi : Nat) (zs : List Int) (m : Int) (A2 : Option Addr) (c2 lo2 hi2 : Nat) (qs : List Int) (w : World) (hS : Ins w lo hi A zs) (hQ : Ins w lo2 hi2 A2 qs) (hL : Listed zs m qs) :
    Calls Try.prog 63 #[.agg #[.slice A zs.length c, .int .i64 m], .slice A2 qs.length c2] w fun e w' => ∃ v, e = .returned v ∧ w'.ownsRow w.heap.size 3 1 v (opnL m zs qs).length ((opnL m zs qs).map (Value.int .i64)) ∧ Below w.heap.size w w' := by
  obtain ⟨i0, hi0, hz0, hz1, hz2⟩ := info_parts infoI3
  have HL := Lib.hid hL
  have h8 := hL.q8
  have hE := Lib.hid (fun W h h2 h3 => endsOf_any A c lo hi zs m A2 c2 lo2 hi2 qs W h h2 hL w.heap.size (w.heap.size + 2) hS.top h3)
  have hb1 := (Below.refl w.heap.size w).alloc (Nat.le_refl _) (.cells #[.slice A zs.length c, .int .i64 m] 27)
  have hb2 := hb1.alloc hb1.size (.cells #[] 3)
  have HO0 := Lib.hid (O0_any8 (w.alloc (.cells #[.slice A zs.length c, .int .i64 m] 27)) w.heap.size hb1.size)
  have HB := Lib.hid hb2
  have HQ := Lib.hid (hQ.step hb2)
  have HI := Lib.hid (hS.step hb2)
  have hop := Lib.hid (pow8 h8)
  have hw02 : ((w.alloc (.cells #[.slice A zs.length c, .int .i64 m] 27)).alloc (.cells #[] 3)).heap.size = w.heap.size + 2 := by simp
  clear hS hQ hL hb1 hb2
  have HW : Hid (∀ g, (Value.slice (some ⟨(w.alloc (.cells #[.slice A zs.length c, .int .i64 m] 27)).heap.size, 0, none⟩) 0 0).ownBlock = some g → w.heap.size ≤ g ∧ g < w.heap.size + 2) := Lib.hid (fun g hg => by
    have e : (w.alloc (.cells #[.slice A zs.length c, .int .i64 m] 27)).heap.size = w.heap.size + 1 := by simp
    have e2 : (w.alloc (.cells #[.slice A zs.length c, .int .i64 m] 27)).heap.size = g := by injection hg
    omega)
  rw [show (w.alloc (.cells #[.slice A zs.length c, .int .i64 m] 27)).heap.size = w.heap.size + 1 by simp] at HO0 HW
  go_enter Try.func63, Try.ntmps63
  go_wp2_with fail
  generalize (w.alloc (.cells #[.slice A zs.length c, .int .i64 m] 27)).alloc (.cells #[] 3) = w0 at HB HQ HI HO0 hw02 ⊢
  with_reducible refine (hE.out w0 HI.out HQ.out (by rw [hw02]; exact Nat.le_refl _)).mono ?_
  rintro e w1 ⟨A0, c0, L0, rfl, hs, he, hb⟩
  have HS := Lib.hid hs
  have HLE := Lib.hid he
  replace HB := Lib.hid (below_trans HB.out hb)
  have HO1 := Lib.hid (past8 HO0.out (Past.of_below hb))
  have HST := Lib.hid (fun (j : Nat) (y : Option Addr × Nat × List Int) (hy : L0[j]? = some y) => show y.2.2.length = zs.length ∧ isSt y.2.2 m = true from by
    have hm : y.2.2 ∈ L0.map (fun x => x.2.2) := List.mem_map.2 ⟨y, List.mem_of_getElem? hy, rfl⟩
    rw [HLE.out] at hm
    exact endsL_all m zs.length _ _ (fun z hz => by
      have : z = zs := by simpa using hz
      subst this
      exact ⟨rfl, HL.out.st⟩) _ hm)
  have HV := Lib.hid (fun (j : Nat) (y : Option Addr × Nat × List Int) (hy : L0[j]? = some y) (hj : j < (opnL m zs qs).length) => show (opnL m zs qs)[j] = ((opens y.2.2).length : Int) from by
    have e : (opnL m zs qs)[j]? = some ((opens y.2.2).length : Int) := by
      rw [← opnL_map, List.getElem?_map, ← HLE.out, List.getElem?_map, hy]; rfl
    rw [List.getElem?_eq_getElem hj] at e
    injection e)
  have hN : (opnL m zs qs).length = 2 ^ qs.length := opnL_len m zs qs
  have hlen : L0.length = 2 ^ qs.length := by
    have e := congrArg List.length he
    rw [List.length_map, endsL_len, List.length_singleton, Nat.mul_one] at e
    exact e
  have hop1 := hop.out.1
  have hop2 := hop.out.2
  have hsz1 := hb.size
  clear hs he hb HO0 HQ HI hE hop HLE
  have HTK := Lib.hid (fun k h => opnL_take m zs qs k h)
  generalize hO : opnL m zs qs = O at hN HV HTK
  have HOE := Lib.hid hO
  clear hO
  generalize 2 ^ qs.length = N at hN hlen hop1 hop2 ⊢
  have hNI : (1 : Int) ≤ (N : Int) := by omega
  have HNL := Lib.hid hN
  have HLL := Lib.hid hlen
  clear hN hlen
  go_wp2_with fail
  go_loopw [5, 15] (fun ov i wr => ∃ (k : Nat), k ≤ N ∧ i = .int .i64 (k : Int) ∧ Hid (wr.ownsRow w.heap.size 3 1 ov (O.take k).length ((O.take k).map (Value.int .i64))) ∧ Hid (SIns wr w1.heap.size w.heap.size (w.heap.size + 2) zs.length m A0 L0) ∧ Hid (Below w.heap.size w wr) ∧ Hid (∀ g, ov.ownBlock = some g → (w.heap.size ≤ g ∧ g < w.heap.size + 2) ∨ w1.heap.size ≤ g)) (fun _ i _ => N - (intOf i).toNat)
  case atStart => exact ⟨0, Nat.zero_le _, rfl, HO1, HS, HB, Lib.hid (fun g hg => .inl (HW.out g hg))⟩
  case round =>
    clear HO1 HS HB HW
    obtain ⟨k, hk, rfl, HO, HS, HB, HOW⟩ := hrel
    by_cases hlt : k < N
    · have hkl : k < L0.length := by have := HLL.out; omega
      have hkO : k < O.length := by have := HNL.out; omega
      obtain ⟨b, rfl, hb, hc0, hc1, hzl, lo3, hi3, hhi, hin⟩ := HS.out.at_ k hkl
      have hst := HST.out k _ (List.getElem?_eq_getElem hkl)
      have HX := Lib.hid (HTK.out k hkO)
      rw [HV.out k _ (List.getElem?_eq_getElem hkl) hkO] at HX
      have hol : (O.take k).length ≤ 256 := by rw [List.length_take]; omega
      generalize O.take k = Ok at HO HX hol
      generalize L0[k] = x at hc0 hc1 hzl hin hst HX
      obtain ⟨Ax, cx, z⟩ := x
      simp only at hc0 hc1 hzl hin hst HX
      have HA := Lib.hid (fun W h => openNumbers_impl Ax cx lo3 hi3 z m W h hst.2)
      rw [hzl] at HA
      generalize opens z = oz at HA HX
      have hki : (k : Int) < (N : Int) := by omega
      have hb1 := (Below.refl wr.heap.size wr).alloc (Nat.le_refl _) (.cells #[.slice Ax zs.length cx, .int .i64 m] 27)
      have HI := Lib.hid (hin.step hb1)
      replace HS := Lib.hid (HS.out.step hb1)
      replace HB := Lib.hid (below_trans HB.out hb1)
      replace HO := Lib.hid (past8 HO.out (Past.of_below hb1))
      clear hb1 hin hst
      go_wp2_with fail
      generalize wr.alloc (.cells #[.slice Ax zs.length cx, .int .i64 m] 27) = w2 at HI HS HB HO ⊢
      with_reducible refine (HA.out w2 HI.out).mono ?_
      rintro e w3 ⟨v, rfl, ho, hb3⟩
      obtain ⟨Ao, co, rfl, _, _⟩ := own_res ho rfl
      replace HS := Lib.hid (HS.out.step hb3)
      replace HB := Lib.hid (below_trans HB.out hb3)
      replace HO := Lib.hid (past8 HO.out (Past.of_below hb3))
      clear ho hb3 hc0 hc1 HI HA
      have hown := HO.out
      have hws := HB.out.size
      go_wp2_with (at_builtin; go_loud (refine wpList_append_own_at _ rfl _ _ 22 rfl w.heap.size 3 i0 (.int .i64 0) 1 8 Try.underlying22 hi0 hz0 hz1 hz2 rfl (by decide) _ _ _ rfl (hown.alloc _) ⟨_, 0, none⟩ 1 1 [.int .i64 (oz.length : Int)] rfl rfl (cell_one_new _ _ _) (by simp [Value.oneCell']) (by unfold maxLen; omega) (by omega) (by simp; omega) ?_; intro v' w4 hown' hgrow _ hat))
      have HO2 := Lib.hid (own_snocI hown' rfl)
      have hps := Past.grown hown hgrow
      have HS2 : Hid (SIns w4 w1.heap.size w.heap.size (w.heap.size + 2) zs.length m (some ⟨b, 0, none⟩) L0) := Lib.hid (HS.out.apart (fun i h1 h2 => (hgrow.block i (by have := HS.out.top; simp; omega) (fun e => by have := HOW.out i e.symm; omega)).trans (((Below.refl _ w3).alloc (Nat.le_refl _) _).block i (by have := HS.out.top; omega))) hps.size)
      have HOW2 := Lib.hid (fun (g : Nat) (hg : v'.ownBlock = some g) => show (w.heap.size ≤ g ∧ g < w.heap.size + 2) ∨ w1.heap.size ≤ g from by
        rcases hat with e | e
        · exact HOW.out g (e.symm.trans hg)
        · rw [e] at hg
          injection hg with hg
          have := HS.out.top
          simp at hg
          omega)
      have HB2 := Lib.hid (HB.out.trans (hps.below (Nat.le_refl _) hws))
      clear hown' hgrow hown HO hps HB HS HOW hat
      go_wp2
      go_roundw
      case rel => exact ⟨k + 1, by omega, by go_num, by rw [HX.out]; exact HO2, HS2, HB2, HOW2⟩
      case measure => simp [intOf]; omega
    · obtain rfl : k = N := by omega
      go_wp2
      go_ret
      have e : O.take O.length = O := List.take_length
      rw [HNL.out] at e
      rw [e] at HO
      exact ⟨_, rfl, by rw [HOE.out]; exact HO.out, HB.out⟩
set_option maxRecDepth 100000 in
set_option maxHeartbeats 8000000 in
theorem countWith_any (A : Option Addr) (c lo hi : Nat) (zs : List Int) (m : Int) (A2 : Option Addr) (c2 lo2 hi2 : Nat) (qs : List Int) (w : World) (hS : Ins w lo hi A zs) (hQ : Ins w lo2 hi2 A2 qs) (hL : Listed zs m qs) (x : Int) :
    Calls Try.prog 60 #[.agg #[.slice A zs.length c, .int .i64 m], .slice A2 qs.length c2, .int .i64 x] w fun e w' => e = .returned (.int .i64 ((geC m zs qs x : Nat) : Int)) ∧ Below w.heap.size w w' := by
  have HT := Lib.hid (Two.new w (.slice A zs.length c) (.int .i64 m) 27 (w.heap.size) rfl)
  have HB := Lib.hid ((Below.refl w.heap.size w).alloc (Nat.le_refl _) (.cells #[.slice A zs.length c, .int .i64 m] 27))
  have HI := Lib.hid (hS.step HB.out)
  have HQ := Lib.hid (hQ.step HB.out)
  have HE := Lib.hid (fun W h h2 => openAtEnds_any A c lo hi zs m A2 c2 lo2 hi2 qs W h h2 hL)
  have hop := pow8 hL.q8
  have hgc : geC m zs qs x = geTo (opnL m zs qs) x (opnL m zs qs).length := by unfold geC; rw [opnL_len]
  have hol := opnL_len m zs qs
  rw [hgc]
  clear hS hQ hL hgc
  go_enter Try.func60, Try.ntmps60
  go_wp2_with fail
  generalize w.alloc (.cells #[.slice A zs.length c, .int .i64 m] 27) = w0 at HT HB HI HQ ⊢
  have h0 := HT.out.c0
  have h1 := HT.out.c1
  with_reducible refine (HE.out _ HI.out HQ.out).mono ?_
  rintro e w1 ⟨v, rfl, ho, hb⟩
  replace HT := Lib.hid (HT.out.step hb)
  replace HB := Lib.hid (below_trans HB.out hb)
  replace HI := Lib.hid (HI.out.step hb)
  replace HQ := Lib.hid (HQ.out.step hb)
  replace h0 := HT.out.c0
  replace h1 := HT.out.c1
  obtain ⟨Av, cv, rfl, _, hR⟩ := own_res ho rfl
  have HR := Lib.hid hR.ins
  clear ho hR
  clear hb
  clear h0 h1
  clear HT HI HQ
  clear HE
  have hO256 : (opnL m zs qs).length ≤ 256 := by omega
  clear hop hol
  generalize hO : opnL m zs qs = O at HR hO256
  have HOE := Lib.hid hO
  clear hO
  go_wp2_with fail
  go_loopw [7, 14] (fun s i wr => ∃ (k : Nat), k ≤ O.length ∧ i = .int .i64 (k : Int) ∧ s = .int .i64 ((geTo O x k : Nat) : Int) ∧ wr = w1) (fun _ i _ => O.length - (intOf i).toNat)
  case atStart => exact ⟨0, Nat.zero_le _, rfl, rfl, rfl⟩
  case round =>
    obtain ⟨k, hk, rfl, rfl, hww⟩ := hrel
    have hww := hww.symm
    subst hww
    by_cases hlt : k < O.length
    · obtain ⟨b, o, rfl, _, hb, hc⟩ := HR.out.ints.at_ hlt
      have hki : (k : Int) < (O.length : Int) := by omega
      have hgl := geTo_le O x k
      by_cases hx : x ≤ O[k]
      · have HG := Lib.hid (geTo_yes hlt hx)
        generalize O[k] = y at hc hx
        generalize geTo O x k = s at HG hgl
        have hgi : (s : Int) ≤ 256 := by omega
        clear hgl
        go_wp2
        go_roundw
        case rel => exact ⟨k + 1, by omega, by go_num, by rw [HG.out]; go_num, by first | rfl | trivial⟩
        case measure => simp [intOf]; omega
      · have HG := Lib.hid (geTo_no hlt hx)
        generalize O[k] = y at hc hx
        generalize geTo O x k = s at HG hgl
        go_wp2
        go_roundw
        case rel => exact ⟨k + 1, by omega, by go_num, by rw [HG.out], by first | rfl | trivial⟩
        case measure => simp [intOf]; omega
    · obtain rfl : k = O.length := by omega
      go_wp2
      go_ret
      rw [HOE.out]
      exact ⟨rfl, HB.out⟩
set_option maxRecDepth 100000 in
set_option maxHeartbeats 8000000 in
theorem tells_any (A : Option Addr) (c lo hi : Nat) (zs : List Int) (m : Int) (A2 : Option Addr) (c2 lo2 hi2 : Nat) (qs : List Int) (w : World) (hS : Ins w lo hi A zs) (hQ : Ins w lo2 hi2 A2 qs) (hL : Listed zs m qs) :
    Calls Try.prog 66 #[.agg #[.slice A zs.length c, .int .i64 m], .slice A2 qs.length c2] w fun e w' => e = .returned (.bool (tellB m zs qs)) ∧ Below w.heap.size w w' := by
  have HT := Lib.hid (Two.new w (.slice A zs.length c) (.int .i64 m) 27 (w.heap.size) rfl)
  have HB := Lib.hid ((Below.refl w.heap.size w).alloc (Nat.le_refl _) (.cells #[.slice A zs.length c, .int .i64 m] 27))
  have HI := Lib.hid (hS.step HB.out)
  have HQ := Lib.hid (hQ.step HB.out)
  have HE := Lib.hid (fun W h h2 => countWith_any A c lo hi zs m A2 c2 lo2 hi2 qs W h h2 hL 2)
  have hle := geC_le m zs qs 2 hL.q8
  unfold tellB
  generalize geC m zs qs 2 = g at HE hle ⊢
  have hgi : (g : Int) ≤ 256 := by omega
  clear hS hQ hL
  go_enter Try.func66, Try.ntmps66
  go_wp2_with fail
  generalize w.alloc (.cells #[.slice A zs.length c, .int .i64 m] 27) = w0 at HT HB HI HQ ⊢
  have h0 := HT.out.c0
  have h1 := HT.out.c1
  with_reducible refine (HE.out _ HI.out HQ.out).mono ?_
  rintro e w1 ⟨rfl, hb⟩
  replace HT := Lib.hid (HT.out.step hb)
  replace HB := Lib.hid (below_trans HB.out hb)
  replace HI := Lib.hid (HI.out.step hb)
  replace HQ := Lib.hid (HQ.out.step hb)
  replace h0 := HT.out.c0
  replace h1 := HT.out.c1
  clear hb
  clear h0 h1
  go_wp2
  go_ret
  exact ⟨by congr 2; by_cases h0 : g = 0 <;> simp [h0], HB.out⟩
def rowD (bs : List Bool) (j : Nat) : Array Value := (List.replicate j (Value.bool false) ++ (bs.drop j).map Value.bool).toArray
theorem rowD_full (bs : List Bool) : rowD bs bs.length = (List.replicate bs.length (Value.bool false)).toArray := by simp [rowD]
theorem rowD_zero (bs : List Bool) : rowD bs 0 = (bs.map Value.bool).toArray := by simp [rowD]
theorem rowD_at {bs : List Bool} {j : Nat} (h : j < bs.length) : (rowD bs (j + 1))[j]? = some (.bool false) := by
  unfold rowD
  rw [List.getElem?_toArray, List.getElem?_append_left (by simp), List.getElem?_replicate, if_pos (by omega)]
theorem rowD_set {bs : List Bool} {j : Nat} (h : j < bs.length) : (rowD bs (j + 1)).setIfInBounds j (.bool bs[j]) = rowD bs j := by
  unfold rowD
  have e : bs.drop j = bs[j] :: bs.drop (j + 1) := List.drop_eq_getElem_cons h
  rw [List.setIfInBounds_toArray, List.set_append_left _ _ (by simp), e]
  congr 1
  rw [show List.replicate (j + 1) (Value.bool false) = List.replicate j (Value.bool false) ++ [Value.bool false] by rw [List.replicate_succ'], List.set_append_right _ _ (by simp)]
  simp only [List.length_replicate, Nat.sub_self, List.set_cons_zero, List.append_assoc, List.map_cons, List.singleton_append]
theorem bits_get {n c j : Nat} (h : j < (bitsB n c).length) : (bitsB n c)[j] = decide (c / 2 ^ (n - 1 - j) % 2 = 1) := by
  have e := bitsB_at n c j (by rw [bitsB_len] at h; exact h)
  rw [List.getElem?_eq_getElem h] at e
  injection e with e
  rw [e, Nat.testBit_eq_decide_div_mod_eq]

set_option maxRecDepth 100000 in
set_option maxHeartbeats 4000000 in
theorem answersAt_any (c n : Nat) (w : World) (hn : n ≤ 8) (hc : c < 256) :
    Calls Try.prog 64 #[.int .i64 (c : Int), .int .i64 (n : Int)] w fun e w' => ∃ A c', e = .returned (.slice A n c') ∧ BRes w' w.heap.size w'.heap.size A (bitsB n c) ∧ Below w.heap.size w w' := by
  have hbl := bitsB_len n c
  have HBG := Lib.hid (fun (j : Nat) (h : j < (bitsB n c).length) => bits_get h)
  have HNew := Lib.hid (BRes.new w (bitsB n c) w.heap.size (Nat.le_refl _))
  generalize bitsB n c = bs at hbl HBG HNew ⊢
  have hmk := makeBools n (by omega) w
  have hn2 : List.replicate n (Value.bool false) = List.replicate bs.length (Value.bool false) := by rw [hbl]
  rw [hn2, ← rowD_full] at hmk
  have HBL := Lib.hid hbl
  rw [hbl] at hmk
  clear hn2 hbl
  go_enter Try.func64, Try.ntmps64
  go_wp2
  go_loopw [0, 6] (fun p i wr => ∃ (j : Nat), j ≤ n ∧ i = .int .i64 ((j : Int) - 1) ∧ p = .int .i64 ((c / 2 ^ (n - j) : Nat) : Int) ∧ wr = w.alloc (.cells (rowD bs j) 4)) (fun _ i _ => (intOf i + 1).toNat)
  case atStart => exact ⟨n, Nat.le_refl _, rfl, by simp, rfl⟩
  case round =>
    clear hmk
    obtain ⟨j, hj, rfl, rfl, rfl⟩ := hrel
    by_cases hlt : 0 < j
    · obtain ⟨j, rfl⟩ : ∃ i, j = i + 1 := ⟨j - 1, by omega⟩
      have hjl : j < bs.length := by have := HBL.out; omega
      have hg := HBG.out j hjl
      have hat := rowD_at hjl
      have HR := Lib.hid (rowD_set hjl)
      have HP : Hid (c / 2 ^ (n - j) = c / 2 ^ (n - (j + 1)) / 2) := Lib.hid (by rw [Nat.div_div_eq_div_mul, ← Nat.pow_succ]; congr 2; omega)
      have hpl : c / 2 ^ (n - (j + 1)) < 256 := Nat.lt_of_le_of_lt (Nat.div_le_self _ _) hc
      rw [show n - 1 - j = n - (j + 1) by omega] at hg
      rw [hg] at HR
      clear hg
      generalize c / 2 ^ (n - (j + 1)) = P at HR HP hpl ⊢
      have hji : ((j + 1 : Nat) : Int) - 1 = (j : Int) := by omega
      rw [hji]
      have hpi : (0 : Int) ≤ (P : Int) ∧ (P : Int) < 256 := by omega
      have htm : (P : Int).tmod 2 = ((P % 2 : Nat) : Int) := by norm_cast
      have htd : (P : Int).tdiv 2 = ((P / 2 : Nat) : Int) := by norm_cast
      by_cases hb : P % 2 = 1
      · rw [decide_eq_true hb] at HR
        have hb1 : (P : Int) % 2 = 1 := by omega
        clear hji
        go_wp2
        go_roundw
        case rel => exact ⟨j, by omega, by go_num, by rw [HP.out]; first | rfl | go_num, by rw [HR.out]⟩
        case measure => (simp [intOf] <;> omega)
      · rw [decide_eq_false hb] at HR
        have hb1 : (P : Int) % 2 = 0 := by omega
        clear hji
        go_wp2
        go_roundw
        case rel => exact ⟨j, by omega, by go_num, by rw [HP.out]; first | rfl | go_num, by rw [HR.out]⟩
        case measure => (simp [intOf] <;> omega)
    · obtain rfl : j = 0 := by omega
      go_wp2
      go_ret
      rw [rowD_zero]
      exact ⟨_, _, rfl, HNew.out, (Below.refl _ _).alloc (Nat.le_refl _) _⟩
end Go.Proofs.Ytbgdnidbdfhgjaa
