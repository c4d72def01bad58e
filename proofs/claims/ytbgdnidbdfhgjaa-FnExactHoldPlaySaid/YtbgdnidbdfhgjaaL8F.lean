/- The answerer of the specification: the state at the end of answers, how many lists leave so many open. -/
import Derived.Test.YtbgdnidbdfhgjaaL8E
import Derived.Test.YtbgdnidbdfhgjaaOpenN
namespace Go.Proofs.Ytbgdnidbdfhgjaa
open Go.RowKit Go.ChangeShapes Go.WideShapes Go.Maps
set_option linter.unusedVariables false

/-- Where a state at the end lies: it is the one that was handed in, or its numbers lie in a new block. -/
def EndAt (w : World) (B : Nat) (A : Option Addr) (c : Nat) (A' : Option Addr) (c' : Nat) (z : List Int) (k : Nat) : Prop :=
  (k = 0 ∧ A' = A ∧ c' = c) ∨ ∃ g, A' = some ⟨g, 0, none⟩ ∧ B ≤ g ∧ Own w g (g + 1) (some ⟨g, 0, none⟩) z
theorem EndAt.ins {w : World} {B k c c' lo hi : Nat} {A A' : Option Addr} {m : Int} {zs qs : List Int} {bs : List Bool} (h : EndAt w B A c A' c' (endZ m zs (qs.take k) (bs.take k)) k) (hI : Ins w lo hi A zs) :
    ∃ lo' hi', Ins w lo' hi' A' (endZ m zs (qs.take k) (bs.take k)) := by
  rcases h with ⟨rfl, rfl, rfl⟩ | ⟨g, rfl, hg, ho⟩
  · exact ⟨lo, hi, by simpa [endZ] using hI⟩
  · exact ⟨g, g + 1, ho.ints, own_lt ho⟩
theorem EndAt.same {w w' : World} {B k c c' : Nat} {A A' : Option Addr} {z : List Int} (h : EndAt w B A c A' c' z k) (hp : ∀ i, B ≤ i → i < w.heap.size → w'.heap[i]? = w.heap[i]?) : EndAt w' B A c A' c' z k := by
  rcases h with h | ⟨g, rfl, hg, ho⟩
  · exact .inl h
  · exact .inr ⟨g, rfl, hg, own_same ho (hp g hg (own_lt ho))⟩
set_option maxRecDepth 100000 in
set_option maxHeartbeats 8000000 in
theorem l8End_any (A : Option Addr) (c lo hi : Nat) (zs : List Int) (m : Int) (A2 : Option Addr) (c2 lo2 hi2 : Nat) (qs : List Int) (A3 : Option Addr) (c3 lo3 hi3 : Nat) (bs : List Bool) (w : World) (hS : Ins w lo hi A zs) (hQ : Ins w lo2 hi2 A2 qs) (hL : Listed zs m qs) (hA : BIns w lo3 hi3 A3 bs) (hbl : bs.length = qs.length) :
    Calls Try.prog 54 #[.agg #[.slice A zs.length c, .int .i64 m], .slice A2 qs.length c2, .slice A3 bs.length c3] w fun e w' => ∃ A' c', e = .returned (.agg #[.slice A' zs.length c', .int .i64 m]) ∧ EndAt w' w.heap.size A c A' c' (endZ m zs qs bs) qs.length ∧ Below w.heap.size w w' := by
  have HT := Lib.hid (Two.new w (.slice A zs.length c) (.int .i64 m) 27 (w.heap.size) rfl)
  have HB := Lib.hid ((Below.refl w.heap.size w).alloc (Nat.le_refl _) (.cells #[.slice A zs.length c, .int .i64 m] 27))
  have HR := Lib.hid (Two.new (w.alloc (.cells #[.slice A zs.length c, .int .i64 m] 27)) (.slice none 0 0) (.int .i64 0) 27 (w.heap.size + 1) (by simp))
  replace HT := Lib.hid (HT.out.step ((Below.refl _ _).alloc (Nat.le_refl _) (.cells #[.slice none 0 0, .int .i64 0] 27)))
  replace HB := Lib.hid (HB.out.alloc HB.out.size (.cells #[.slice none 0 0, .int .i64 0] 27))
  have htop := hS.top
  have htop2 := hQ.top
  have htop3 := hA.top
  have HL := Lib.hid hL
  have h8 := hL.q8
  have hlen1 : bs.length ≤ qs.length := Nat.le_of_eq hbl
  have hlen2 : qs.length ≤ bs.length := Nat.le_of_eq hbl.symm
  have HI := Lib.hid (hS.step HB.out)
  have HQ := Lib.hid (hQ.step HB.out)
  have HA := Lib.hid (hA.step HB.out)
  clear hS hQ hA hL hbl
  have hw02 : w.heap.size + 2 ≤ ((w.alloc (.cells #[.slice A zs.length c, .int .i64 m] 27)).alloc (.cells #[.slice none 0 0, .int .i64 0] 27)).heap.size := by simp
  go_enter Try.func54, Try.ntmps54
  go_wp2_with fail
  generalize (w.alloc (.cells #[.slice A zs.length c, .int .i64 m] 27)).alloc (.cells #[.slice none 0 0, .int .i64 0] 27) = w0 at HT HR HB HI HQ HA hw02 ⊢
  go_loopw [7] (fun i wr => ∃ (k : Nat) (A' : Option Addr) (c' : Nat), k ≤ qs.length ∧ i = .int .i64 (k : Int) ∧ Hid (Two wr w.heap.size (.slice A' zs.length c') (.int .i64 m) 27) ∧ Hid (Two wr (w.heap.size + 1) (.slice none 0 0) (.int .i64 0) 27) ∧ Hid (EndAt wr (w.heap.size + 2) A c A' c' (endZ m zs (qs.take k) (bs.take k)) k) ∧ Hid (Ins wr lo hi A zs) ∧ Hid (Ins wr lo2 hi2 A2 qs) ∧ Hid (BIns wr lo3 hi3 A3 bs) ∧ Hid (Below w.heap.size w wr) ∧ w.heap.size + 2 ≤ wr.heap.size) (fun i _ => qs.length - (intOf i).toNat)
  case atStart => exact ⟨0, A, c, Nat.zero_le _, rfl, HT, HR, Lib.hid (.inl ⟨rfl, rfl, rfl⟩), HI, HQ, HA, HB, hw02⟩
  case round =>
    clear HT HR HI HQ HA HB hw02
    obtain ⟨k, A', c', hk, rfl, HT, HR, HE, HI, HQ, HA, HB, hwr⟩ := hrel
    by_cases hlt : k < qs.length
    · obtain ⟨b, o, rfl, _, hb, hc⟩ := HQ.out.ints.at_ hlt
      obtain ⟨b3, o3, rfl, _, hb3, hc3⟩ := HA.out.at_ (k := k) (by omega)
      have HC := Lib.hid (One8.mk hc)
      have HC3 := Lib.hid (One8.mk hc3)
      have HNX := Lib.hid (endZ_take m qs zs bs k _ _ (List.getElem?_eq_getElem hlt) (List.getElem?_eq_getElem (show k < bs.length by omega)))
      have hst := endZ_isSt m (qs.take k) zs (bs.take k) HL.out.st
      have hzl := endZ_len m (qs.take k) zs (bs.take k)
      obtain ⟨lo4, hi4, hI4⟩ := HE.out.ins HI.out
      generalize endZ m zs (qs.take k) (bs.take k) = z at hst hzl hI4 HNX
      generalize qs[k] = q at hc HC HNX
      generalize bs[k]'(by omega) = y at hc3 HC3 HNX
      have HI4 := Lib.hid hI4
      have HAf := Lib.hid (fun W h => l2After_any A' c' lo4 hi4 z m q y W h hst)
      rw [hzl] at HAf
      have hki : (k : Int) < (qs.length : Int) := by omega
      have hki3 : (k : Int) < (bs.length : Int) := by omega
      clear hc hc3 hI4 HE hst hzl
      have HSZ := Lib.hid hwr
      go_wp2_with fail
      have hbd := (Below.refl wr.heap.size wr).drew
      replace HT := Lib.hid (HT.out.step hbd)
      replace HR := Lib.hid (HR.out.step hbd)
      replace HI := Lib.hid (HI.out.step hbd)
      replace HQ := Lib.hid (HQ.out.step hbd)
      replace HA := Lib.hid (HA.out.step hbd)
      replace HI4 := Lib.hid (HI4.out.step hbd)
      replace HC := Lib.hid (HC.out.step hbd)
      replace HC3 := Lib.hid (HC3.out.step hbd)
      replace HB := Lib.hid (below_trans HB.out hbd)
      replace HSZ := Lib.hid (Nat.le_trans HSZ.out hbd.size)
      clear hbd
      refine wp_region_still_tail 9 (by kernel_rfl) (by kernel_rfl) ?_
      change wpStill _ _ wr.drew (fun a' => wpList _ _ _ _ a' wr.drew) _ _
      generalize wr.drew = w11 at HT HR HI HQ HA HI4 HC HC3 HB HSZ ⊢
      have h0 := HT.out.c0
      have h1 := HT.out.c1
      have hc := HC.out.c
      have hc3 := HC3.out.c
      simp only [List.take_succ_cons, List.take_zero, List.drop_succ_cons, List.drop_zero]
      repeat still_step
      refine wpStill_nil ?_
      clear HC HC3
      have hwz := HSZ.out
      go_wp2_with fail
      with_reducible refine (HAf.out w11 HI4.out).mono ?_
      rintro e w12 ⟨g, cg, rfl, hg, ho, hb⟩
      replace HT := Lib.hid (HT.out.step hb)
      replace HR := Lib.hid (HR.out.step hb)
      replace HI := Lib.hid (HI.out.step hb)
      replace HQ := Lib.hid (HQ.out.step hb)
      replace HA := Lib.hid (HA.out.step hb)
      replace HI4 := Lib.hid (HI4.out.step hb)
      replace HB := Lib.hid (below_trans HB.out hb)
      replace HSZ := Lib.hid (Nat.le_trans HSZ.out hb.size)
      replace h0 := HT.out.c0
      replace h1 := HT.out.c1
      have HO := Lib.hid ho
      have hsz := hb.size
      have hsz2 := HSZ.out
      clear hb
      clear h0 h1
      clear hc hc3 HI4 HAf ho
      have q0 := HT.out.c0
      have q1 := HT.out.c1
      have q2 := HT.out.f0
      have q3 := HT.out.f1
      obtain ⟨hs, hw⟩ := stored2 HT.out.row (.slice (some ⟨g, 0, none⟩) zs.length cg) (.int .i64 m)
      have HS2 := Lib.hid hs
      have HW2 := Lib.hid hw
      clear hs hw
      have hgb : w.heap.size + 2 ≤ g := by have := HSZ.out; omega
      go_wp2
      generalize ((w12.setCell ⟨w.heap.size, 0, none⟩ (.slice (some ⟨g, 0, none⟩) zs.length cg)).setCell ⟨w.heap.size, 1, none⟩ (.int .i64 m)) = wf at HS2 HW2 ⊢
      go_roundw
      case rel => exact ⟨k + 1, some ⟨g, 0, none⟩, cg, by omega, by go_num, Lib.hid ⟨HS2.out⟩, Lib.hid (HR.out.within HW2.out (.inr (by omega))), Lib.hid (.inr ⟨g, rfl, hgb, by rw [HNX.out]; exact own_same HO.out (HW2.out.block g (own_lt HO.out) (.inr (by omega)))⟩), Lib.hid (HI.out.within HW2.out (.inl (by omega))), Lib.hid (HQ.out.within HW2.out (.inl (by omega))), Lib.hid (HA.out.within HW2.out (.inl (by omega))), Lib.hid (HB.out.trans (HW2.out.below (Nat.le_refl _) HB.out.size)), by have := HW2.out.size; omega⟩
      case measure => simp [intOf]; omega
    · obtain rfl : k = qs.length := by omega
      rw [List.take_length, List.take_of_length_le (by omega)] at HE
      have h0 := HT.out.c0
      have h1 := HT.out.c1
      have q0 := HR.out.c0
      have q1 := HR.out.c1
      have q2 := HR.out.f0
      have q3 := HR.out.f1
      go_wp2
      obtain ⟨hs, hw⟩ := stored2 HR.out.row (.slice A' zs.length c') (.int .i64 m)
      generalize ((wr.setCell ⟨w.heap.size + 1, 0, none⟩ (.slice A' zs.length c')).setCell ⟨w.heap.size + 1, 1, none⟩ (.int .i64 m)) = wf at hs hw ⊢
      have e0 := two0 hs
      have e1 := two1 hs
      refine bodyPost_ret (v := .agg #[.slice A' zs.length c', .int .i64 m]) (by simp [results, go_sem, e0, e1]) rfl ?_
      refine ⟨A', c', rfl, ?_, HB.out.trans (hw.below (by omega) HB.out.size)⟩
      rcases HE.out with h | ⟨g, hg, hgl, ho⟩
      · exact .inl h
      · exact .inr ⟨g, hg, by omega, own_same ho (hw.block g (own_lt ho) (.inr (by omega)))⟩
set_option maxRecDepth 100000 in
set_option maxHeartbeats 8000000 in
theorem l8Left_any (A : Option Addr) (c lo hi : Nat) (zs : List Int) (m : Int) (A2 : Option Addr) (c2 lo2 hi2 : Nat) (qs : List Int) (k : Nat) (w : World) (hS : Ins w lo hi A zs) (hQ : Ins w lo2 hi2 A2 qs) (hL : Listed zs m qs) (hk : k < 256) :
    Calls Try.prog 61 #[.agg #[.slice A zs.length c, .int .i64 m], .slice A2 qs.length c2, .int .i64 (k : Int)] w fun e w' => e = .returned (.int .i64 ((lft m zs qs k : Nat) : Int)) ∧ Below w.heap.size w w' := by
  have HT := Lib.hid (Two.new w (.slice A zs.length c) (.int .i64 m) 27 (w.heap.size) rfl)
  have HB := Lib.hid ((Below.refl w.heap.size w).alloc (Nat.le_refl _) (.cells #[.slice A zs.length c, .int .i64 m] 27))
  have HI := Lib.hid (hS.step HB.out)
  have HQ := Lib.hid (hQ.step HB.out)
  have HAn := Lib.hid (fun W => l8Answers_any k qs.length W hL.q8 hk)
  have HEn := Lib.hid (fun A3 c3 lo3 hi3 W h1 h2 h3 => l8End_any A c lo hi zs m A2 c2 lo2 hi2 qs A3 c3 lo3 hi3 (bitsB qs.length k) W h1 h2 hL h3 (bitsB_len _ _))
  rw [bitsB_len] at HEn
  have hst := endZ_isSt m qs zs (bitsB qs.length k) hL.st
  have hzl := endZ_len m qs zs (bitsB qs.length k)
  have hl := isSt_len hL.st
  have hlft : lft m zs qs k = (opens (endZ m zs qs (bitsB qs.length k))).length := rfl
  have hob := opens_le (endZ m zs qs (bitsB qs.length k))
  rw [hlft]
  have HOp := Lib.hid (fun A' c' lo' hi' W h => l2Open_any A' c' lo' hi' (endZ m zs qs (bitsB qs.length k)) m W h (by omega))
  rw [hzl] at HOp
  have HEI := Lib.hid (fun (W : World) (A' : Option Addr) (c' B : Nat) (h : EndAt W B A c A' c' (endZ m zs qs (bitsB qs.length k)) qs.length) (hI : Ins W lo hi A zs) => show ∃ lo' hi', Ins W lo' hi' A' (endZ m zs qs (bitsB qs.length k)) from by
    have e1 : qs.take qs.length = qs := List.take_length
    have e2 : (bitsB qs.length k).take qs.length = bitsB qs.length k := List.take_of_length_le (by rw [bitsB_len]; exact Nat.le_refl _)
    have := EndAt.ins (k := qs.length) (m := m) (zs := zs) (qs := qs) (bs := bitsB qs.length k) (by rw [e1, e2]; exact h) hI
    rwa [e1, e2] at this)
  clear hS hQ hL hst hzl hl hob hlft
  have hq0 : (0 : Int) ≤ (qs.length : Int) := by omega
  generalize hbs : bitsB qs.length k = bs at HAn HEn HEI HOp ⊢
  clear hbs
  generalize endZ m zs qs bs = z at HEn HEI HOp ⊢
  go_enter Try.func61, Try.ntmps61
  go_wp2_with fail
  generalize w.alloc (.cells #[.slice A zs.length c, .int .i64 m] 27) = w0 at HT HB HI HQ ⊢
  go_wp2_with fail
  go_region_held3 (fun w' => w'.cell? ⟨w.heap.size, 0, none⟩ = some (.slice A zs.length c) ∧ w'.cell? ⟨w.heap.size, 1, none⟩ = some (.int .i64 m))
    (first
     | exact ⟨(HT.out.step (Below.refl _ w0).drew).c0, (HT.out.step (Below.refl _ w0).drew).c1⟩
     | exact ⟨(HT_1.out).c0, (HT_1.out).c1⟩
     | exact ⟨(HT_2.out).c0, (HT_2.out).c1⟩
     | exact ⟨(HT_3.out).c0, (HT_3.out).c1⟩)
    (first
     | (go_at_call 71; (with_reducible refine (HOp.out A' c' lo' hi' v2 HI5.out).mono ?_); rintro e v3 ⟨v, rfl, ho, hb⟩; have HZ3 := Lib.hid (below_trans HZ2.out hb); have HT_3 := Lib.hid (HT.out.step HZ3.out); have HB_3 := Lib.hid (below_trans HB.out HZ3.out); have HI_3 := Lib.hid (HI.out.step HZ3.out); have HQ_3 := Lib.hid (HQ.out.step HZ3.out); obtain ⟨Ao, co, rfl, _, _⟩ := own_res ho rfl; clear ho; clear hb)
     | (go_at_call 54; (with_reducible refine (HEn.out Ab cb _ _ v1 HI_1.out HQ_1.out HRB.out).mono ?_); rintro e v2 ⟨A', c', rfl, he, hb⟩; have HZ2 := Lib.hid (below_trans HZ1.out hb); have HT_2 := Lib.hid (HT.out.step HZ2.out); have HB_2 := Lib.hid (below_trans HB.out HZ2.out); have HI_2 := Lib.hid (HI.out.step HZ2.out); have HQ_2 := Lib.hid (HQ.out.step HZ2.out); obtain ⟨lo', hi', hI'⟩ := HEI.out _ _ _ _ he HI_2.out; have HI5 := Lib.hid hI'; clear he hI'; clear hb)
     | (go_at_call 62; (with_reducible refine (HAn.out w0.drew).mono ?_); rintro e v1 ⟨v, rfl, ho, hb⟩; have HZ1 := Lib.hid (below_trans (Below.refl _ w0).drew hb); have HT_1 := Lib.hid (HT.out.step HZ1.out); have HB_1 := Lib.hid (below_trans HB.out HZ1.out); have HI_1 := Lib.hid (HI.out.step HZ1.out); have HQ_1 := Lib.hid (HQ.out.step HZ1.out); obtain ⟨Ab, cb, hv, hR⟩ := own_resB (bs := bs) ho (by have := ho.1; simpa using this.symm); have hbl : bs.length = qs.length := (by have := ho.1; simpa using this); rw [hbl] at hv; subst hv; have HRB := Lib.hid hR.ins; clear ho hR hbl; clear hb))
  all_goals
    go_wp2
    go_ret
    exact ⟨rfl, HB_3.out⟩
set_option maxRecDepth 100000 in
set_option maxHeartbeats 8000000 in
theorem l8Count_any (A : Option Addr) (c lo hi : Nat) (zs : List Int) (m : Int) (A2 : Option Addr) (c2 lo2 hi2 : Nat) (qs : List Int) (x : Int) (w : World) (hS : Ins w lo hi A zs) (hQ : Ins w lo2 hi2 A2 qs) (hL : Listed zs m qs) :
    Calls Try.prog 59 #[.agg #[.slice A zs.length c, .int .i64 m], .slice A2 qs.length c2, .int .i64 x] w fun e w' => e = .returned (.int .i64 ((geC m zs qs x : Nat) : Int)) ∧ Below w.heap.size w w' := by
  have HT := Lib.hid (Two.new w (.slice A zs.length c) (.int .i64 m) 27 (w.heap.size) rfl)
  have HB := Lib.hid ((Below.refl w.heap.size w).alloc (Nat.le_refl _) (.cells #[.slice A zs.length c, .int .i64 m] 27))
  have htop := hS.top
  have htop2 := hQ.top
  have HI := Lib.hid (hS.step HB.out)
  have HQ := Lib.hid (hQ.step HB.out)
  have HLf := Lib.hid (fun (k : Nat) (hk : k < 2 ^ qs.length) W h1 h2 => l8Left_any A c lo hi zs m A2 c2 lo2 hi2 qs k W h1 h2 hL (by have : 2 ^ qs.length ≤ 2 ^ 8 := Nat.pow_le_pow_right (by omega) hL.q8; omega))
  have hgc : geC m zs qs x = geTo (opnL m zs qs) x (opnL m zs qs).length := by unfold geC; rw [opnL_len]
  have HOL := Lib.hid (opnL_len m zs qs)
  have HOG := Lib.hid (fun k h => opnL_get m zs qs k h)
  have hlf : ∀ k, lft m zs qs k ≤ 12 := fun k => by have := lft_le m zs qs k; have := isSt_len hL.st; omega
  have h8 := hL.q8
  have hpw : 2 ^ qs.length ≤ 256 := Nat.le_trans (Nat.pow_le_pow_right (by omega) h8) (by decide)
  have HPW := Lib.hid (show (1 : Int) * 2 ^ qs.length = ((2 ^ qs.length : Nat) : Int) by norm_cast; omega)
  rw [hgc]
  clear hS hQ hL hgc
  generalize hO : opnL m zs qs = O at HOL HOG ⊢
  clear hO
  generalize hF : lft m zs qs = F at HLf HOG hlf
  clear hF
  go_enter Try.func59, Try.ntmps59
  go_wp2_with fail
  generalize w.alloc (.cells #[.slice A zs.length c, .int .i64 m] 27) = w0 at HT HB HI HQ ⊢
  go_loopw [7, 8] (fun s i wr => ∃ (k : Nat), k ≤ O.length ∧ i = .int .i64 (k : Int) ∧ s = .int .i64 ((geTo O x k : Nat) : Int) ∧ Hid (Two wr w.heap.size (.slice A zs.length c) (.int .i64 m) 27) ∧ Hid (Ins wr lo hi A zs) ∧ Hid (Ins wr lo2 hi2 A2 qs) ∧ Hid (Below w.heap.size w wr)) (fun _ i _ => O.length - (intOf i).toNat)
  case atStart => exact ⟨0, Nat.zero_le _, rfl, rfl, HT, HI, HQ, HB⟩
  case round =>
    clear HT HI HQ HB
    obtain ⟨k, hk, rfl, rfl, HT, HI, HQ, HB⟩ := hrel
    have hshl : (1 : Int) * 2 ^ qs.length = (O.length : Int) := by rw [HPW.out, HOL.out]
    have hq8 : (qs.length : Int) ≤ 8 := by omega
    have hOl : (O.length : Int) ≤ 256 := by have := HOL.out; omega
    by_cases hlt : k < O.length
    · have hki : (k : Int) < (O.length : Int) := by omega
      have HLk := Lib.hid (fun W => HLf.out k (by have := HOL.out; omega) W)
      have hgl := geTo_le O x k
      have hFk := hlf k
      have hgt := HOG.out k hlt
      generalize F k = fk at HLk hFk hgt
      have h0 := HT.out.c0
      have h1 := HT.out.c1
      go_wp2_with fail
      with_reducible refine (HLk.out wr HI.out HQ.out).mono ?_
      rintro e w21 ⟨rfl, hb⟩
      replace HT := Lib.hid (HT.out.step hb)
      replace HI := Lib.hid (HI.out.step hb)
      replace HQ := Lib.hid (HQ.out.step hb)
      replace HB := Lib.hid (below_trans HB.out hb)
      replace h0 := HT.out.c0
      replace h1 := HT.out.c1
      clear hb
      clear h0 h1
      clear HLk
      by_cases hx : x ≤ (fk : Int)
      · have HG := Lib.hid (geTo_yes hlt (by rw [hgt]; exact hx))
        clear hgt
        generalize geTo O x k = s at HG hgl
        have hgi : (s : Int) ≤ 256 := by omega
        clear hgl
        go_wp2
        go_roundw
        case rel => exact ⟨k + 1, by omega, by go_num, by rw [HG.out]; go_num, HT, HI, HQ, HB⟩
        case measure => simp [intOf]; omega
      · have HG := Lib.hid (geTo_no hlt (by rw [hgt]; exact hx))
        clear hgt
        generalize geTo O x k = s at HG hgl
        go_wp2
        go_roundw
        case rel => exact ⟨k + 1, by omega, by go_num, by rw [HG.out], HT, HI, HQ, HB⟩
        case measure => simp [intOf]; omega
    · obtain rfl : k = O.length := by omega
      go_wp2
      go_ret
      exact ⟨rfl, HB.out⟩
set_option maxRecDepth 100000 in
set_option maxHeartbeats 8000000 in
theorem l8Tell_any (A : Option Addr) (c lo hi : Nat) (zs : List Int) (m : Int) (A2 : Option Addr) (c2 lo2 hi2 : Nat) (qs : List Int) (w : World) (hS : Ins w lo hi A zs) (hQ : Ins w lo2 hi2 A2 qs) (hL : Listed zs m qs) :
    Calls Try.prog 65 #[.agg #[.slice A zs.length c, .int .i64 m], .slice A2 qs.length c2] w fun e w' => e = .returned (.bool (tellB m zs qs)) ∧ Below w.heap.size w w' := by
  have HT := Lib.hid (Two.new w (.slice A zs.length c) (.int .i64 m) 27 (w.heap.size) rfl)
  have HB := Lib.hid ((Below.refl w.heap.size w).alloc (Nat.le_refl _) (.cells #[.slice A zs.length c, .int .i64 m] 27))
  have HI := Lib.hid (hS.step HB.out)
  have HQ := Lib.hid (hQ.step HB.out)
  have HE := Lib.hid (fun W h h2 => l8Count_any A c lo hi zs m A2 c2 lo2 hi2 qs 2 W h h2 hL)
  have hle := geC_le m zs qs 2 hL.q8
  unfold tellB
  generalize geC m zs qs 2 = g at HE hle ⊢
  have hgi : (g : Int) ≤ 256 := by omega
  clear hS hQ hL
  go_enter Try.func65, Try.ntmps65
  go_wp2_with fail
  generalize w.alloc (.cells #[.slice A zs.length c, .int .i64 m] 27) = w0 at HT HB HI HQ ⊢
  have h0 := HT.out.c0
  have h1 := HT.out.c1
  with_reducible refine (HE.out _ HI.out HQ.out).mono ?_
  rintro e w1 ⟨rfl, hb⟩
  replace HT := Lib.hid (HT.out.step hb)
  replace HB := Lib.hid (below_trans HB.out hb)
  replace HI := Lib.hid (HI.out.step hb)
  replace HQ := Lib.hid (HQ.out.step hb)
  replace h0 := HT.out.c0
  replace h1 := HT.out.c1
  clear hb
  clear h0 h1
  go_wp2
  go_ret
  exact ⟨by congr 2; by_cases h0 : g = 0 <;> simp [h0], HB.out⟩
end Go.Proofs.Ytbgdnidbdfhgjaa
