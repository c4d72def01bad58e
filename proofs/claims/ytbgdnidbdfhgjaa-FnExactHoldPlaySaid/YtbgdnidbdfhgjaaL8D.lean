/- The answerer: the first answers that hold, the most that are kept. -/
import Derived.Test.YtbgdnidbdfhgjaaL8C
namespace Go.Proofs.Ytbgdnidbdfhgjaa
open Go.RowKit Go.ChangeShapes Go.WideShapes Go.Maps
set_option linter.unusedVariables false

theorem BOwn.wide8 {w : World} {lo hi lo' : Nat} {A : Option Addr} {bs : List Bool} (h : BOwn w lo hi A bs) (hl : lo' ≤ lo) : BOwn w lo' hi A bs := by
  rcases h with h | ⟨g, cur, e, h1, h2, r⟩
  · exact .inl h
  · exact .inr ⟨g, cur, e, Nat.le_trans hl h1, h2, r⟩
theorem empty_resB8 (w : World) (lo : Nat) (h : lo ≤ w.heap.size) : BRes (w.alloc (.cells #[] 4)) lo (w.alloc (.cells #[] 4)).heap.size (some ⟨w.heap.size, 0, none⟩) [] := BRes.new w [] lo h
theorem Listed.ok1 {zs : List Int} {m : Int} {qs : List Int} (h : Listed zs m qs) : lOK zs m qs = true := lOK_iff.2 h
theorem Listed.len {zs : List Int} {m : Int} {qs : List Int} (h : Listed zs m qs) : 1 ≤ zs.length ∧ zs.length ≤ 12 := by have := isSt_len h.st; omega

set_option maxHeartbeats 2000000 in
theorem slicesMax_any (A : Option Addr) (c lo hi : Nat) (O : List Int) (d : Nat) (w : World) (hS : Ins w lo hi A O) (hd : BestB O O.length d) (hn : O.length ≤ 256) :
    Calls Try.prog 67 #[.slice A O.length c] w fun e w' => e = .returned (.int .i64 (O.getD d 0)) ∧ w' = w := by
  have HS := Lib.hid hS
  have HD := Lib.hid hd
  have hpos : 0 < O.length := Nat.lt_of_le_of_lt (Nat.zero_le _) hd.lt
  clear hS hd
  obtain ⟨b, o, rfl, _, hb, hc⟩ := HS.out.ints.at_ hpos
  have hpi : ¬ (O.length : Int) < 1 := by omega
  have H0 := Lib.hid (show O.getD 0 0 = O[0] by simp [List.getD, hpos])
  generalize O[0] = x0 at hc H0
  simp only [Nat.add_zero] at hc
  go_enter Try.func67, Try.ntmps67
  go_wp2
  go_loopw [3, 4] (fun x i wr => ∃ (k j : Nat), k + 1 ≤ O.length ∧ i = .int .i64 (((k + 1 : Nat)) : Int) ∧ Hid (BestB O (k + 1) j) ∧ x = .int .i64 (O.getD j 0) ∧ wr = w) (fun _ i _ => O.length - (intOf i).toNat)
  case atStart => exact ⟨0, 0, hpos, rfl, Lib.hid (BestB.one hpos), by rw [H0.out], rfl⟩
  case round =>
    clear hc H0
    obtain ⟨k, j, hk, rfl, HB, rfl, hww⟩ := hrel
    have hww := hww.symm
    subst hww
    by_cases hlt : k + 1 < O.length
    · obtain ⟨b', o', e, _, hb', hc⟩ := HS.out.ints.at_ hlt
      injection e with e
      injection e with e1 e2
      subst e1 e2
      have hki : ((k + 1 : Nat) : Int) < (O.length : Int) := by omega
      have HG := Lib.hid (show O.getD (k + 1) 0 = O[k + 1] by simp [List.getD, hlt])
      generalize O[k + 1] = y at hc HG
      by_cases hy : y ≤ O.getD j 0
      · have HB2 := Lib.hid (HB.out.stay hlt (by rw [HG.out]; exact hy))
        clear HB HG
        generalize hz : O.getD j 0 = z at hy ⊢
        have HZ := Lib.hid hz
        clear hz
        go_wp2
        go_roundw
        case rel => exact ⟨k + 1, j, by omega, by go_num, HB2, by rw [HZ.out], by first | rfl | trivial⟩
        case measure => simp [intOf]; omega
      · have HB2 := Lib.hid (HB.out.turn hlt (by rw [HG.out]; exact Int.not_le.1 hy))
        clear HB
        generalize O.getD j 0 = z at hy ⊢
        have HG2 := Lib.hid HG.out.symm
        clear HG
        go_wp2
        go_roundw
        case rel => exact ⟨k + 1, k + 1, by omega, by go_num, HB2, by rw [← HG2.out], by first | rfl | trivial⟩
        case measure => simp [intOf]; omega
    · have e : k + 1 = O.length := by omega
      have ej : j = d := BestB.unique (by have := HB.out; rw [e] at this; exact this) HD.out
      subst ej
      go_wp2
      go_ret
      exact ⟨rfl, rfl⟩
set_option maxHeartbeats 2000000 in
theorem slicesIndex_any (A : Option Addr) (c lo hi : Nat) (O : List Int) (d : Nat) (w : World) (hS : Ins w lo hi A O) (hd : BestB O O.length d) (hn : O.length ≤ 256) :
    Calls Try.prog 68 #[.slice A O.length c, .int .i64 (O.getD d 0)] w fun e w' => e = .returned (.int .i64 (d : Int)) ∧ w' = w := by
  have HS := Lib.hid hS
  have HD := Lib.hid hd
  have hdl := hd.lt
  clear hS hd
  have hpi : (d : Int) < (O.length : Int) := by omega
  have HV := Lib.hid (fun k (h : k < O.length) => show O.getD k 0 = O[k] by simp [List.getD, h])
  generalize hx : O.getD d 0 = x
  have HX := Lib.hid hx
  clear hx
  go_enter Try.func68, Try.ntmps68
  go_wp2
  go_loopw [8] (fun i wr => ∃ (k : Nat), k ≤ d ∧ i = .int .i64 (k : Int) ∧ wr = w) (fun i _ => O.length - (intOf i).toNat)
  case atStart => exact ⟨0, Nat.zero_le _, rfl, rfl⟩
  case round =>
    obtain ⟨k, hk, rfl, hww⟩ := hrel
    have hww := hww.symm
    subst hww
    have hlt : k < O.length := by omega
    have hki : (k : Int) < (O.length : Int) := by omega
    obtain ⟨b, o, rfl, _, hb, hc⟩ := HS.out.ints.at_ hlt
    by_cases hkd : k < d
    · have hne : ¬ x = O[k] := by
        have h1 := HD.out.first k hkd
        rw [HV.out k hlt, HX.out] at h1
        omega
      generalize O[k] = y at hc hne
      go_wp2
      go_roundw
      case rel => exact ⟨k + 1, by omega, by go_num, by first | rfl | trivial⟩
      case measure => simp [intOf]; omega
    · obtain rfl : k = d := by omega
      have he : O[k] = x := by rw [← HV.out k hlt, HX.out]
      rw [he] at hc
      clear he
      go_wp2
      go_ret
      exact ⟨rfl, rfl⟩
set_option maxRecDepth 100000 in
set_option maxHeartbeats 8000000 in
theorem firstHolding_impl_no (A : Option Addr) (c lo hi : Nat) (zs : List Int) (m : Int) (A2 : Option Addr) (c2 lo2 hi2 : Nat) (qs : List Int) (w : World) (hS : Ins w lo hi A zs) (hQ : Ins w lo2 hi2 A2 qs) (hn : zs.length ≤ 1048576) (hn2 : qs.length ≤ 1048576) (hok : lOK zs m qs = false) :
    Calls Try.prog 33 #[.agg #[.slice A zs.length c, .int .i64 m], .slice A2 qs.length c2] w fun e w' => ∃ B c', e = .returned (.tuple #[.slice B 0 c', .bool false]) ∧ BRes w' w.heap.size w'.heap.size B [] ∧ Below w.heap.size w w' := by
  have HT := Lib.hid (Two.new w (.slice A zs.length c) (.int .i64 m) 27 (w.heap.size) rfl)
  have HB := Lib.hid ((Below.refl w.heap.size w).alloc (Nat.le_refl _) (.cells #[.slice A zs.length c, .int .i64 m] 27))
  have HI := Lib.hid (hS.step HB.out)
  have HQ := Lib.hid (hQ.step HB.out)
  have HG := Lib.hid (fun W h h2 => areListed_any A c lo hi zs m A2 c2 lo2 hi2 qs W h h2 hn hn2)
  rw [hok] at HG
  clear hS hQ
  go_enter Try.func33, Try.ntmps33
  go_wp2_with fail
  generalize w.alloc (.cells #[.slice A zs.length c, .int .i64 m] 27) = w0 at HT HB HI HQ ⊢
  have h0 := HT.out.c0
  have h1 := HT.out.c1
  with_reducible refine (HG.out _ HI.out HQ.out).mono ?_
  rintro e w1 ⟨rfl, hb⟩
  replace HT := Lib.hid (HT.out.step hb)
  replace HB := Lib.hid (below_trans HB.out hb)
  replace HI := Lib.hid (HI.out.step hb)
  replace HQ := Lib.hid (HQ.out.step hb)
  replace h0 := HT.out.c0
  replace h1 := HT.out.c1
  clear hb
  clear h0 h1
  go_wp2
  go_ret2
  exact ⟨_, _, rfl, empty_resB8 _ _ HB.out.size, HB.out.alloc HB.out.size _⟩
set_option maxRecDepth 100000 in
set_option maxHeartbeats 8000000 in
theorem firstHolding_spec_no (A : Option Addr) (c lo hi : Nat) (zs : List Int) (m : Int) (A2 : Option Addr) (c2 lo2 hi2 : Nat) (qs : List Int) (w : World) (hS : Ins w lo hi A zs) (hQ : Ins w lo2 hi2 A2 qs) (hn : zs.length ≤ 1048576) (hn2 : qs.length ≤ 1048576) (hok : lOK zs m qs = false) :
    Calls Try.prog 32 #[.agg #[.slice A zs.length c, .int .i64 m], .slice A2 qs.length c2] w fun e w' => ∃ B c', e = .returned (.tuple #[.slice B 0 c', .bool false]) ∧ BRes w' w.heap.size w'.heap.size B [] ∧ Below w.heap.size w w' := by
  have HT := Lib.hid (Two.new w (.slice A zs.length c) (.int .i64 m) 27 (w.heap.size) rfl)
  have HB := Lib.hid ((Below.refl w.heap.size w).alloc (Nat.le_refl _) (.cells #[.slice A zs.length c, .int .i64 m] 27))
  have HI := Lib.hid (hS.step HB.out)
  have HQ := Lib.hid (hQ.step HB.out)
  have HG := Lib.hid (fun W h h2 => l8Good_any A c lo hi zs m A2 c2 lo2 hi2 qs W h h2 hn hn2)
  rw [hok] at HG
  clear hS hQ
  go_enter Try.func32, Try.ntmps32
  go_wp2_with fail
  generalize w.alloc (.cells #[.slice A zs.length c, .int .i64 m] 27) = w0 at HT HB HI HQ ⊢
  have h0 := HT.out.c0
  have h1 := HT.out.c1
  with_reducible refine (HG.out _ HI.out HQ.out).mono ?_
  rintro e w1 ⟨rfl, hb⟩
  replace HT := Lib.hid (HT.out.step hb)
  replace HB := Lib.hid (below_trans HB.out hb)
  replace HI := Lib.hid (HI.out.step hb)
  replace HQ := Lib.hid (HQ.out.step hb)
  replace h0 := HT.out.c0
  replace h1 := HT.out.c1
  clear hb
  clear h0 h1
  go_wp2
  go_ret2
  exact ⟨_, _, rfl, empty_resB8 _ _ HB.out.size, HB.out.alloc HB.out.size _⟩
set_option maxRecDepth 100000 in
set_option maxHeartbeats 8000000 in
theorem mostKept_impl_no (A : Option Addr) (c lo hi : Nat) (zs : List Int) (m : Int) (A2 : Option Addr) (c2 lo2 hi2 : Nat) (qs : List Int) (w : World) (hS : Ins w lo hi A zs) (hQ : Ins w lo2 hi2 A2 qs) (hn : zs.length ≤ 1048576) (hn2 : qs.length ≤ 1048576) (hok : lOK zs m qs = false) :
    Calls Try.prog 40 #[.agg #[.slice A zs.length c, .int .i64 m], .slice A2 qs.length c2] w fun e w' => ∃ B c', e = .returned (.tuple #[.int .i64 0, .slice B 0 c', .bool false]) ∧ BRes w' w.heap.size w'.heap.size B [] ∧ Below w.heap.size w w' := by
  have HT := Lib.hid (Two.new w (.slice A zs.length c) (.int .i64 m) 27 (w.heap.size) rfl)
  have HB := Lib.hid ((Below.refl w.heap.size w).alloc (Nat.le_refl _) (.cells #[.slice A zs.length c, .int .i64 m] 27))
  have HI := Lib.hid (hS.step HB.out)
  have HQ := Lib.hid (hQ.step HB.out)
  have HG := Lib.hid (fun W h h2 => areListed_any A c lo hi zs m A2 c2 lo2 hi2 qs W h h2 hn hn2)
  rw [hok] at HG
  clear hS hQ
  go_enter Try.func40, Try.ntmps40
  go_wp2_with fail
  generalize w.alloc (.cells #[.slice A zs.length c, .int .i64 m] 27) = w0 at HT HB HI HQ ⊢
  have h0 := HT.out.c0
  have h1 := HT.out.c1
  with_reducible refine (HG.out _ HI.out HQ.out).mono ?_
  rintro e w1 ⟨rfl, hb⟩
  replace HT := Lib.hid (HT.out.step hb)
  replace HB := Lib.hid (below_trans HB.out hb)
  replace HI := Lib.hid (HI.out.step hb)
  replace HQ := Lib.hid (HQ.out.step hb)
  replace h0 := HT.out.c0
  replace h1 := HT.out.c1
  clear hb
  clear h0 h1
  go_wp2
  go_ret3
  exact ⟨_, _, rfl, empty_resB8 _ _ HB.out.size, HB.out.alloc HB.out.size _⟩
set_option maxRecDepth 100000 in
set_option maxHeartbeats 8000000 in
theorem mostKept_spec_no (A : Option Addr) (c lo hi : Nat) (zs : List Int) (m : Int) (A2 : Option Addr) (c2 lo2 hi2 : Nat) (qs : List Int) (w : World) (hS : Ins w lo hi A zs) (hQ : Ins w lo2 hi2 A2 qs) (hn : zs.length ≤ 1048576) (hn2 : qs.length ≤ 1048576) (hok : lOK zs m qs = false) :
    Calls Try.prog 39 #[.agg #[.slice A zs.length c, .int .i64 m], .slice A2 qs.length c2] w fun e w' => ∃ B c', e = .returned (.tuple #[.int .i64 0, .slice B 0 c', .bool false]) ∧ BRes w' w.heap.size w'.heap.size B [] ∧ Below w.heap.size w w' := by
  have HT := Lib.hid (Two.new w (.slice A zs.length c) (.int .i64 m) 27 (w.heap.size) rfl)
  have HB := Lib.hid ((Below.refl w.heap.size w).alloc (Nat.le_refl _) (.cells #[.slice A zs.length c, .int .i64 m] 27))
  have HI := Lib.hid (hS.step HB.out)
  have HQ := Lib.hid (hQ.step HB.out)
  have HG := Lib.hid (fun W h h2 => l8Good_any A c lo hi zs m A2 c2 lo2 hi2 qs W h h2 hn hn2)
  rw [hok] at HG
  clear hS hQ
  go_enter Try.func39, Try.ntmps39
  go_wp2_with fail
  generalize w.alloc (.cells #[.slice A zs.length c, .int .i64 m] 27) = w0 at HT HB HI HQ ⊢
  have h0 := HT.out.c0
  have h1 := HT.out.c1
  with_reducible refine (HG.out _ HI.out HQ.out).mono ?_
  rintro e w1 ⟨rfl, hb⟩
  replace HT := Lib.hid (HT.out.step hb)
  replace HB := Lib.hid (below_trans HB.out hb)
  replace HI := Lib.hid (HI.out.step hb)
  replace HQ := Lib.hid (HQ.out.step hb)
  replace h0 := HT.out.c0
  replace h1 := HT.out.c1
  clear hb
  clear h0 h1
  go_wp2
  go_ret3
  exact ⟨_, _, rfl, empty_resB8 _ _ HB.out.size, HB.out.alloc HB.out.size _⟩
set_option maxRecDepth 100000 in
set_option maxHeartbeats 8000000 in
theorem firstHolding_impl_none (A : Option Addr) (c lo hi : Nat) (zs : List Int) (m : Int) (A2 : Option Addr) (c2 lo2 hi2 : Nat) (qs : List Int) (w : World) (hS : Ins w lo hi A zs) (hQ : Ins w lo2 hi2 A2 qs) (hL : Listed zs m qs) (hN : ∀ j, j < (opnL m zs qs).length → ¬ 2 ≤ (opnL m zs qs).getD j 0) :
    Calls Try.prog 33 #[.agg #[.slice A zs.length c, .int .i64 m], .slice A2 qs.length c2] w fun e w' => ∃ B c', e = .returned (.tuple #[.slice B 0 c', .bool false]) ∧ BRes w' w.heap.size w'.heap.size B [] ∧ Below w.heap.size w w' := by
  have HT := Lib.hid (Two.new w (.slice A zs.length c) (.int .i64 m) 27 (w.heap.size) rfl)
  have HB := Lib.hid ((Below.refl w.heap.size w).alloc (Nat.le_refl _) (.cells #[.slice A zs.length c, .int .i64 m] 27))
  have HI := Lib.hid (hS.step HB.out)
  have HQ := Lib.hid (hQ.step HB.out)
  have HG := Lib.hid (fun W h h2 => areListed_any A c lo hi zs m A2 c2 lo2 hi2 qs W h h2 (by have := hL.len; omega) (by have := hL.q8; omega))
  rw [hL.ok1] at HG
  have HE := Lib.hid (fun W h h2 => openAtEnds_any A c lo hi zs m A2 c2 lo2 hi2 qs W h h2 hL)
  have hO256 : (opnL m zs qs).length ≤ 256 := by rw [opnL_len]; exact (pow8 hL.q8).2
  have HN := Lib.hid hN
  clear hN
  clear hS hQ hL
  go_enter Try.func33, Try.ntmps33
  go_wp2_with fail
  generalize w.alloc (.cells #[.slice A zs.length c, .int .i64 m] 27) = w0 at HT HB HI HQ ⊢
  have h0 := HT.out.c0
  have h1 := HT.out.c1
  with_reducible refine (HG.out _ HI.out HQ.out).mono ?_
  rintro e w1 ⟨rfl, hb⟩
  replace HT := Lib.hid (HT.out.step hb)
  replace HB := Lib.hid (below_trans HB.out hb)
  replace HI := Lib.hid (HI.out.step hb)
  replace HQ := Lib.hid (HQ.out.step hb)
  replace h0 := HT.out.c0
  replace h1 := HT.out.c1
  clear hb
  go_wp2_with fail
  with_reducible refine (HE.out w1 HI.out HQ.out).mono ?_
  rintro e w2 ⟨v, rfl, ho, hb⟩
  replace HT := Lib.hid (HT.out.step hb)
  replace HB := Lib.hid (below_trans HB.out hb)
  replace HI := Lib.hid (HI.out.step hb)
  replace HQ := Lib.hid (HQ.out.step hb)
  replace h0 := HT.out.c0
  replace h1 := HT.out.c1
  obtain ⟨Av, cv, rfl, _, hR⟩ := own_res ho rfl
  have HR := Lib.hid hR.ins
  clear ho hR
  clear hb
  clear h0 h1
  clear HT HI
  clear HE
  generalize opnL m zs qs = O at HR hO256 HN
  go_wp2_with fail
  go_loopw [17] (fun i wr => ∃ (k : Nat), k ≤ O.length ∧ i = .int .i64 (k : Int) ∧ wr = w2) (fun i _ => O.length - (intOf i).toNat)
  case atStart => exact ⟨0, Nat.zero_le _, rfl, rfl⟩
  case round =>
    obtain ⟨k, hk, rfl, hww⟩ := hrel
    have hww := hww.symm
    subst hww
    by_cases hlt : k < O.length
    · have hkO : k < O.length := by omega
      obtain ⟨b, o, rfl, _, hb, hc⟩ := HR.out.ints.at_ hkO
      have hki : (k : Int) < (O.length : Int) := by omega
      have hgk : O.getD k 0 = O[k] := by simp [List.getD, hkO]
      have hx : ¬ 2 ≤ O[k] := by have h9 := HN.out k hlt; rw [hgk] at h9; omega
      clear hgk
      generalize O[k] = y at hc hx
      go_wp2
      go_roundw
      case rel => exact ⟨k + 1, by omega, by go_num, by first | rfl | trivial⟩
      case measure => simp [intOf]; omega
    · obtain rfl : k = O.length := by omega
      go_wp2
      go_ret2
      first | exact ⟨_, _, rfl, empty_resB8 _ _ HB.out.size, HB.out.alloc HB.out.size _⟩ | exact ⟨_, ⟨_, rfl⟩, empty_resB8 _ _ HB.out.size, HB.out.alloc HB.out.size _⟩
set_option maxRecDepth 100000 in
set_option maxHeartbeats 8000000 in
theorem firstHolding_impl_at (A : Option Addr) (c lo hi : Nat) (zs : List Int) (m : Int) (A2 : Option Addr) (c2 lo2 hi2 : Nat) (qs : List Int) (w : World) (hS : Ins w lo hi A zs) (hQ : Ins w lo2 hi2 A2 qs) (hL : Listed zs m qs) (d : Nat) (hF : FirstGe (opnL m zs qs) 2 d) :
    Calls Try.prog 33 #[.agg #[.slice A zs.length c, .int .i64 m], .slice A2 qs.length c2] w fun e w' => ∃ B c', e = .returned (.tuple #[.slice B qs.length c', .bool true]) ∧ BRes w' w.heap.size w'.heap.size B (bitsB qs.length d) ∧ Below w.heap.size w w' := by
  have HT := Lib.hid (Two.new w (.slice A zs.length c) (.int .i64 m) 27 (w.heap.size) rfl)
  have HB := Lib.hid ((Below.refl w.heap.size w).alloc (Nat.le_refl _) (.cells #[.slice A zs.length c, .int .i64 m] 27))
  have HI := Lib.hid (hS.step HB.out)
  have HQ := Lib.hid (hQ.step HB.out)
  have HG := Lib.hid (fun W h h2 => areListed_any A c lo hi zs m A2 c2 lo2 hi2 qs W h h2 (by have := hL.len; omega) (by have := hL.q8; omega))
  rw [hL.ok1] at HG
  have HE := Lib.hid (fun W h h2 => openAtEnds_any A c lo hi zs m A2 c2 lo2 hi2 qs W h h2 hL)
  have hO256 : (opnL m zs qs).length ≤ 256 := by rw [opnL_len]; exact (pow8 hL.q8).2
  obtain ⟨hdl, hdx, hdf⟩ := hF
  have HAn := Lib.hid (fun W => answersAt_any d qs.length W hL.q8 (by omega))
  have HN := Lib.hid hdf
  have HX := Lib.hid hdx
  clear hdf hdx
  clear hS hQ hL
  go_enter Try.func33, Try.ntmps33
  go_wp2_with fail
  generalize w.alloc (.cells #[.slice A zs.length c, .int .i64 m] 27) = w0 at HT HB HI HQ ⊢
  have h0 := HT.out.c0
  have h1 := HT.out.c1
  with_reducible refine (HG.out _ HI.out HQ.out).mono ?_
  rintro e w1 ⟨rfl, hb⟩
  replace HT := Lib.hid (HT.out.step hb)
  replace HB := Lib.hid (below_trans HB.out hb)
  replace HI := Lib.hid (HI.out.step hb)
  replace HQ := Lib.hid (HQ.out.step hb)
  replace h0 := HT.out.c0
  replace h1 := HT.out.c1
  clear hb
  go_wp2_with fail
  with_reducible refine (HE.out w1 HI.out HQ.out).mono ?_
  rintro e w2 ⟨v, rfl, ho, hb⟩
  replace HT := Lib.hid (HT.out.step hb)
  replace HB := Lib.hid (below_trans HB.out hb)
  replace HI := Lib.hid (HI.out.step hb)
  replace HQ := Lib.hid (HQ.out.step hb)
  replace h0 := HT.out.c0
  replace h1 := HT.out.c1
  obtain ⟨Av, cv, rfl, _, hR⟩ := own_res ho rfl
  have HR := Lib.hid hR.ins
  clear ho hR
  clear hb
  clear h0 h1
  clear HT HI
  clear HE
  generalize opnL m zs qs = O at HR hO256 HN hdl HX
  go_wp2_with fail
  go_loopw [17] (fun i wr => ∃ (k : Nat), k ≤ d ∧ i = .int .i64 (k : Int) ∧ wr = w2) (fun i _ => O.length - (intOf i).toNat)
  case atStart => exact ⟨0, Nat.zero_le _, rfl, rfl⟩
  case round =>
    obtain ⟨k, hk, rfl, hww⟩ := hrel
    have hww := hww.symm
    subst hww
    by_cases hlt : k < d
    · have hkO : k < O.length := by omega
      obtain ⟨b, o, rfl, _, hb, hc⟩ := HR.out.ints.at_ hkO
      have hki : (k : Int) < (O.length : Int) := by omega
      have hgk : O.getD k 0 = O[k] := by simp [List.getD, hkO]
      have hx : ¬ 2 ≤ O[k] := by have h9 := HN.out k hlt; rw [hgk] at h9; omega
      clear hgk
      generalize O[k] = y at hc hx
      go_wp2
      go_roundw
      case rel => exact ⟨k + 1, by omega, by go_num, by first | rfl | trivial⟩
      case measure => simp [intOf]; omega
    · obtain rfl : k = d := by omega
      obtain ⟨b, o, rfl, _, hb, hc⟩ := HR.out.ints.at_ hdl
      have hki : (k : Int) < (O.length : Int) := by omega
      have hx := HX.out
      generalize O[k] = y at hc hx
      clear HX HR
      go_wp2_with fail
      with_reducible refine (HAn.out w2).mono ?_
      rintro e w9 ⟨B, c', rfl, hr, hb9⟩
      have HR := Lib.hid hr
      have HB9 := Lib.hid (below_trans HB.out hb9)
      have hsz := HB.out.size
      clear hr hb9
      go_wp2
      go_ret2
      exact ⟨B, c', rfl, ⟨HR.out.own.wide8 hsz, HR.out.top⟩, HB9.out⟩
set_option maxRecDepth 100000 in
set_option maxHeartbeats 8000000 in
theorem firstHolding_spec_none (A : Option Addr) (c lo hi : Nat) (zs : List Int) (m : Int) (A2 : Option Addr) (c2 lo2 hi2 : Nat) (qs : List Int) (w : World) (hS : Ins w lo hi A zs) (hQ : Ins w lo2 hi2 A2 qs) (hL : Listed zs m qs) (hN : ∀ j, j < (opnL m zs qs).length → ¬ 2 ≤ (opnL m zs qs).getD j 0) :
    Calls Try.prog 32 #[.agg #[.slice A zs.length c, .int .i64 m], .slice A2 qs.length c2] w fun e w' => ∃ B c', e = .returned (.tuple #[.slice B 0 c', .bool false]) ∧ BRes w' w.heap.size w'.heap.size B [] ∧ Below w.heap.size w w' := by
  have HT := Lib.hid (Two.new w (.slice A zs.length c) (.int .i64 m) 27 (w.heap.size) rfl)
  have HB := Lib.hid ((Below.refl w.heap.size w).alloc (Nat.le_refl _) (.cells #[.slice A zs.length c, .int .i64 m] 27))
  have HI := Lib.hid (hS.step HB.out)
  have HQ := Lib.hid (hQ.step HB.out)
  have HG := Lib.hid (fun W h h2 => l8Good_any A c lo hi zs m A2 c2 lo2 hi2 qs W h h2 (by have := hL.len; omega) (by have := hL.q8; omega))
  rw [hL.ok1] at HG
  have HLf := Lib.hid (fun (k : Nat) (hk : k < 2 ^ qs.length) W h1 h2 => l8Left_any A c lo hi zs m A2 c2 lo2 hi2 qs k W h1 h2 hL (by have : 2 ^ qs.length ≤ 2 ^ 8 := Nat.pow_le_pow_right (by omega) hL.q8; omega))
  have HOL := Lib.hid (opnL_len m zs qs)
  have HOG := Lib.hid (fun k h => opnL_get m zs qs k h)
  have hlf : ∀ k, lft m zs qs k ≤ 12 := fun k => by have := lft_le m zs qs k; have := hL.len; omega
  have h8 := hL.q8
  have hpw : 2 ^ qs.length ≤ 256 := (pow8 h8).2
  have hpw1 : 1 ≤ 2 ^ qs.length := (pow8 h8).1
  have HPW := Lib.hid (show (1 : Int) * 2 ^ qs.length = ((2 ^ qs.length : Nat) : Int) by norm_cast; omega)
  have HN := Lib.hid hN
  clear hN
  generalize opnL m zs qs = O at HOL HOG HN
  generalize lft m zs qs = F at HLf HOG hlf
  clear hS hQ hL
  go_enter Try.func32, Try.ntmps32
  go_wp2_with fail
  generalize w.alloc (.cells #[.slice A zs.length c, .int .i64 m] 27) = w0 at HT HB HI HQ ⊢
  have h0 := HT.out.c0
  have h1 := HT.out.c1
  with_reducible refine (HG.out _ HI.out HQ.out).mono ?_
  rintro e w1 ⟨rfl, hb⟩
  replace HT := Lib.hid (HT.out.step hb)
  replace HB := Lib.hid (below_trans HB.out hb)
  replace HI := Lib.hid (HI.out.step hb)
  replace HQ := Lib.hid (HQ.out.step hb)
  replace h0 := HT.out.c0
  replace h1 := HT.out.c1
  clear hb
  clear h0 h1
  go_wp2_with fail
  go_loopw [6] (fun i wr => ∃ (k : Nat), k ≤ O.length ∧ i = .int .i64 (k : Int) ∧ Hid (Two wr w.heap.size (.slice A zs.length c) (.int .i64 m) 27) ∧ Hid (Ins wr lo hi A zs) ∧ Hid (Ins wr lo2 hi2 A2 qs) ∧ Hid (Below w.heap.size w wr)) (fun i _ => O.length - (intOf i).toNat)
  case atStart => exact ⟨0, Nat.zero_le _, rfl, HT, HI, HQ, HB⟩
  case round =>
    clear HT HI HQ HB
    obtain ⟨k, hk, rfl, HT, HI, HQ, HB⟩ := hrel
    have hshl : (1 : Int) * 2 ^ qs.length = (O.length : Int) := by rw [HPW.out, HOL.out]
    have hq8 : (qs.length : Int) ≤ 8 := by omega
    have hOl : (O.length : Int) ≤ 256 := by have := HOL.out; omega
    by_cases hlt : k < O.length
    · have hkO : k < O.length := by omega
      have hki : (k : Int) < (O.length : Int) := by omega
      have HLk := Lib.hid (fun W => HLf.out k (by have := HOL.out; omega) W)
      have hFk := hlf k
      have hgt := HOG.out k hkO
      generalize F k = fk at HLk hFk hgt
      have h0 := HT.out.c0
      have h1 := HT.out.c1
      go_wp2_with fail
      with_reducible refine (HLk.out wr HI.out HQ.out).mono ?_
      rintro e w21 ⟨rfl, hb⟩
      replace HT := Lib.hid (HT.out.step hb)
      replace HI := Lib.hid (HI.out.step hb)
      replace HQ := Lib.hid (HQ.out.step hb)
      replace HB := Lib.hid (below_trans HB.out hb)
      replace h0 := HT.out.c0
      replace h1 := HT.out.c1
      clear hb
      clear h0 h1
      clear HLk
      have hgk : O.getD k 0 = O[k] := by simp [List.getD, hkO]
      have hx : ¬ 2 ≤ (fk : Int) := by have h9 := HN.out k hlt; rw [hgk, hgt] at h9; omega
      clear hgk
      clear hgt
      go_wp2
      go_roundw
      case rel => exact ⟨k + 1, by omega, by go_num, HT, HI, HQ, HB⟩
      case measure => simp [intOf]; omega
    · obtain rfl : k = O.length := by omega
      go_wp2
      go_ret2
      first | exact ⟨_, _, rfl, empty_resB8 _ _ HB.out.size, HB.out.alloc HB.out.size _⟩ | exact ⟨_, ⟨_, rfl⟩, empty_resB8 _ _ HB.out.size, HB.out.alloc HB.out.size _⟩
set_option maxRecDepth 100000 in
set_option maxHeartbeats 8000000 in
theorem firstHolding_spec_at (A : Option Addr) (c lo hi : Nat) (zs : List Int) (m : Int) (A2 : Option Addr) (c2 lo2 hi2 : Nat) (qs : List Int) (w : World) (hS : Ins w lo hi A zs) (hQ : Ins w lo2 hi2 A2 qs) (hL : Listed zs m qs) (d : Nat) (hF : FirstGe (opnL m zs qs) 2 d) :
    Calls Try.prog 32 #[.agg #[.slice A zs.length c, .int .i64 m], .slice A2 qs.length c2] w fun e w' => ∃ B c', e = .returned (.tuple #[.slice B qs.length c', .bool true]) ∧ BRes w' w.heap.size w'.heap.size B (bitsB qs.length d) ∧ Below w.heap.size w w' := by
  have HT := Lib.hid (Two.new w (.slice A zs.length c) (.int .i64 m) 27 (w.heap.size) rfl)
  have HB := Lib.hid ((Below.refl w.heap.size w).alloc (Nat.le_refl _) (.cells #[.slice A zs.length c, .int .i64 m] 27))
  have HI := Lib.hid (hS.step HB.out)
  have HQ := Lib.hid (hQ.step HB.out)
  have HG := Lib.hid (fun W h h2 => l8Good_any A c lo hi zs m A2 c2 lo2 hi2 qs W h h2 (by have := hL.len; omega) (by have := hL.q8; omega))
  rw [hL.ok1] at HG
  have HLf := Lib.hid (fun (k : Nat) (hk : k < 2 ^ qs.length) W h1 h2 => l8Left_any A c lo hi zs m A2 c2 lo2 hi2 qs k W h1 h2 hL (by have : 2 ^ qs.length ≤ 2 ^ 8 := Nat.pow_le_pow_right (by omega) hL.q8; omega))
  have HOL := Lib.hid (opnL_len m zs qs)
  have HOG := Lib.hid (fun k h => opnL_get m zs qs k h)
  have hlf : ∀ k, lft m zs qs k ≤ 12 := fun k => by have := lft_le m zs qs k; have := hL.len; omega
  have h8 := hL.q8
  have hpw : 2 ^ qs.length ≤ 256 := (pow8 h8).2
  have hpw1 : 1 ≤ 2 ^ qs.length := (pow8 h8).1
  have HPW := Lib.hid (show (1 : Int) * 2 ^ qs.length = ((2 ^ qs.length : Nat) : Int) by norm_cast; omega)
  obtain ⟨hdl, hdx, hdf⟩ := hF
  have HAn := Lib.hid (fun W => l8Answers_any d qs.length W hL.q8 (by have := opnL_len m zs qs; omega))
  have HN := Lib.hid hdf
  have HX := Lib.hid hdx
  clear hdf hdx
  generalize opnL m zs qs = O at HOL HOG HN hdl HX
  generalize lft m zs qs = F at HLf HOG hlf
  clear hS hQ hL
  go_enter Try.func32, Try.ntmps32
  go_wp2_with fail
  generalize w.alloc (.cells #[.slice A zs.length c, .int .i64 m] 27) = w0 at HT HB HI HQ ⊢
  have h0 := HT.out.c0
  have h1 := HT.out.c1
  with_reducible refine (HG.out _ HI.out HQ.out).mono ?_
  rintro e w1 ⟨rfl, hb⟩
  replace HT := Lib.hid (HT.out.step hb)
  replace HB := Lib.hid (below_trans HB.out hb)
  replace HI := Lib.hid (HI.out.step hb)
  replace HQ := Lib.hid (HQ.out.step hb)
  replace h0 := HT.out.c0
  replace h1 := HT.out.c1
  clear hb
  clear h0 h1
  go_wp2_with fail
  go_loopw [6] (fun i wr => ∃ (k : Nat), k ≤ d ∧ i = .int .i64 (k : Int) ∧ Hid (Two wr w.heap.size (.slice A zs.length c) (.int .i64 m) 27) ∧ Hid (Ins wr lo hi A zs) ∧ Hid (Ins wr lo2 hi2 A2 qs) ∧ Hid (Below w.heap.size w wr)) (fun i _ => O.length - (intOf i).toNat)
  case atStart => exact ⟨0, Nat.zero_le _, rfl, HT, HI, HQ, HB⟩
  case round =>
    clear HT HI HQ HB
    obtain ⟨k, hk, rfl, HT, HI, HQ, HB⟩ := hrel
    have hshl : (1 : Int) * 2 ^ qs.length = (O.length : Int) := by rw [HPW.out, HOL.out]
    have hq8 : (qs.length : Int) ≤ 8 := by omega
    have hOl : (O.length : Int) ≤ 256 := by have := HOL.out; omega
    by_cases hlt : k < d
    · have hkO : k < O.length := by omega
      have hki : (k : Int) < (O.length : Int) := by omega
      have HLk := Lib.hid (fun W => HLf.out k (by have := HOL.out; omega) W)
      have hFk := hlf k
      have hgt := HOG.out k hkO
      generalize F k = fk at HLk hFk hgt
      have h0 := HT.out.c0
      have h1 := HT.out.c1
      go_wp2_with fail
      with_reducible refine (HLk.out wr HI.out HQ.out).mono ?_
      rintro e w21 ⟨rfl, hb⟩
      replace HT := Lib.hid (HT.out.step hb)
      replace HI := Lib.hid (HI.out.step hb)
      replace HQ := Lib.hid (HQ.out.step hb)
      replace HB := Lib.hid (below_trans HB.out hb)
      replace h0 := HT.out.c0
      replace h1 := HT.out.c1
      clear hb
      clear h0 h1
      clear HLk
      have hgk : O.getD k 0 = O[k] := by simp [List.getD, hkO]
      have hx : ¬ 2 ≤ (fk : Int) := by have h9 := HN.out k hlt; rw [hgk, hgt] at h9; omega
      clear hgk
      clear hgt
      go_wp2
      go_roundw
      case rel => exact ⟨k + 1, by omega, by go_num, HT, HI, HQ, HB⟩
      case measure => simp [intOf]; omega
    · obtain rfl : k = d := by omega
      have hkO := hdl
      have hki : (k : Int) < (O.length : Int) := by omega
      have HLk := Lib.hid (fun W => HLf.out k (by have := HOL.out; omega) W)
      have hFk := hlf k
      have hgt := HOG.out k hkO
      generalize F k = fk at HLk hFk hgt
      have h0 := HT.out.c0
      have h1 := HT.out.c1
      go_wp2_with fail
      with_reducible refine (HLk.out wr HI.out HQ.out).mono ?_
      rintro e w21 ⟨rfl, hb⟩
      replace HT := Lib.hid (HT.out.step hb)
      replace HI := Lib.hid (HI.out.step hb)
      replace HQ := Lib.hid (HQ.out.step hb)
      replace HB := Lib.hid (below_trans HB.out hb)
      replace h0 := HT.out.c0
      replace h1 := HT.out.c1
      clear hb
      clear h0 h1
      clear HLk
      have hx : 2 ≤ (fk : Int) := by rw [← hgt]; exact HX.out
      clear hgt HX
      go_wp2_with fail
      have HBS := Lib.hid HB.out.size
      have hsz := Nat.le_refl w21.heap.size
      with_reducible refine (HAn.out w21).mono ?_
      rintro e w22 ⟨v, rfl, ho, hb⟩
      replace HT := Lib.hid (HT.out.step hb)
      replace HI := Lib.hid (HI.out.step hb)
      replace HQ := Lib.hid (HQ.out.step hb)
      replace HB := Lib.hid (below_trans HB.out hb)
      obtain ⟨Ab, cb, hv, hR⟩ := own_resB (bs := bitsB qs.length k) ho (bitsB_len _ _).symm
      rw [bitsB_len] at hv
      subst hv
      have HR := Lib.hid hR
      clear ho hR
      clear hb
      go_wp2
      go_ret2
      exact ⟨Ab, cb, rfl, ⟨HR.out.own.wide8 (Nat.le_trans HBS.out hsz), HR.out.top⟩, HB.out⟩
set_option maxRecDepth 100000 in
set_option maxHeartbeats 8000000 in
theorem mostKept_impl (A : Option Addr) (c lo hi : Nat) (zs : List Int) (m : Int) (A2 : Option Addr) (c2 lo2 hi2 : Nat) (qs : List Int) (w : World) (hS : Ins w lo hi A zs) (hQ : Ins w lo2 hi2 A2 qs) (hL : Listed zs m qs) (d : Nat) (hD : BestB (opnL m zs qs) (opnL m zs qs).length d) :
    Calls Try.prog 40 #[.agg #[.slice A zs.length c, .int .i64 m], .slice A2 qs.length c2] w fun e w' => ∃ B c', e = .returned (.tuple #[.int .i64 ((opnL m zs qs).getD d 0), .slice B qs.length c', .bool true]) ∧ BRes w' w.heap.size w'.heap.size B (bitsB qs.length d) ∧ Below w.heap.size w w' := by
  have HT := Lib.hid (Two.new w (.slice A zs.length c) (.int .i64 m) 27 (w.heap.size) rfl)
  have HB := Lib.hid ((Below.refl w.heap.size w).alloc (Nat.le_refl _) (.cells #[.slice A zs.length c, .int .i64 m] 27))
  have HI := Lib.hid (hS.step HB.out)
  have HQ := Lib.hid (hQ.step HB.out)
  have HG := Lib.hid (fun W h h2 => areListed_any A c lo hi zs m A2 c2 lo2 hi2 qs W h h2 (by have := hL.len; omega) (by have := hL.q8; omega))
  rw [hL.ok1] at HG
  have HE := Lib.hid (fun W h h2 => openAtEnds_any A c lo hi zs m A2 c2 lo2 hi2 qs W h h2 hL)
  have hO256 : (opnL m zs qs).length ≤ 256 := by rw [opnL_len]; exact (pow8 hL.q8).2
  have HAn := Lib.hid (fun W => answersAt_any d qs.length W hL.q8 (by have := hD.lt; omega))
  have HMx := Lib.hid (fun Av cv lo3 hi3 W h => slicesMax_any Av cv lo3 hi3 (opnL m zs qs) d W h hD hO256)
  have HIx := Lib.hid (fun Av cv lo3 hi3 W h => slicesIndex_any Av cv lo3 hi3 (opnL m zs qs) d W h hD hO256)
  clear hD
  clear hS hQ hL
  go_enter Try.func40, Try.ntmps40
  go_wp2_with fail
  generalize w.alloc (.cells #[.slice A zs.length c, .int .i64 m] 27) = w0 at HT HB HI HQ ⊢
  have h0 := HT.out.c0
  have h1 := HT.out.c1
  with_reducible refine (HG.out _ HI.out HQ.out).mono ?_
  rintro e w1 ⟨rfl, hb⟩
  replace HT := Lib.hid (HT.out.step hb)
  replace HB := Lib.hid (below_trans HB.out hb)
  replace HI := Lib.hid (HI.out.step hb)
  replace HQ := Lib.hid (HQ.out.step hb)
  replace h0 := HT.out.c0
  replace h1 := HT.out.c1
  clear hb
  go_wp2_with fail
  with_reducible refine (HE.out w1 HI.out HQ.out).mono ?_
  rintro e w2 ⟨v, rfl, ho, hb⟩
  replace HT := Lib.hid (HT.out.step hb)
  replace HB := Lib.hid (below_trans HB.out hb)
  replace HI := Lib.hid (HI.out.step hb)
  replace HQ := Lib.hid (HQ.out.step hb)
  replace h0 := HT.out.c0
  replace h1 := HT.out.c1
  obtain ⟨Av, cv, rfl, _, hR⟩ := own_res ho rfl
  have HR := Lib.hid hR.ins
  clear ho hR
  clear hb
  clear h0 h1
  clear HT HI
  clear HE
  generalize hy : (opnL m zs qs).getD d 0 = y at HMx HIx
  have HY := Lib.hid hy
  clear hy
  generalize opnL m zs qs = O at HR HMx HIx hO256
  go_wp2_with fail
  with_reducible refine (HMx.out _ _ _ _ w2 HR.out).mono ?_
  rintro e wX ⟨rfl, hw⟩
  have hw := hw.symm
  subst hw
  go_wp2_with fail
  with_reducible refine (HIx.out _ _ _ _ w2 HR.out).mono ?_
  rintro e wX ⟨rfl, hw⟩
  have hw := hw.symm
  subst hw
  have hsz := HB.out.size
  go_wp2_with fail
  with_reducible refine (HAn.out w2).mono ?_
  rintro e w3 ⟨B, c', rfl, hr, hb⟩
  replace HB := Lib.hid (below_trans HB.out hb)
  replace HQ := Lib.hid (HQ.out.step hb)
  have HR2 := Lib.hid hr
  clear hr
  clear hb
  go_wp2
  go_ret3
  rw [HY.out]
  exact ⟨B, c', rfl, ⟨HR2.out.own.wide8 hsz, HR2.out.top⟩, HB.out⟩
set_option maxRecDepth 100000 in
set_option maxHeartbeats 8000000 in
theorem mostKept_spec (A : Option Addr) (c lo hi : Nat) (zs : List Int) (m : Int) (A2 : Option Addr) (c2 lo2 hi2 : Nat) (qs : List Int) (w : World) (hS : Ins w lo hi A zs) (hQ : Ins w lo2 hi2 A2 qs) (hL : Listed zs m qs) (d : Nat) (hD : BestB (opnL m zs qs) (opnL m zs qs).length d) :
    Calls Try.prog 39 #[.agg #[.slice A zs.length c, .int .i64 m], .slice A2 qs.length c2] w fun e w' => ∃ B c', e = .returned (.tuple #[.int .i64 ((opnL m zs qs).getD d 0), .slice B qs.length c', .bool true]) ∧ BRes w' w.heap.size w'.heap.size B (bitsB qs.length d) ∧ Below w.heap.size w w' := by
  have HT := Lib.hid (Two.new w (.slice A zs.length c) (.int .i64 m) 27 (w.heap.size) rfl)
  have HB := Lib.hid ((Below.refl w.heap.size w).alloc (Nat.le_refl _) (.cells #[.slice A zs.length c, .int .i64 m] 27))
  have HI := Lib.hid (hS.step HB.out)
  have HQ := Lib.hid (hQ.step HB.out)
  have HG := Lib.hid (fun W h h2 => l8Good_any A c lo hi zs m A2 c2 lo2 hi2 qs W h h2 (by have := hL.len; omega) (by have := hL.q8; omega))
  rw [hL.ok1] at HG
  have HLf := Lib.hid (fun (k : Nat) (hk : k < 2 ^ qs.length) W h1 h2 => l8Left_any A c lo hi zs m A2 c2 lo2 hi2 qs k W h1 h2 hL (by have : 2 ^ qs.length ≤ 2 ^ 8 := Nat.pow_le_pow_right (by omega) hL.q8; omega))
  have HOL := Lib.hid (opnL_len m zs qs)
  have HOG := Lib.hid (fun k h => opnL_get m zs qs k h)
  have hlf : ∀ k, lft m zs qs k ≤ 12 := fun k => by have := lft_le m zs qs k; have := hL.len; omega
  have h8 := hL.q8
  have hpw : 2 ^ qs.length ≤ 256 := (pow8 h8).2
  have hpw1 : 1 ≤ 2 ^ qs.length := (pow8 h8).1
  have HPW := Lib.hid (show (1 : Int) * 2 ^ qs.length = ((2 ^ qs.length : Nat) : Int) by norm_cast; omega)
  have HAn := Lib.hid (fun W => l8Answers_any d qs.length W hL.q8 (by have := hD.lt; have := opnL_len m zs qs; omega))
  have HD := Lib.hid hD
  clear hD
  generalize hO : opnL m zs qs = O at HOL HOG HD ⊢
  clear hO
  generalize lft m zs qs = F at HLf HOG hlf
  clear hS hQ hL
  go_enter Try.func39, Try.ntmps39
  go_wp2_with fail
  generalize w.alloc (.cells #[.slice A zs.length c, .int .i64 m] 27) = w0 at HT HB HI HQ ⊢
  have h0 := HT.out.c0
  have h1 := HT.out.c1
  with_reducible refine (HG.out _ HI.out HQ.out).mono ?_
  rintro e w1 ⟨rfl, hb⟩
  replace HT := Lib.hid (HT.out.step hb)
  replace HB := Lib.hid (below_trans HB.out hb)
  replace HI := Lib.hid (HI.out.step hb)
  replace HQ := Lib.hid (HQ.out.step hb)
  replace h0 := HT.out.c0
  replace h1 := HT.out.c1
  clear hb
  clear h0 h1
  go_wp2_with fail
  go_loopw [7, 8, 9] (fun be mo i wr => ∃ (k j : Nat) (x : Int), k ≤ O.length ∧ i = .int .i64 (k : Int) ∧ be = .int .i64 (j : Int) ∧ mo = .int .i64 x ∧ j ≤ k ∧ Hid ((k = 0 ∧ j = 0 ∧ x = -1) ∨ (BestB O k j ∧ x = O.getD j 0)) ∧ Hid (Two wr w.heap.size (.slice A zs.length c) (.int .i64 m) 27) ∧ Hid (Ins wr lo hi A zs) ∧ Hid (Ins wr lo2 hi2 A2 qs) ∧ Hid (Below w.heap.size w wr)) (fun _ _ i _ => O.length - (intOf i).toNat)
  case atStart => exact ⟨0, 0, -1, Nat.zero_le _, rfl, rfl, rfl, Nat.le_refl _, Lib.hid (.inl ⟨rfl, rfl, rfl⟩), HT, HI, HQ, HB⟩
  case round =>
    clear HT HI HQ HB
    obtain ⟨k, j, x, hk, rfl, rfl, rfl, hjk, HJ, HT, HI, HQ, HB⟩ := hrel
    have hshl : (1 : Int) * 2 ^ qs.length = (O.length : Int) := by rw [HPW.out, HOL.out]
    have hq8 : (qs.length : Int) ≤ 8 := by omega
    have hOl : (O.length : Int) ≤ 256 := by have := HOL.out; omega
    by_cases hlt : k < O.length
    · have hkO := hlt
      have hki : (k : Int) < (O.length : Int) := by omega
      have HLk := Lib.hid (fun W => HLf.out k (by have := HOL.out; omega) W)
      have hFk := hlf k
      have hgt := HOG.out k hkO
      generalize F k = fk at HLk hFk hgt
      have h0 := HT.out.c0
      have h1 := HT.out.c1
      go_wp2_with fail
      with_reducible refine (HLk.out wr HI.out HQ.out).mono ?_
      rintro e w21 ⟨rfl, hb⟩
      replace HT := Lib.hid (HT.out.step hb)
      replace HI := Lib.hid (HI.out.step hb)
      replace HQ := Lib.hid (HQ.out.step hb)
      replace HB := Lib.hid (below_trans HB.out hb)
      replace h0 := HT.out.c0
      replace h1 := HT.out.c1
      clear hb
      clear h0 h1
      clear HLk
      have HGD := Lib.hid (show O.getD k 0 = (fk : Int) by rw [show O.getD k 0 = O[k] by simp [List.getD, hkO], hgt])
      clear hgt
      by_cases hx : x < (fk : Int)
      · have HJ2 : Hid (BestB O (k + 1) k) := Lib.hid (by
          rcases HJ.out with ⟨rfl, rfl, rfl⟩ | ⟨h1, h2⟩
          · exact BestB.one (by omega)
          · exact h1.turn hlt (by rw [HGD.out, ← h2]; exact hx))
        clear HJ
        go_wp2
        go_roundw
        case rel => exact ⟨k + 1, k, (fk : Int), by omega, by go_num, rfl, rfl, by omega, Lib.hid (.inr ⟨HJ2.out, HGD.out.symm⟩), HT, HI, HQ, HB⟩
        case measure => simp [intOf]; omega
      · have HJ2 : Hid (BestB O (k + 1) j ∧ x = O.getD j 0) := Lib.hid (by
          rcases HJ.out with ⟨rfl, rfl, rfl⟩ | ⟨h1, h2⟩
          · omega
          · exact ⟨h1.stay hlt (by rw [HGD.out, ← h2]; omega), h2⟩)
        clear HJ
        go_wp2
        go_roundw
        case rel => exact ⟨k + 1, j, x, by omega, by go_num, rfl, rfl, by omega, Lib.hid (.inr HJ2.out), HT, HI, HQ, HB⟩
        case measure => simp [intOf]; omega
    · obtain rfl : k = O.length := by omega
      have hj2 : j = d ∧ x = O.getD d 0 := by
        rcases HJ.out with ⟨h0, _, _⟩ | ⟨h1, h2⟩
        · have := HOL.out; omega
        · have := BestB.unique h1 HD.out; subst this; exact ⟨rfl, h2⟩
      obtain ⟨rfl, hx⟩ := hj2
      have HX := Lib.hid hx
      clear hx HJ
      have hsz := HB.out.size
      go_wp2_with fail
      with_reducible refine (HAn.out wr).mono ?_
      rintro e w31 ⟨v, rfl, ho, hb⟩
      replace HB := Lib.hid (below_trans HB.out hb)
      obtain ⟨Ab, cb, hv, hR⟩ := own_resB (bs := bitsB qs.length j) ho (bitsB_len _ _).symm
      rw [bitsB_len] at hv
      subst hv
      have HR := Lib.hid hR
      clear ho hR
      clear hb
      go_wp2
      go_ret3
      rw [← HX.out]
      exact ⟨Ab, cb, rfl, ⟨HR.out.own.wide8 hsz, HR.out.top⟩, HB.out⟩
theorem firstHolding_both (zs : List Int) (m : Int) (h : zs.length ≤ 1048576) (qs : List Int) (h2 : qs.length ≤ 1048576) : ∃ (rB : List Bool) (r1 : Bool), rB.length ≤ 1048576 ∧
    (∀ (w : World) (B : Option Addr) (c lo hi : Nat) (B2 : Option Addr) (c2 lo2 hi2 : Nat), Ins w lo hi B zs → Ins w lo2 hi2 B2 qs → Calls Try.prog 33 #[.agg #[.slice B zs.length c, .int .i64 m], .slice B2 qs.length c2] w fun e w' => ∃ B c', e = .returned (.tuple #[.slice B rB.length c', .bool r1]) ∧ BRes w' w.heap.size w'.heap.size B rB ∧ Below w.heap.size w w') ∧
    (∀ (w : World) (B : Option Addr) (c lo hi : Nat) (B2 : Option Addr) (c2 lo2 hi2 : Nat), Ins w lo hi B zs → Ins w lo2 hi2 B2 qs → Calls Try.prog 32 #[.agg #[.slice B zs.length c, .int .i64 m], .slice B2 qs.length c2] w fun e w' => ∃ B c', e = .returned (.tuple #[.slice B rB.length c', .bool r1]) ∧ BRes w' w.heap.size w'.heap.size B rB ∧ Below w.heap.size w w') := by
  cases hok : lOK zs m qs with
  | false => exact ⟨[], false, by simp, fun w B c lo hi B2 c2 lo2 hi2 hS hS2 => firstHolding_impl_no B c lo hi zs m B2 c2 lo2 hi2 qs w hS hS2 h h2 hok, fun w B c lo hi B2 c2 lo2 hi2 hS hS2 => firstHolding_spec_no B c lo hi zs m B2 c2 lo2 hi2 qs w hS hS2 h h2 hok⟩
  | true =>
    have hL := lOK_iff.1 hok
    rcases first_or (opnL m zs qs) 2 (opnL m zs qs).length (Nat.le_refl _) with hN | ⟨d, _, hF⟩
    · exact ⟨[], false, by simp, fun w B c lo hi B2 c2 lo2 hi2 hS hS2 => firstHolding_impl_none B c lo hi zs m B2 c2 lo2 hi2 qs w hS hS2 hL hN, fun w B c lo hi B2 c2 lo2 hi2 hS hS2 => firstHolding_spec_none B c lo hi zs m B2 c2 lo2 hi2 qs w hS hS2 hL hN⟩
    · refine ⟨bitsB qs.length d, true, by rw [bitsB_len]; exact h2, ?_, ?_⟩
      · rw [bitsB_len]; exact fun w B c lo hi B2 c2 lo2 hi2 hS hS2 => firstHolding_impl_at B c lo hi zs m B2 c2 lo2 hi2 qs w hS hS2 hL d hF
      · rw [bitsB_len]; exact fun w B c lo hi B2 c2 lo2 hi2 hS hS2 => firstHolding_spec_at B c lo hi zs m B2 c2 lo2 hi2 qs w hS hS2 hL d hF
theorem mostKept_both (zs : List Int) (m : Int) (h : zs.length ≤ 1048576) (qs : List Int) (h2 : qs.length ≤ 1048576) : ∃ (r0 : Int) (rB : List Bool) (r1 : Bool), rB.length ≤ 1048576 ∧
    (∀ (w : World) (B : Option Addr) (c lo hi : Nat) (B2 : Option Addr) (c2 lo2 hi2 : Nat), Ins w lo hi B zs → Ins w lo2 hi2 B2 qs → Calls Try.prog 40 #[.agg #[.slice B zs.length c, .int .i64 m], .slice B2 qs.length c2] w fun e w' => ∃ B c', e = .returned (.tuple #[.int .i64 r0, .slice B rB.length c', .bool r1]) ∧ BRes w' w.heap.size w'.heap.size B rB ∧ Below w.heap.size w w') ∧
    (∀ (w : World) (B : Option Addr) (c lo hi : Nat) (B2 : Option Addr) (c2 lo2 hi2 : Nat), Ins w lo hi B zs → Ins w lo2 hi2 B2 qs → Calls Try.prog 39 #[.agg #[.slice B zs.length c, .int .i64 m], .slice B2 qs.length c2] w fun e w' => ∃ B c', e = .returned (.tuple #[.int .i64 r0, .slice B rB.length c', .bool r1]) ∧ BRes w' w.heap.size w'.heap.size B rB ∧ Below w.heap.size w w') := by
  cases hok : lOK zs m qs with
  | false => exact ⟨0, [], false, by simp, fun w B c lo hi B2 c2 lo2 hi2 hS hS2 => mostKept_impl_no B c lo hi zs m B2 c2 lo2 hi2 qs w hS hS2 h h2 hok, fun w B c lo hi B2 c2 lo2 hi2 hS hS2 => mostKept_spec_no B c lo hi zs m B2 c2 lo2 hi2 qs w hS hS2 h h2 hok⟩
  | true =>
    have hL := lOK_iff.1 hok
    obtain ⟨d, hD⟩ := best_is (opnL m zs qs) (opnL m zs qs).length (by rw [opnL_len]; exact Nat.lt_of_lt_of_le Nat.zero_lt_one (pow8 hL.q8).1) (Nat.le_refl _)
    refine ⟨(opnL m zs qs).getD d 0, bitsB qs.length d, true, by rw [bitsB_len]; exact h2, ?_, ?_⟩
    · rw [bitsB_len]; exact fun w B c lo hi B2 c2 lo2 hi2 hS hS2 => mostKept_impl B c lo hi zs m B2 c2 lo2 hi2 qs w hS hS2 hL d hD
    · rw [bitsB_len]; exact fun w B c lo hi B2 c2 lo2 hi2 hS hS2 => mostKept_spec B c lo hi zs m B2 c2 lo2 hi2 qs w hS hS2 hL d hD
end Go.Proofs.Ytbgdnidbdfhgjaa
