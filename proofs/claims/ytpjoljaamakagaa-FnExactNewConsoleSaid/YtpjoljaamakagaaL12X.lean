/- Which rooms are valid, rooms of states, states of rooms: the specification's; both. -/
import Derived.Test.YtpjoljaamakagaaL12W
import Derived.Test.YtpjoljaamakagaaL12V
namespace Go.Proofs.Ytpjoljaamakagaa
open Go.RowKit Go.ChangeShapes Go.WideShapes
set_option linter.unusedVariables false
set_option linter.unusedSimpArgs false

theorem rz_lz (p : Nat → Int) (k i : Nat) : rz (lz p k) i = if i < k then p i else 0 := by
  unfold rz lz
  by_cases h : i < k
  · simp [h, List.getD]
  · simp [h, List.getD]
theorem tailB_iff {p : Nat → Int} {k : Nat} : tailB p k = true ↔ ∀ i, k ≤ i → i < 12 → p i = 0 := by
  unfold tailB
  rw [List.all_eq_true]
  constructor
  · intro h i h1 h2
    have := h i (List.mem_range.2 h2)
    rw [rz_lz, if_neg (by omega)] at this
    simpa using this
  · intro h i hi
    rw [rz_lz]
    by_cases hk : i < k
    · simp [hk]
    · rw [if_neg hk, h i (by omega) (List.mem_range.1 hi)]
      simp
theorem tailB_no {p : Nat → Int} {k i : Nat} (h1 : k ≤ i) (h2 : i < 12) (h : p i ≠ 0) : tailB p k = false := by
  rw [Bool.eq_false_iff]
  exact fun e => h (tailB_iff.1 e i h1 h2)
set_option maxRecDepth 100000 in
set_option maxHeartbeats 4000000 in
theorem l12Good_size (p : Nat → Int) (n m c : Int) (w : World) (h : inB n 1 12 = false ∨ inB c 0 1000 = false) :
    Calls Try.prog 63 #[.agg (rmA p n m c)] w fun e w' => e = .returned (.bool false) ∧ Below w.heap.size w w' := by
  have HT1 := Lib.hid (Rw.new w (rmA p n m c) 26 w.heap.size rfl)
  have HB := Lib.hid ((Below.refl w.heap.size w).alloc (Nat.le_refl _) (.cells (rmA p n m c) 26))
  have HC := Lib.hid (fun W => l2Numbers_any n W)
  have HD := Lib.hid (fun W => l1In_any c 0 1000 W)
  cases hn : inB n 1 12 with
  | false =>
    rw [hn] at HC
    go_enter Try.func63, Try.ntmps63
    simp only [rmA] at HT1 HB ⊢
    go_upto_region 1 with fail
    generalize w.alloc (.cells #[.int .i64 (p 0), .int .i64 (p 1), .int .i64 (p 2), .int .i64 (p 3), .int .i64 (p 4), .int .i64 (p 5), .int .i64 (p 6), .int .i64 (p 7), .int .i64 (p 8), .int .i64 (p 9), .int .i64 (p 10), .int .i64 (p 11), .int .i64 n, .int .i64 m, .int .i64 c] 26) = wa at HT1 HB ⊢
    have c12 := HT1.out.cell (i := 12) (v := .int .i64 n) rfl
    have c14 := HT1.out.cell (i := 14) (v := .int .i64 c) rfl
    go_wp2_with (first | (go_at_call 112; refine (HC.out _).mono ?_; rintro e w1 ⟨rfl, rfl⟩))
    go_ret
    exact ⟨rfl, HB.out⟩
  | true =>
    rw [hn] at HC h
    have hc : inB c 0 1000 = false := by simpa using h
    rw [hc] at HD
    go_enter Try.func63, Try.ntmps63
    simp only [rmA] at HT1 HB ⊢
    go_upto_region 1 with fail
    generalize w.alloc (.cells #[.int .i64 (p 0), .int .i64 (p 1), .int .i64 (p 2), .int .i64 (p 3), .int .i64 (p 4), .int .i64 (p 5), .int .i64 (p 6), .int .i64 (p 7), .int .i64 (p 8), .int .i64 (p 9), .int .i64 (p 10), .int .i64 (p 11), .int .i64 n, .int .i64 m, .int .i64 c] 26) = wa at HT1 HB ⊢
    have c12 := HT1.out.cell (i := 12) (v := .int .i64 n) rfl
    have c14 := HT1.out.cell (i := 14) (v := .int .i64 c) rfl
    go_wp2_with (first | (go_at_call 112; refine (HC.out _).mono ?_; rintro e w1 ⟨rfl, rfl⟩) | (go_at_call 113; refine (HD.out _).mono ?_; rintro e w1 ⟨rfl, rfl⟩))
    go_ret
    exact ⟨rfl, HB.out⟩
set_option maxRecDepth 100000 in
set_option maxHeartbeats 8000000 in
theorem l12Good_yes (p : Nat → Int) (k : Nat) (m c : Int) (w : World) (h1 : 1 ≤ k) (h12 : k ≤ 12) (hc0 : 0 ≤ c) (hc1 : c ≤ 1000) :
    Calls Try.prog 63 #[.agg (rmA p k m c)] w fun e w' => e = .returned (.bool (isSt (lz p k) m && tailB p k)) ∧ Below w.heap.size w w' := by
  have HT1 := Lib.hid (Rw.new w (rmA p k m c) 26 w.heap.size rfl)
  have HB := Lib.hid ((Below.refl w.heap.size w).alloc (Nat.le_refl _) (.cells (rmA p k m c) 26))
  have HC := Lib.hid (fun W => l2Numbers_any (k : Int) W)
  have HD := Lib.hid (fun W => l1In_any c 0 1000 W)
  rw [inB_t (x := (k : Int)) (a := 1) (b := 12) (by omega) (by omega)] at HC
  rw [inB_t hc0 hc1] at HD
  have HST := Lib.hid (fun W => l12State_any p k m c W h1 h12)
  have hlz := lz_len p k
  have HI := Lib.hid (fun W B1 d1 lo hi (h : Ins W lo hi B1 (lz p k)) => l2State_any B1 d1 lo hi (lz p k) m W h (by omega))
  clear hlz
  generalize hst : isSt (lz p k) m = sb at HI ⊢
  clear hst
  cases sb
  all_goals
    go_enter Try.func63, Try.ntmps63
    simp only [rmA] at HT1 HB ⊢
    go_upto_region 1 with fail
    generalize w.alloc (.cells #[.int .i64 (p 0), .int .i64 (p 1), .int .i64 (p 2), .int .i64 (p 3), .int .i64 (p 4), .int .i64 (p 5), .int .i64 (p 6), .int .i64 (p 7), .int .i64 (p 8), .int .i64 (p 9), .int .i64 (p 10), .int .i64 (p 11), .int .i64 k, .int .i64 m, .int .i64 c] 26) = wa at HT1 HB ⊢
    have HT1' : Hid (Rw wa w.heap.size (rmA p k m c) 26) := HT1
    clear HT1
    have c0 := HT1'.out.cell (i := 0) (v := .int .i64 (p 0)) rfl
    have c1 := HT1'.out.cell (i := 1) (v := .int .i64 (p 1)) rfl
    have c2 := HT1'.out.cell (i := 2) (v := .int .i64 (p 2)) rfl
    have c3 := HT1'.out.cell (i := 3) (v := .int .i64 (p 3)) rfl
    have c4 := HT1'.out.cell (i := 4) (v := .int .i64 (p 4)) rfl
    have c5 := HT1'.out.cell (i := 5) (v := .int .i64 (p 5)) rfl
    have c6 := HT1'.out.cell (i := 6) (v := .int .i64 (p 6)) rfl
    have c7 := HT1'.out.cell (i := 7) (v := .int .i64 (p 7)) rfl
    have c8 := HT1'.out.cell (i := 8) (v := .int .i64 (p 8)) rfl
    have c9 := HT1'.out.cell (i := 9) (v := .int .i64 (p 9)) rfl
    have c10 := HT1'.out.cell (i := 10) (v := .int .i64 (p 10)) rfl
    have c11 := HT1'.out.cell (i := 11) (v := .int .i64 (p 11)) rfl
    have c12 := HT1'.out.cell (i := 12) (v := .int .i64 k) rfl
    have c13 := HT1'.out.cell (i := 13) (v := .int .i64 m) rfl
    have c14 := HT1'.out.cell (i := 14) (v := .int .i64 c) rfl
    go_wp2_with (first | (go_at_call 112; refine (HC.out _).mono ?_; rintro e w1 ⟨rfl, rfl⟩) | (go_at_call 113; refine (HD.out _).mono ?_; rintro e w1 ⟨rfl, rfl⟩) | (go_at_call 73; refine (HST.out _).mono ?_; rintro e w2 ⟨B1, d1, rfl, _, hr, hb⟩; have HR2 := Lib.hid hr; have HT2 := Lib.hid (HT1'.out.step hb); have HB2 := Lib.hid (below_trans HB.out hb); clear hb hr) | (go_at_call 70; refine (HI.out _ _ _ _ _ HR2.out.ins).mono ?_; rintro e w3 ⟨rfl, hb⟩; have HT3 := Lib.hid (HT2.out.step hb); have HB3 := Lib.hid (below_trans HB2.out hb); have d12 := HT3.out.cell (i := 12) (v := .int .i64 k) rfl; clear hb))
  · go_ret
    exact ⟨rfl, HB3.out⟩
  · clear HT2 HB2 HR2 HT1' HB HC HD HST HI
    go_loopw [3] (fun i wr => ∃ j : Nat, k ≤ j ∧ j ≤ 12 ∧ i = .int .i64 (j : Int) ∧ wr = w3 ∧ Hid (∀ i, k ≤ i → i < j → p i = 0)) (fun i _ => 12 - (intOf i).toNat)
    case atStart => exact ⟨k, Nat.le_refl _, h12, rfl, rfl, Lib.hid (fun i h h2 => absurd h (by omega))⟩
    case round =>
      obtain ⟨j, hjk, hj, rfl, rfl, HZ⟩ := hrel
      by_cases hlt : j < 12
      · have hltI : (j : Int) < 12 := by omega
        have hc := HT3.out.cell (rmA_at p k m c hlt)
        by_cases hz : p j = 0
        · rw [hz] at hc
          have HZ2 : Hid (∀ i, k ≤ i → i < j + 1 → p i = 0) := Lib.hid (fun i h h2 => by
            rcases Nat.lt_or_ge i j with h3 | h3
            · exact HZ.out i h h3
            · obtain rfl : i = j := by omega
              exact hz)
          clear hz HZ
          go_wp2
          go_roundw
          case rel => exact ⟨j + 1, by omega, by omega, by go_num, (by first | rfl | trivial), HZ2⟩
          case measure => simp [intOf]; omega
        · have HN := Lib.hid (tailB_no hjk hlt hz)
          have hne : (p j == 0) = false := by simpa using hz
          generalize p j = x at hc hz hne
          go_wp2
          go_ret
          exact ⟨by rw [HN.out]; rfl, HB3.out⟩
      · obtain rfl : j = 12 := by omega
        have HN : Hid (tailB p k = true) := Lib.hid (tailB_iff.2 HZ.out)
        clear HZ
        go_wp2
        go_ret
        exact ⟨by rw [HN.out]; rfl, HB3.out⟩
theorem l12Good_any (p : Nat → Int) (n m c : Int) (w : World) : Calls Try.prog 63 #[.agg (rmA p n m c)] w fun e w' => e = .returned (.bool (roomOK p n m c)) ∧ Below w.heap.size w w' := by
  unfold roomOK
  by_cases h : inB n 1 12 = true ∧ inB c 0 1000 = true
  · have h1 := inB_iff.1 h.1
    have h2 := inB_iff.1 h.2
    obtain ⟨k, rfl⟩ : ∃ k : Nat, n = (k : Int) := ⟨n.toNat, by omega⟩
    rw [h.1, h.2, Int.toNat_natCast]
    exact l12Good_yes p k m c w (by omega) (by omega) h2.1 h2.2
  · have h' : inB n 1 12 = false ∨ inB c 0 1000 = false := by cases h1 : inB n 1 12 <;> cases h2 : inB c 0 1000 <;> simp_all
    rw [show (inB n 1 12 && inB c 0 1000 && isSt (lz p n.toNat) m && tailB p n.toNat) = false from by rcases h' with h | h <;> simp [h]]
    exact l12Good_size p n m c w h'
theorem isRoom_impl (p : Nat → Int) (n m c : Int) (w : World) : Calls Try.prog 14 #[.agg (rmA p n m c)] w fun e w' => e = .returned (.bool (roomOK p n m c)) ∧ Below w.heap.size w w' := by
  unfold roomOK
  by_cases h : inB n 1 12 = true ∧ inB c 0 1000 = true
  · have h1 := inB_iff.1 h.1
    have h2 := inB_iff.1 h.2
    obtain ⟨k, rfl⟩ : ∃ k : Nat, n = (k : Int) := ⟨n.toNat, by omega⟩
    rw [h.1, h.2, Int.toNat_natCast]
    exact isRoom_yes p k m c w (by omega) (by omega) h2.1 h2.2
  · have h' : inB n 1 12 = false ∨ inB c 0 1000 = false := by cases h1 : inB n 1 12 <;> cases h2 : inB c 0 1000 <;> simp_all
    rw [show (inB n 1 12 && inB c 0 1000 && isSt (lz p n.toNat) m && tailB p n.toNat) = false from by rcases h' with h | h <;> simp [h]]
    exact isRoom_size p n m c w h'
theorem roomOK_nat {p : Nat → Int} {n m c : Int} (h : roomOK p n m c = true) : ∃ k : Nat, n = (k : Int) ∧ 1 ≤ k ∧ k ≤ 12 ∧ 0 ≤ c ∧ c ≤ 1000 ∧ isSt (lz p k) m = true ∧ tailB p k = true := by
  unfold roomOK at h
  simp only [Bool.and_eq_true] at h
  obtain ⟨⟨⟨a, b⟩, d⟩, e⟩ := h
  have h1 := inB_iff.1 a
  have h2 := inB_iff.1 b
  refine ⟨n.toNat, by omega, by omega, by omega, h2.1, h2.2, d, e⟩
set_option maxRecDepth 100000 in
set_option maxHeartbeats 4000000 in
theorem specIsRoom_any (p : Nat → Int) (n m c : Int) (w : World) : Calls Try.prog 12 #[.agg (rmA p n m c)] w fun e w' => e = .returned (.bool (roomOK p n m c)) ∧ Below w.heap.size w w' := by
  have HT1 := Lib.hid (Rw.new w (rmA p n m c) 26 w.heap.size rfl)
  have HB := Lib.hid ((Below.refl w.heap.size w).alloc (Nat.le_refl _) (.cells (rmA p n m c) 26))
  have HG := Lib.hid (fun W => l12Good_any p n m c W)
  generalize roomOK p n m c = b at HG ⊢
  go_enter Try.func12, Try.ntmps12
  simp only [rmA] at HT1 HB HG ⊢
  go_upto_region 1 with fail
  generalize w.alloc (.cells #[.int .i64 (p 0), .int .i64 (p 1), .int .i64 (p 2), .int .i64 (p 3), .int .i64 (p 4), .int .i64 (p 5), .int .i64 (p 6), .int .i64 (p 7), .int .i64 (p 8), .int .i64 (p 9), .int .i64 (p 10), .int .i64 (p 11), .int .i64 n, .int .i64 m, .int .i64 c] 26) = wa at HT1 HB ⊢
  have c0 := HT1.out.cell (i := 0) (v := .int .i64 (p 0)) rfl
  have c1 := HT1.out.cell (i := 1) (v := .int .i64 (p 1)) rfl
  have c2 := HT1.out.cell (i := 2) (v := .int .i64 (p 2)) rfl
  have c3 := HT1.out.cell (i := 3) (v := .int .i64 (p 3)) rfl
  have c4 := HT1.out.cell (i := 4) (v := .int .i64 (p 4)) rfl
  have c5 := HT1.out.cell (i := 5) (v := .int .i64 (p 5)) rfl
  have c6 := HT1.out.cell (i := 6) (v := .int .i64 (p 6)) rfl
  have c7 := HT1.out.cell (i := 7) (v := .int .i64 (p 7)) rfl
  have c8 := HT1.out.cell (i := 8) (v := .int .i64 (p 8)) rfl
  have c9 := HT1.out.cell (i := 9) (v := .int .i64 (p 9)) rfl
  have c10 := HT1.out.cell (i := 10) (v := .int .i64 (p 10)) rfl
  have c11 := HT1.out.cell (i := 11) (v := .int .i64 (p 11)) rfl
  have c12 := HT1.out.cell (i := 12) (v := .int .i64 n) rfl
  have c13 := HT1.out.cell (i := 13) (v := .int .i64 m) rfl
  have c14 := HT1.out.cell (i := 14) (v := .int .i64 c) rfl
  go_wp2_with fail
  refine (HG.out _).mono ?_
  rintro e w1 ⟨rfl, hb⟩
  replace HB := Lib.hid (below_trans HB.out hb)
  clear hb
  go_wp2
  go_ret
  exact ⟨rfl, HB.out⟩
set_option maxRecDepth 100000 in
set_option maxHeartbeats 8000000 in
theorem l12Room_any (A : Option Addr) (c lo hi : Nat) (zs : List Int) (m cnt : Int) (w : World) (hS : Ins w lo hi A zs) (hn : zs.length ≤ 12) :
    Calls Try.prog 71 #[.agg #[.slice A zs.length c, .int .i64 m], .int .i64 cnt] w fun e w' => e = .returned (.agg (rmA (rz zs) zs.length m cnt)) ∧ Below w.heap.size w w' := by
  have HA := Lib.hid (((Rw.new w #[.slice A zs.length c, .int .i64 m] 35 w.heap.size rfl).step ((Below.refl _ _).alloc (Nat.le_refl _) (.cells #[.int .i64 0, .int .i64 0, .int .i64 0, .int .i64 0, .int .i64 0, .int .i64 0, .int .i64 0, .int .i64 0, .int .i64 0, .int .i64 0, .int .i64 0, .int .i64 0, .int .i64 0, .int .i64 0, .int .i64 0] 26))).step ((Below.refl _ _).alloc (Nat.le_refl _) (.cells #[.int .i64 0, .int .i64 0, .int .i64 0, .int .i64 0, .int .i64 0, .int .i64 0, .int .i64 0, .int .i64 0, .int .i64 0, .int .i64 0, .int .i64 0, .int .i64 0, .int .i64 (zs.length : Int), .int .i64 m, .int .i64 cnt] 26)))
  have HT2 := Lib.hid ((Rw.new (w.alloc (.cells #[.slice A zs.length c, .int .i64 m] 35)) #[.int .i64 0, .int .i64 0, .int .i64 0, .int .i64 0, .int .i64 0, .int .i64 0, .int .i64 0, .int .i64 0, .int .i64 0, .int .i64 0, .int .i64 0, .int .i64 0, .int .i64 0, .int .i64 0, .int .i64 0] 26 (w.heap.size + 1) (by simp)).step ((Below.refl _ _).alloc (Nat.le_refl _) (.cells #[.int .i64 0, .int .i64 0, .int .i64 0, .int .i64 0, .int .i64 0, .int .i64 0, .int .i64 0, .int .i64 0, .int .i64 0, .int .i64 0, .int .i64 0, .int .i64 0, .int .i64 (zs.length : Int), .int .i64 m, .int .i64 cnt] 26)))
  have HT3 := Lib.hid (Rw.new ((w.alloc (.cells #[.slice A zs.length c, .int .i64 m] 35)).alloc (.cells #[.int .i64 0, .int .i64 0, .int .i64 0, .int .i64 0, .int .i64 0, .int .i64 0, .int .i64 0, .int .i64 0, .int .i64 0, .int .i64 0, .int .i64 0, .int .i64 0, .int .i64 0, .int .i64 0, .int .i64 0] 26)) #[.int .i64 0, .int .i64 0, .int .i64 0, .int .i64 0, .int .i64 0, .int .i64 0, .int .i64 0, .int .i64 0, .int .i64 0, .int .i64 0, .int .i64 0, .int .i64 0, .int .i64 (zs.length : Int), .int .i64 m, .int .i64 cnt] 26 (w.heap.size + 2) (by simp))
  have HB := Lib.hid ((((Below.refl w.heap.size w).alloc (Nat.le_refl _) (.cells #[.slice A zs.length c, .int .i64 m] 35)).alloc (by simp) (.cells #[.int .i64 0, .int .i64 0, .int .i64 0, .int .i64 0, .int .i64 0, .int .i64 0, .int .i64 0, .int .i64 0, .int .i64 0, .int .i64 0, .int .i64 0, .int .i64 0, .int .i64 0, .int .i64 0, .int .i64 0] 26)).alloc (by simp; omega) (.cells #[.int .i64 0, .int .i64 0, .int .i64 0, .int .i64 0, .int .i64 0, .int .i64 0, .int .i64 0, .int .i64 0, .int .i64 0, .int .i64 0, .int .i64 0, .int .i64 0, .int .i64 (zs.length : Int), .int .i64 m, .int .i64 cnt] 26))
  have HSX0 := Lib.hid (show Ints w 0 w.heap.size A zs from hS.ints.wide (Nat.zero_le _) hS.top)
  have HS := Lib.hid (hS.step (((Below.refl w.heap.size w).alloc (Nat.le_refl _) (.cells #[.slice A zs.length c, .int .i64 m] 35)).alloc (by simp) (.cells #[.int .i64 0, .int .i64 0, .int .i64 0, .int .i64 0, .int .i64 0, .int .i64 0, .int .i64 0, .int .i64 0, .int .i64 0, .int .i64 0, .int .i64 0, .int .i64 0, .int .i64 0, .int .i64 0, .int .i64 0] 26)))
  replace HS := Lib.hid (HS.out.step ((Below.refl _ _).alloc (Nat.le_refl _) (.cells #[.int .i64 0, .int .i64 0, .int .i64 0, .int .i64 0, .int .i64 0, .int .i64 0, .int .i64 0, .int .i64 0, .int .i64 0, .int .i64 0, .int .i64 0, .int .i64 0, .int .i64 (zs.length : Int), .int .i64 m, .int .i64 cnt] 26)))
  have HSX := Lib.hid (show Ins (((w.alloc (.cells #[.slice A zs.length c, .int .i64 m] 35)).alloc (.cells #[.int .i64 0, .int .i64 0, .int .i64 0, .int .i64 0, .int .i64 0, .int .i64 0, .int .i64 0, .int .i64 0, .int .i64 0, .int .i64 0, .int .i64 0, .int .i64 0, .int .i64 0, .int .i64 0, .int .i64 0] 26)).alloc (.cells #[.int .i64 0, .int .i64 0, .int .i64 0, .int .i64 0, .int .i64 0, .int .i64 0, .int .i64 0, .int .i64 0, .int .i64 0, .int .i64 0, .int .i64 0, .int .i64 0, .int .i64 (zs.length : Int), .int .i64 m, .int .i64 cnt] 26)) 0 w.heap.size A zs from ⟨HSX0.out.below HB.out (Nat.le_refl _), HB.out.size⟩)
  clear hS HS HSX0
  go_enter Try.func71, Try.ntmps71
  go_wp2_with fail
  generalize (((w.alloc (.cells #[.slice A zs.length c, .int .i64 m] 35)).alloc (.cells #[.int .i64 0, .int .i64 0, .int .i64 0, .int .i64 0, .int .i64 0, .int .i64 0, .int .i64 0, .int .i64 0, .int .i64 0, .int .i64 0, .int .i64 0, .int .i64 0, .int .i64 0, .int .i64 0, .int .i64 0] 26)).alloc (.cells #[.int .i64 0, .int .i64 0, .int .i64 0, .int .i64 0, .int .i64 0, .int .i64 0, .int .i64 0, .int .i64 0, .int .i64 0, .int .i64 0, .int .i64 0, .int .i64 0, .int .i64 (zs.length : Int), .int .i64 m, .int .i64 cnt] 26)) = wa at HA HT2 HT3 HB HSX ⊢
  go_loopw [6] (fun i wr => ∃ j : Nat, j ≤ zs.length ∧ i = .int .i64 (j : Int) ∧ Hid (Rw wr w.heap.size #[.slice A zs.length c, .int .i64 m] 35) ∧ Hid (Rw wr (w.heap.size + 1) #[.int .i64 0, .int .i64 0, .int .i64 0, .int .i64 0, .int .i64 0, .int .i64 0, .int .i64 0, .int .i64 0, .int .i64 0, .int .i64 0, .int .i64 0, .int .i64 0, .int .i64 0, .int .i64 0, .int .i64 0] 26) ∧ Hid (Rw wr (w.heap.size + 2) (rmA (fun i => if i < j then rz zs i else 0) zs.length m cnt) 26) ∧ Hid (Ins wr 0 w.heap.size A zs) ∧ Hid (Below w.heap.size w wr)) (fun i _ => zs.length - (intOf i).toNat)
  case atStart => exact ⟨0, Nat.zero_le _, rfl, HA, HT2, HT3, HSX, HB⟩
  case round =>
    clear HA HT2 HT3 HB HSX
    obtain ⟨j, hj, rfl, HA, HT2, HT3, HSX, HB⟩ := hrel
    rename World => wr
    have a0 := HA.out.cell (i := 0) (v := .slice A zs.length c) rfl
    by_cases hlt : j < zs.length
    · have hltI : (j : Int) < (zs.length : Int) := by omega
      have hj12 : (j : Int) < 12 := by omega
      obtain ⟨b, o, rfl, _, hb, hc⟩ := HSX.out.ints.at_ hlt
      have hd := HT3.out.cell (rmA_at (fun i => if i < j then rz zs i else 0) zs.length m cnt (k := j) (by omega))
      have hf := HT3.out.free j
      have HSET : Hid (Rw (wr.setCell ⟨w.heap.size + 2, j, none⟩ (.int .i64 zs[j])) (w.heap.size + 2) (rmA (fun i => if i < j + 1 then rz zs i else 0) zs.length m cnt) 26) := Lib.hid (by
        have h := HT3.out.set (k := j) (.int .i64 zs[j])
        rw [rmA_set _ _ _ _ _ (by omega)] at h
        rw [rmA_ext (q := upd (fun i => if i < j then rz zs i else 0) j zs[j]) fun i hi => ?_]
        · exact h
        · unfold upd
          by_cases e : i = j
          · subst e; simp [rz, List.getD, hlt]
          · simp only [e, if_false]
            by_cases e2 : i < j
            · simp [e2, show i < j + 1 by omega]
            · simp [e2, show ¬ i < j + 1 by omega])
      have HA1 := Lib.hid (HA.out.far (g := w.heap.size + 2) (by omega) j (.int .i64 zs[j]))
      have HA2 := Lib.hid (HT2.out.far (g := w.heap.size + 2) (by omega) j (.int .i64 zs[j]))
      have HAB := Lib.hid (below_setR HB.out (g := w.heap.size + 2) (by omega) j (.int .i64 zs[j]))
      have HAX := Lib.hid (HSX.out.within (within_set (Within.refl (w.heap.size + 2) (w.heap.size + 3) wr) (Nat.le_refl _) (Nat.lt_succ_self _) j (.int .i64 zs[j])) (.inl (by omega)))
      clear HA HT2 HT3 HB HSX
      generalize zs[j] = z at *
      go_wp2
      go_roundw
      case rel => exact ⟨j + 1, by omega, by go_num, HA1, HA2, HSET, HAX, HAB⟩
      case measure => simp [intOf]; omega
    · obtain rfl : j = zs.length := by omega
      have HF : Hid (Rw wr (w.heap.size + 2) (rmA (rz zs) zs.length m cnt) 26) := Lib.hid (by
        have h := HT3.out
        rw [rmA_ext (q := rz zs) fun i hi => ?_] at h
        · exact h
        · by_cases e : i < zs.length
          · simp [e]
          · simp [e, rz, List.getD])
      have c0 := HF.out.cell (i := 0) (v := .int .i64 (rz zs 0)) rfl
      have c1 := HF.out.cell (i := 1) (v := .int .i64 (rz zs 1)) rfl
      have c2 := HF.out.cell (i := 2) (v := .int .i64 (rz zs 2)) rfl
      have c3 := HF.out.cell (i := 3) (v := .int .i64 (rz zs 3)) rfl
      have c4 := HF.out.cell (i := 4) (v := .int .i64 (rz zs 4)) rfl
      have c5 := HF.out.cell (i := 5) (v := .int .i64 (rz zs 5)) rfl
      have c6 := HF.out.cell (i := 6) (v := .int .i64 (rz zs 6)) rfl
      have c7 := HF.out.cell (i := 7) (v := .int .i64 (rz zs 7)) rfl
      have c8 := HF.out.cell (i := 8) (v := .int .i64 (rz zs 8)) rfl
      have c9 := HF.out.cell (i := 9) (v := .int .i64 (rz zs 9)) rfl
      have c10 := HF.out.cell (i := 10) (v := .int .i64 (rz zs 10)) rfl
      have c11 := HF.out.cell (i := 11) (v := .int .i64 (rz zs 11)) rfl
      have c12 := HF.out.cell (i := 12) (v := .int .i64 zs.length) rfl
      have c13 := HF.out.cell (i := 13) (v := .int .i64 m) rfl
      have c14 := HF.out.cell (i := 14) (v := .int .i64 cnt) rfl
      have d0 := HT2.out.cell (i := 0) (v := .int .i64 0) rfl
      have d1 := HT2.out.cell (i := 1) (v := .int .i64 0) rfl
      have d2 := HT2.out.cell (i := 2) (v := .int .i64 0) rfl
      have d3 := HT2.out.cell (i := 3) (v := .int .i64 0) rfl
      have d4 := HT2.out.cell (i := 4) (v := .int .i64 0) rfl
      have d5 := HT2.out.cell (i := 5) (v := .int .i64 0) rfl
      have d6 := HT2.out.cell (i := 6) (v := .int .i64 0) rfl
      have d7 := HT2.out.cell (i := 7) (v := .int .i64 0) rfl
      have d8 := HT2.out.cell (i := 8) (v := .int .i64 0) rfl
      have d9 := HT2.out.cell (i := 9) (v := .int .i64 0) rfl
      have d10 := HT2.out.cell (i := 10) (v := .int .i64 0) rfl
      have d11 := HT2.out.cell (i := 11) (v := .int .i64 0) rfl
      have d12 := HT2.out.cell (i := 12) (v := .int .i64 0) rfl
      have d13 := HT2.out.cell (i := 13) (v := .int .i64 0) rfl
      have d14 := HT2.out.cell (i := 14) (v := .int .i64 0) rfl
      have f0 := HT2.out.free 0
      have f1 := HT2.out.free 1
      have f2 := HT2.out.free 2
      have f3 := HT2.out.free 3
      have f4 := HT2.out.free 4
      have f5 := HT2.out.free 5
      have f6 := HT2.out.free 6
      have f7 := HT2.out.free 7
      have f8 := HT2.out.free 8
      have f9 := HT2.out.free 9
      have f10 := HT2.out.free 10
      have f11 := HT2.out.free 11
      have f12 := HT2.out.free 12
      have f13 := HT2.out.free 13
      have f14 := HT2.out.free 14
      obtain ⟨hs, hw⟩ := stored15 (q := fun _ => 0) (n0 := 0) (m0 := 0) (c0 := 0) HT2.out (rz zs) zs.length m cnt
      have HB4 := Lib.hid (HB.out.trans (hw.below (by omega) (by have := HF.out.lt; omega)))
      clear hw HT2 HT3 HF HB HA HSX
      go_wp2
      generalize (((((((((((((((wr.setCell ⟨w.heap.size + 1, 0, none⟩ (.int .i64 (rz zs 0))).setCell ⟨w.heap.size + 1, 1, none⟩ (.int .i64 (rz zs 1))).setCell ⟨w.heap.size + 1, 2, none⟩ (.int .i64 (rz zs 2))).setCell ⟨w.heap.size + 1, 3, none⟩ (.int .i64 (rz zs 3))).setCell ⟨w.heap.size + 1, 4, none⟩ (.int .i64 (rz zs 4))).setCell ⟨w.heap.size + 1, 5, none⟩ (.int .i64 (rz zs 5))).setCell ⟨w.heap.size + 1, 6, none⟩ (.int .i64 (rz zs 6))).setCell ⟨w.heap.size + 1, 7, none⟩ (.int .i64 (rz zs 7))).setCell ⟨w.heap.size + 1, 8, none⟩ (.int .i64 (rz zs 8))).setCell ⟨w.heap.size + 1, 9, none⟩ (.int .i64 (rz zs 9))).setCell ⟨w.heap.size + 1, 10, none⟩ (.int .i64 (rz zs 10))).setCell ⟨w.heap.size + 1, 11, none⟩ (.int .i64 (rz zs 11))).setCell ⟨w.heap.size + 1, 12, none⟩ (.int .i64 zs.length)).setCell ⟨w.heap.size + 1, 13, none⟩ (.int .i64 m)).setCell ⟨w.heap.size + 1, 14, none⟩ (.int .i64 cnt)) = wf at hs HB4 ⊢
      refine bodyPost_ret (v := .agg (rmA (rz zs) zs.length m cnt)) (results_cell_row rfl _ _ (w.heap.size + 1) _ _ _ _ rfl hs.row Try.underlying26 rfl infoRm) rfl ?_
      exact ⟨rfl, HB4.out⟩

set_option maxRecDepth 100000 in
set_option maxHeartbeats 8000000 in
theorem newRoom_spec_yes (A : Option Addr) (c lo hi : Nat) (zs : List Int) (m : Int) (w : World) (hS : Ins w lo hi A zs) (hn : zs.length ≤ 1048576) (hst : isSt zs m = true) :
    Calls Try.prog 16 #[.agg #[.slice A zs.length c, .int .i64 m]] w fun e w' => e = .returned (.tuple #[.agg (rmA (rz zs) zs.length m 0), .bool true]) ∧ Below w.heap.size w w' := by
  have HA := Lib.hid ((Two.new w (.slice A zs.length c) (.int .i64 m) 35 w.heap.size rfl).step ((Below.refl _ _).alloc (Nat.le_refl _) (.cells #[.int .i64 0, .int .i64 0, .int .i64 0, .int .i64 0, .int .i64 0, .int .i64 0, .int .i64 0, .int .i64 0, .int .i64 0, .int .i64 0, .int .i64 0, .int .i64 0, .int .i64 0, .int .i64 0, .int .i64 0] 26)))
  have HT := Lib.hid (Rw.new (w.alloc (.cells #[.slice A zs.length c, .int .i64 m] 35)) #[.int .i64 0, .int .i64 0, .int .i64 0, .int .i64 0, .int .i64 0, .int .i64 0, .int .i64 0, .int .i64 0, .int .i64 0, .int .i64 0, .int .i64 0, .int .i64 0, .int .i64 0, .int .i64 0, .int .i64 0] 26 (w.heap.size + 1) (by simp))
  have HB := Lib.hid (((Below.refl w.heap.size w).alloc (Nat.le_refl _) (.cells #[.slice A zs.length c, .int .i64 m] 35)).alloc (by simp) (.cells #[.int .i64 0, .int .i64 0, .int .i64 0, .int .i64 0, .int .i64 0, .int .i64 0, .int .i64 0, .int .i64 0, .int .i64 0, .int .i64 0, .int .i64 0, .int .i64 0, .int .i64 0, .int .i64 0, .int .i64 0] 26))
  have HS := Lib.hid (hS.step HB.out)
  have HI := Lib.hid (fun W lo' hi' (h : Ins W lo' hi' A zs) => l2State_any A c lo' hi' zs m W h hn)
  rw [hst] at HI
  have hl := isSt_len hst
  have HK := Lib.hid (fun W lo' hi' (h : Ins W lo' hi' A zs) => l12Room_any A c lo' hi' zs m 0 W h hl.2.1)
  clear hS hst
  go_enter Try.func16, Try.ntmps16
  go_upto_region 1 with fail
  generalize (w.alloc (.cells #[.slice A zs.length c, .int .i64 m] 35)).alloc (.cells #[.int .i64 0, .int .i64 0, .int .i64 0, .int .i64 0, .int .i64 0, .int .i64 0, .int .i64 0, .int .i64 0, .int .i64 0, .int .i64 0, .int .i64 0, .int .i64 0, .int .i64 0, .int .i64 0, .int .i64 0] 26) = wa at HA HT HB HS ⊢
  have a0 := HA.out.c0
  have a1 := HA.out.c1
  go_wp2_with fail
  refine (HI.out _ _ _ HS.out).mono ?_
  rintro e w1 ⟨rfl, hb⟩
  replace HA := Lib.hid (HA.out.step hb)
  replace HT := Lib.hid (HT.out.step hb)
  replace HS := Lib.hid (HS.out.step hb)
  replace HB := Lib.hid (below_trans HB.out hb)
  clear hb HI a0 a1
  have a0 := HA.out.c0
  have a1 := HA.out.c1
  go_wp2_with fail
  refine (HK.out _ _ _ HS.out).mono ?_
  rintro e w2 ⟨rfl, hb⟩
  replace HT := Lib.hid (HT.out.step hb)
  replace HB := Lib.hid (below_trans HB.out hb)
  clear hb HK a0 a1 HA HS
  simp only [rmA]
  have d0 := HT.out.cell (i := 0) (v := .int .i64 0) rfl
  have d1 := HT.out.cell (i := 1) (v := .int .i64 0) rfl
  have d2 := HT.out.cell (i := 2) (v := .int .i64 0) rfl
  have d3 := HT.out.cell (i := 3) (v := .int .i64 0) rfl
  have d4 := HT.out.cell (i := 4) (v := .int .i64 0) rfl
  have d5 := HT.out.cell (i := 5) (v := .int .i64 0) rfl
  have d6 := HT.out.cell (i := 6) (v := .int .i64 0) rfl
  have d7 := HT.out.cell (i := 7) (v := .int .i64 0) rfl
  have d8 := HT.out.cell (i := 8) (v := .int .i64 0) rfl
  have d9 := HT.out.cell (i := 9) (v := .int .i64 0) rfl
  have d10 := HT.out.cell (i := 10) (v := .int .i64 0) rfl
  have d11 := HT.out.cell (i := 11) (v := .int .i64 0) rfl
  have d12 := HT.out.cell (i := 12) (v := .int .i64 0) rfl
  have d13 := HT.out.cell (i := 13) (v := .int .i64 0) rfl
  have d14 := HT.out.cell (i := 14) (v := .int .i64 0) rfl
  have f0 := HT.out.free 0
  have f1 := HT.out.free 1
  have f2 := HT.out.free 2
  have f3 := HT.out.free 3
  have f4 := HT.out.free 4
  have f5 := HT.out.free 5
  have f6 := HT.out.free 6
  have f7 := HT.out.free 7
  have f8 := HT.out.free 8
  have f9 := HT.out.free 9
  have f10 := HT.out.free 10
  have f11 := HT.out.free 11
  have f12 := HT.out.free 12
  have f13 := HT.out.free 13
  have f14 := HT.out.free 14
  obtain ⟨hs, hw⟩ := stored15 (q := fun _ => 0) (n0 := 0) (m0 := 0) (c0 := 0) HT.out (rz zs) zs.length m 0
  have HB4 := Lib.hid (HB.out.trans (hw.below (by omega) (by have := HT.out.lt; omega)))
  clear hw HT HB
  go_wp2
  generalize (((((((((((((((w2.setCell ⟨w.heap.size + 1, 0, none⟩ (.int .i64 (rz zs 0))).setCell ⟨w.heap.size + 1, 1, none⟩ (.int .i64 (rz zs 1))).setCell ⟨w.heap.size + 1, 2, none⟩ (.int .i64 (rz zs 2))).setCell ⟨w.heap.size + 1, 3, none⟩ (.int .i64 (rz zs 3))).setCell ⟨w.heap.size + 1, 4, none⟩ (.int .i64 (rz zs 4))).setCell ⟨w.heap.size + 1, 5, none⟩ (.int .i64 (rz zs 5))).setCell ⟨w.heap.size + 1, 6, none⟩ (.int .i64 (rz zs 6))).setCell ⟨w.heap.size + 1, 7, none⟩ (.int .i64 (rz zs 7))).setCell ⟨w.heap.size + 1, 8, none⟩ (.int .i64 (rz zs 8))).setCell ⟨w.heap.size + 1, 9, none⟩ (.int .i64 (rz zs 9))).setCell ⟨w.heap.size + 1, 10, none⟩ (.int .i64 (rz zs 10))).setCell ⟨w.heap.size + 1, 11, none⟩ (.int .i64 (rz zs 11))).setCell ⟨w.heap.size + 1, 12, none⟩ (.int .i64 zs.length)).setCell ⟨w.heap.size + 1, 13, none⟩ (.int .i64 m)).setCell ⟨w.heap.size + 1, 14, none⟩ (.int .i64 0)) = wf at hs HB4 ⊢
  have e0 := (Lib.hid hs).out.cell (i := 0) (v := .int .i64 (rz zs 0)) rfl
  have e1 := (Lib.hid hs).out.cell (i := 1) (v := .int .i64 (rz zs 1)) rfl
  have e2 := (Lib.hid hs).out.cell (i := 2) (v := .int .i64 (rz zs 2)) rfl
  have e3 := (Lib.hid hs).out.cell (i := 3) (v := .int .i64 (rz zs 3)) rfl
  have e4 := (Lib.hid hs).out.cell (i := 4) (v := .int .i64 (rz zs 4)) rfl
  have e5 := (Lib.hid hs).out.cell (i := 5) (v := .int .i64 (rz zs 5)) rfl
  have e6 := (Lib.hid hs).out.cell (i := 6) (v := .int .i64 (rz zs 6)) rfl
  have e7 := (Lib.hid hs).out.cell (i := 7) (v := .int .i64 (rz zs 7)) rfl
  have e8 := (Lib.hid hs).out.cell (i := 8) (v := .int .i64 (rz zs 8)) rfl
  have e9 := (Lib.hid hs).out.cell (i := 9) (v := .int .i64 (rz zs 9)) rfl
  have e10 := (Lib.hid hs).out.cell (i := 10) (v := .int .i64 (rz zs 10)) rfl
  have e11 := (Lib.hid hs).out.cell (i := 11) (v := .int .i64 (rz zs 11)) rfl
  have e12 := (Lib.hid hs).out.cell (i := 12) (v := .int .i64 zs.length) rfl
  have e13 := (Lib.hid hs).out.cell (i := 13) (v := .int .i64 m) rfl
  have e14 := (Lib.hid hs).out.cell (i := 14) (v := .int .i64 0) rfl
  refine bodyPost_ret (v := .tuple #[.agg (rmA (rz zs) zs.length m 0), .bool true]) (by simp [results, go_sem, e0, e1, e2, e3, e4, e5, e6, e7, e8, e9, e10, e11, e12, e13, e14]; try rfl) rfl ?_
  exact ⟨rfl, HB4.out⟩

set_option maxRecDepth 100000 in
set_option maxHeartbeats 8000000 in
theorem newRoom_spec_no (A : Option Addr) (c lo hi : Nat) (zs : List Int) (m : Int) (w : World) (hS : Ins w lo hi A zs) (hn : zs.length ≤ 1048576) (hst : isSt zs m = false) :
    Calls Try.prog 16 #[.agg #[.slice A zs.length c, .int .i64 m]] w fun e w' => e = .returned (.tuple #[.agg (rmA (fun _ => 0) 0 0 0), .bool false]) ∧ Below w.heap.size w w' := by
  have HA := Lib.hid ((Two.new w (.slice A zs.length c) (.int .i64 m) 35 w.heap.size rfl).step ((Below.refl _ _).alloc (Nat.le_refl _) (.cells #[.int .i64 0, .int .i64 0, .int .i64 0, .int .i64 0, .int .i64 0, .int .i64 0, .int .i64 0, .int .i64 0, .int .i64 0, .int .i64 0, .int .i64 0, .int .i64 0, .int .i64 0, .int .i64 0, .int .i64 0] 26)))
  have HT := Lib.hid (Rw.new (w.alloc (.cells #[.slice A zs.length c, .int .i64 m] 35)) #[.int .i64 0, .int .i64 0, .int .i64 0, .int .i64 0, .int .i64 0, .int .i64 0, .int .i64 0, .int .i64 0, .int .i64 0, .int .i64 0, .int .i64 0, .int .i64 0, .int .i64 0, .int .i64 0, .int .i64 0] 26 (w.heap.size + 1) (by simp))
  have HB := Lib.hid (((Below.refl w.heap.size w).alloc (Nat.le_refl _) (.cells #[.slice A zs.length c, .int .i64 m] 35)).alloc (by simp) (.cells #[.int .i64 0, .int .i64 0, .int .i64 0, .int .i64 0, .int .i64 0, .int .i64 0, .int .i64 0, .int .i64 0, .int .i64 0, .int .i64 0, .int .i64 0, .int .i64 0, .int .i64 0, .int .i64 0, .int .i64 0] 26))
  have HS := Lib.hid (hS.step HB.out)
  have HI := Lib.hid (fun W lo' hi' (h : Ins W lo' hi' A zs) => l2State_any A c lo' hi' zs m W h hn)
  rw [hst] at HI
  clear hS hst
  go_enter Try.func16, Try.ntmps16
  go_upto_region 1 with fail
  generalize (w.alloc (.cells #[.slice A zs.length c, .int .i64 m] 35)).alloc (.cells #[.int .i64 0, .int .i64 0, .int .i64 0, .int .i64 0, .int .i64 0, .int .i64 0, .int .i64 0, .int .i64 0, .int .i64 0, .int .i64 0, .int .i64 0, .int .i64 0, .int .i64 0, .int .i64 0, .int .i64 0] 26) = wa at HA HT HB HS ⊢
  have a0 := HA.out.c0
  have a1 := HA.out.c1
  go_wp2_with fail
  refine (HI.out _ _ _ HS.out).mono ?_
  rintro e w1 ⟨rfl, hb⟩
  replace HA := Lib.hid (HA.out.step hb)
  replace HT := Lib.hid (HT.out.step hb)
  replace HS := Lib.hid (HS.out.step hb)
  replace HB := Lib.hid (below_trans HB.out hb)
  clear hb HI a0 a1
  have d0 := HT.out.cell (i := 0) (v := .int .i64 0) rfl
  have d1 := HT.out.cell (i := 1) (v := .int .i64 0) rfl
  have d2 := HT.out.cell (i := 2) (v := .int .i64 0) rfl
  have d3 := HT.out.cell (i := 3) (v := .int .i64 0) rfl
  have d4 := HT.out.cell (i := 4) (v := .int .i64 0) rfl
  have d5 := HT.out.cell (i := 5) (v := .int .i64 0) rfl
  have d6 := HT.out.cell (i := 6) (v := .int .i64 0) rfl
  have d7 := HT.out.cell (i := 7) (v := .int .i64 0) rfl
  have d8 := HT.out.cell (i := 8) (v := .int .i64 0) rfl
  have d9 := HT.out.cell (i := 9) (v := .int .i64 0) rfl
  have d10 := HT.out.cell (i := 10) (v := .int .i64 0) rfl
  have d11 := HT.out.cell (i := 11) (v := .int .i64 0) rfl
  have d12 := HT.out.cell (i := 12) (v := .int .i64 0) rfl
  have d13 := HT.out.cell (i := 13) (v := .int .i64 0) rfl
  have d14 := HT.out.cell (i := 14) (v := .int .i64 0) rfl
  have f0 := HT.out.free 0
  have f1 := HT.out.free 1
  have f2 := HT.out.free 2
  have f3 := HT.out.free 3
  have f4 := HT.out.free 4
  have f5 := HT.out.free 5
  have f6 := HT.out.free 6
  have f7 := HT.out.free 7
  have f8 := HT.out.free 8
  have f9 := HT.out.free 9
  have f10 := HT.out.free 10
  have f11 := HT.out.free 11
  have f12 := HT.out.free 12
  have f13 := HT.out.free 13
  have f14 := HT.out.free 14
  obtain ⟨hs, hw⟩ := stored15 (q := fun _ => 0) (n0 := 0) (m0 := 0) (c0 := 0) HT.out (fun _ => 0) 0 0 0
  clear HA HS
  have HB4 := Lib.hid (HB.out.trans (hw.below (by omega) (by have := HT.out.lt; omega)))
  clear hw HT HB
  go_wp2
  generalize (((((((((((((((w1.setCell ⟨w.heap.size + 1, 0, none⟩ (.int .i64 0)).setCell ⟨w.heap.size + 1, 1, none⟩ (.int .i64 0)).setCell ⟨w.heap.size + 1, 2, none⟩ (.int .i64 0)).setCell ⟨w.heap.size + 1, 3, none⟩ (.int .i64 0)).setCell ⟨w.heap.size + 1, 4, none⟩ (.int .i64 0)).setCell ⟨w.heap.size + 1, 5, none⟩ (.int .i64 0)).setCell ⟨w.heap.size + 1, 6, none⟩ (.int .i64 0)).setCell ⟨w.heap.size + 1, 7, none⟩ (.int .i64 0)).setCell ⟨w.heap.size + 1, 8, none⟩ (.int .i64 0)).setCell ⟨w.heap.size + 1, 9, none⟩ (.int .i64 0)).setCell ⟨w.heap.size + 1, 10, none⟩ (.int .i64 0)).setCell ⟨w.heap.size + 1, 11, none⟩ (.int .i64 0)).setCell ⟨w.heap.size + 1, 12, none⟩ (.int .i64 0)).setCell ⟨w.heap.size + 1, 13, none⟩ (.int .i64 0)).setCell ⟨w.heap.size + 1, 14, none⟩ (.int .i64 0)) = wf at hs HB4 ⊢
  have e0 := (Lib.hid hs).out.cell (i := 0) (v := .int .i64 0) rfl
  have e1 := (Lib.hid hs).out.cell (i := 1) (v := .int .i64 0) rfl
  have e2 := (Lib.hid hs).out.cell (i := 2) (v := .int .i64 0) rfl
  have e3 := (Lib.hid hs).out.cell (i := 3) (v := .int .i64 0) rfl
  have e4 := (Lib.hid hs).out.cell (i := 4) (v := .int .i64 0) rfl
  have e5 := (Lib.hid hs).out.cell (i := 5) (v := .int .i64 0) rfl
  have e6 := (Lib.hid hs).out.cell (i := 6) (v := .int .i64 0) rfl
  have e7 := (Lib.hid hs).out.cell (i := 7) (v := .int .i64 0) rfl
  have e8 := (Lib.hid hs).out.cell (i := 8) (v := .int .i64 0) rfl
  have e9 := (Lib.hid hs).out.cell (i := 9) (v := .int .i64 0) rfl
  have e10 := (Lib.hid hs).out.cell (i := 10) (v := .int .i64 0) rfl
  have e11 := (Lib.hid hs).out.cell (i := 11) (v := .int .i64 0) rfl
  have e12 := (Lib.hid hs).out.cell (i := 12) (v := .int .i64 0) rfl
  have e13 := (Lib.hid hs).out.cell (i := 13) (v := .int .i64 0) rfl
  have e14 := (Lib.hid hs).out.cell (i := 14) (v := .int .i64 0) rfl
  refine bodyPost_ret (v := .tuple #[.agg (rmA (fun _ => 0) 0 0 0), .bool false]) (by simp [results, go_sem, e0, e1, e2, e3, e4, e5, e6, e7, e8, e9, e10, e11, e12, e13, e14]; try rfl) rfl ?_
  exact ⟨rfl, HB4.out⟩
end Go.Proofs.Ytpjoljaamakagaa
