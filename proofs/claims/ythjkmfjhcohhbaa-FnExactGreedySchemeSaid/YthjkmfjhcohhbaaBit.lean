/- The shortest scheme of words; BitScheme: both. -/
import Derived.Test.YthjkmfjhcohhbaaSchOf
import Derived.Test.YthjkmfjhcohhbaaShelf
import Derived.Lib.ItoaNum
namespace Go.Proofs.Ythjkmfjhcohhbaa
open Go.RowKit Go.ChangeShapes Go.WideShapes
set_option linter.unusedVariables false

theorem bitLen_lt {x q : Nat} (h : x < 2 ^ 64) : x < 2 ^ q ↔ Lib.bitLen x ≤ q := by
  by_cases h0 : x = 0
  · subst h0
    have : Lib.bitLen 0 = 0 := rfl
    rw [this]
    exact ⟨fun _ => Nat.zero_le _, fun _ => Nat.pow_pos (by omega)⟩
  · obtain ⟨h1, h2, h3⟩ := Lib.bitLenAux_bounds 64 x h h0
    have e : Lib.bitLen x = Lib.bitLenAux 64 x := rfl
    rw [e]
    constructor
    · intro hx
      rcases Nat.lt_or_ge q (Lib.bitLenAux 64 x) with hq | hq
      · have := Nat.pow_le_pow_right (n := 2) (by omega) (show q ≤ Lib.bitLenAux 64 x - 1 by omega)
        omega
      · exact hq
    · intro hx
      exact Nat.lt_of_lt_of_le h3 (Nat.pow_le_pow_right (by omega) hx)
theorem bitLen_14 {x : Nat} (h : x < 16384) : Lib.bitLen x ≤ 14 := (bitLen_lt (by omega)).1 (show x < 2 ^ 14 from h)
theorem foldl_max (zs : List Int) : ∀ a : Int, (∀ z ∈ zs, z ≤ zs.foldl max a) ∧ a ≤ zs.foldl max a ∧ (zs.foldl max a = a ∨ zs.foldl max a ∈ zs) := by
  induction zs with
  | nil => intro a; exact ⟨by simp, Int.le_refl _, .inl rfl⟩
  | cons z zs ih =>
    intro a
    obtain ⟨h1, h2, h3⟩ := ih (max a z)
    simp only [List.foldl_cons]
    refine ⟨fun y hy => ?_, by omega, ?_⟩
    · rcases List.mem_cons.1 hy with rfl | hy
      · omega
      · exact h1 y hy
    · rcases h3 with h3 | h3
      · rcases Int.le_total a z with h | h
        · right
          rw [h3, show max a z = z by omega]
          simp
        · left
          rw [h3]
          omega
      · right
        simp [h3]
theorem maxOf_is {zs : List Int} {x : Int} (hm : x ∈ zs) (hle : ∀ z ∈ zs, z ≤ x) : Lib.maxOf zs = x := by
  unfold Lib.maxOf
  obtain ⟨h1, h2, h3⟩ := foldl_max zs (zs.headD 0)
  have hd : zs.headD 0 ∈ zs := by
    cases zs with
    | nil => cases hm
    | cons z r => simp
  have ha := h1 x hm
  rcases h3 with h3 | h3
  · have := hle _ hd
    omega
  · have := hle _ h3
    omega
set_option maxRecDepth 100000 in
set_option maxHeartbeats 2000000 in
theorem shortest_any (A : Option Addr) (c lo hi : Nat) (us : List Int) (x : Nat) (w : World) (hS : Ins w lo hi A us) (h1 : 1 ≤ us.length ∧ us.length ≤ 12) (hx : x < 16384) (hmx : Lib.maxOf us = (x : Int)) :
    Calls Try.prog 69 #[.slice A us.length c] w (LAns w (sAns us (Lib.bitLen x : Int)) (sOK us (Lib.bitLen x : Int))) := by
  have HI := Lib.hid hS
  have HS := Lib.hid (fun W h => schemeOf_impl A c lo hi us (Lib.bitLen x) W h h1 (bitLen_14 hx))
  have HL := Lib.hid (fun W => Try.bits_Len (x : Int) W (by omega) (by omega))
  rw [Int.toNat_natCast] at HL
  obtain ⟨b, o, hA, _, hb, hcs⟩ := hS.ints (by omega)
  have HM := Lib.hid (Try.slices_Max_int b o us.length c us w (by omega) (Nat.le_refl _) (by omega) (fun j hj => by rw [hcs j _ (List.getElem?_eq_getElem hj), getD0 hj]))
  rw [List.take_length, hmx, ← hA] at HM
  clear hS hcs hA hmx
  unfold LAns
  generalize Lib.bitLen x = q at HS HL ⊢
  go_enter Try.func69, Try.ntmps69
  go_wp2_with fail
  refine HM.out.mono ?_
  rintro e w1 ⟨rfl, rfl⟩
  go_wp2_with fail
  refine (HL.out _).mono ?_
  rintro e w2 ⟨rfl, rfl⟩
  go_wp2_with fail
  refine (HS.out _ HI.out).mono ?_
  rintro e w3 ⟨B, c', rfl, hr, hb⟩
  have HR := Lib.hid hr
  have HB := Lib.hid hb
  clear hr hb
  go_wp2
  go_ret2
  exact ⟨B, c', rfl, HR.out, HB.out⟩

/-- The numbers below n. -/
def idL (n : Nat) : List Int := (List.range n).map fun (k : Nat) => (k : Int)
theorem idL_len (n : Nat) : (idL n).length = n := by simp [idL]
theorem idL_at {n k : Nat} (h : k < (idL n).length) : (idL n)[k] = (k : Int) := by simp [idL]
theorem idL_succ (n : Nat) : idL (n + 1) = idL n ++ [(n : Int)] := by simp [idL, List.range_succ]
theorem idL_mem {n : Nat} {x : Int} : x ∈ idL n ↔ ∃ k : Nat, k < n ∧ x = (k : Int) := by
  simp [idL]
  exact ⟨fun ⟨a, h1, h2⟩ => ⟨a, h1, h2.symm⟩, fun ⟨a, h1, h2⟩ => ⟨a, h1, h2.symm⟩⟩
theorem idL_max {n : Nat} (h : 1 ≤ n) : Lib.maxOf (idL n) = ((n - 1 : Nat) : Int) :=
  maxOf_is (idL_mem.2 ⟨n - 1, by omega, rfl⟩) (fun z hz => by obtain ⟨k, hk, rfl⟩ := idL_mem.1 hz; omega)
theorem idL_ok {n : Nat} (h : 1 ≤ n ∧ n ≤ 12) : sOK (idL n) (Lib.bitLen (n - 1) : Int) = true := by
  rw [sOK_iff, idL_len]
  have hb := bitLen_14 (x := n - 1) (by omega)
  refine ⟨h, by omega, fun u hu => ?_⟩
  obtain ⟨k, hk, rfl⟩ := idL_mem.1 hu
  rw [Int.toNat_natCast, wOK_iff]
  have := (bitLen_lt (x := n - 1) (q := Lib.bitLen (n - 1)) (by omega)).2 (Nat.le_refl _)
  have e : (2 : Int) ^ Lib.bitLen (n - 1) = ((2 ^ Lib.bitLen (n - 1) : Nat) : Int) := by norm_cast
  rw [e]
  omega
set_option maxRecDepth 100000 in
set_option maxHeartbeats 2000000 in
theorem bitScheme_impl (n : Nat) (w : World) (hn : 1 ≤ n ∧ n ≤ 12) :
    Calls Try.prog 38 #[.int .i64 (n : Int)] w (LAns w (schL (idL n) (Lib.bitLen (n - 1))) true) := by
  have HC := Lib.hid (fun W => isSize_any (n : Int) W)
  rw [inB_t (x := (n : Int)) (a := 1) (b := 12) (by omega) (by omega)] at HC
  have hmk := makeInts n (by omega)
  have hln := idL_len n
  rw [← hln, ← rowI_nil, hln] at hmk
  have HR0 : Hid ((w.alloc (.cells (rowI (idL n) 0) 3)).heap[w.heap.size]? = some (.cells (rowI (idL n) 0) 3 (0, 0))) := alloc_row _ _ _
  have HB0 := Lib.hid ((Below.refl w.heap.size w).alloc (Nat.le_refl _) (.cells (rowI (idL n) 0) 3))
  have HS := Lib.hid (fun A c lo hi W h => shortest_any A c lo hi (idL n) (n - 1) W h (by rw [hln]; exact hn) (by omega) (idL_max hn.1))
  have hok := idL_ok hn
  rw [sAns_yes hok, hok] at HS
  clear hok hln
  unfold LAns
  go_enter Try.func38, Try.ntmps38
  go_wp2_with fail
  refine (HC.out w).mono ?_
  rintro e w1 ⟨rfl, rfl⟩
  go_wp2_with fail
  clear hmk
  generalize w1.alloc (.cells (rowI (idL n) 0) 3) = wa at HR0 HB0 ⊢
  go_loopw [14] (fun i wr => ∃ (k : Nat), k ≤ n ∧ i = .int .i64 k ∧ Hid (wr.heap[w1.heap.size]? = some (.cells (rowI (idL n) k) 3 (0, 0))) ∧ Hid (Below w1.heap.size w1 wr)) (fun i _ => n - (intOf i).toNat)
  case atStart => exact ⟨0, Nat.zero_le _, rfl, HR0, HB0⟩
  case round =>
    clear HR0 HB0
    obtain ⟨k, hk, rfl, HR, HB⟩ := hrel
    rename World => wr
    by_cases hlt : k < n
    · have hcell := row_cellI HR.out (i := k)
      rw [rowI_at (by rw [idL_len]; exact hlt)] at hcell
      have hfr := row_freeI HR.out k
      have HR2 := Lib.hid (row_setI HR.out k (.int .i64 (k : Int)))
      have hat := idL_at (n := n) (k := k) (by rw [idL_len]; exact hlt)
      rw [← hat, rowI_set (by rw [idL_len]; exact hlt), hat] at HR2
      have HB2 := Lib.hid (below_setC HB.out (g := w1.heap.size) (Nat.le_refl _) k (.int .i64 (k : Int)))
      clear hat HR HB
      go_wp2
      go_roundw
      case rel => exact ⟨k + 1, by omega, by go_num, HR2, HB2⟩
      case measure => simp [intOf]; omega
    · obtain rfl : k = n := by omega
      have hR := HR.out
      rw [show rowI (idL k) k = ((idL k).map (Value.int .i64)).toArray by
        have := rowI_full (idL k)
        rwa [idL_len] at this] at hR
      have HI : Hid (Ins wr w1.heap.size wr.heap.size (some ⟨w1.heap.size, 0, none⟩) (idL k)) := Lib.hid ⟨(Qrow.mk hR |> fun q => (Own.ints (.inr ⟨w1.heap.size, _, rfl, Nat.le_refl _, row_ltI hR, hR, by simp, fun j x hx => by simp [hx]⟩))), Nat.le_refl _⟩
      clear hR HR
      have HL := Lib.hid (idL_len k)
      have HSk := Lib.hid (HS.out (some ⟨w1.heap.size, 0, none⟩) k _ _ wr HI.out)
      rw [HL.out] at HSk
      clear HS
      go_wp2_with fail
      refine HSk.out.mono ?_
      rintro e w3 ⟨B, c', rfl, hr, hb⟩
      have HR := Lib.hid (Res.mk (hr.own.wide HB.out.size (Nat.le_refl _)) hr.top)
      have HB2 := Lib.hid (below_trans HB.out hb)
      clear hr hb
      go_wp2
      go_ret2
      exact ⟨B, c', rfl, HR.out, HB2.out⟩

set_option maxRecDepth 100000 in
set_option maxHeartbeats 2000000 in
theorem bitScheme_spec (n : Nat) (w : World) (hn : 1 ≤ n ∧ n ≤ 12) :
    Calls Try.prog 37 #[.int .i64 (n : Int)] w (LAns w (schL (idL n) (Lib.bitLen (n - 1))) true) := by
  obtain ⟨i0, hi0, hz0, hz1, hz2⟩ := info_parts infoI3
  have HC := Lib.hid (fun W => l2Numbers_any (n : Int) W)
  rw [inB_t (x := (n : Int)) (a := 1) (b := 12) (by omega) (by omega)] at HC
  have O0 := Lib.hid (O0_any w w.heap.size (Nat.le_refl _))
  have hL := bitLen_14 (x := n - 1) (by omega)
  have HLT := Lib.hid (fun q => bitLen_lt (x := n - 1) (q := q) (by omega))
  generalize Lib.bitLen (n - 1) = L at hL HLT ⊢
  have HO := Lib.hid (fun A c lo hi W h => l5Of_any A c lo hi (idL n) L W h (by rw [idL_len]; exact hn.2) hL)
  unfold LAns
  go_enter Try.func37, Try.ntmps37
  go_wp2_with fail
  refine (HC.out w).mono ?_
  rintro e w1 ⟨rfl, rfl⟩
  go_wp2_with fail
  go_loopw [4, 6] (fun out i wr => ∃ (k : Nat), k ≤ n ∧ i = .int .i64 k ∧ Hid (wr.ownsRow w1.heap.size 3 1 out (idL k).length ((idL k).map (Value.int .i64))) ∧ Hid (Past w1.heap.size w1 wr)) (fun _ i _ => n - (intOf i).toNat)
  case atStart => exact ⟨0, Nat.zero_le _, rfl, (by first | exact O0.out | exact O0), Past.of_below ((Below.refl _ _).alloc (Nat.le_refl _) _)⟩
  case round =>
    obtain ⟨k, hk, rfl, HW, HP⟩ := hrel
    rename World => wr
    have hsz := HP.out.size
    by_cases hlt : k < n
    · have hfl := idL_len k
      have HF := Lib.hid (idL_succ k)
      generalize idL k = f at HW HF hfl
      have hown := HW.out
      go_wp2_with (at_builtin; refine wpList_append_own _ rfl _ _ 22 rfl w1.heap.size 3 i0 (.int .i64 0) 1 8 Try.underlying22 hi0 hz0 hz1 hz2 rfl (by decide) _ _ _ rfl (hown.alloc _) ⟨_, 0, none⟩ 1 1 [.int .i64 (k : Int)] rfl rfl (cell_one_new _ _ _) (by simp [Value.oneCell']) (by unfold maxLen; omega) (by omega) (by simp; omega) ?_; intro v' w2 hown' hgrow _)
      have HO2 := Lib.hid (own_snocI hown' rfl)
      have HP2 := Lib.hid (HP.out.trans (Past.grown hown hgrow))
      clear hown' hgrow hown HW
      go_wp2
      go_roundw
      case rel => exact ⟨k + 1, by omega, by go_num, by rw [HF.out]; exact HO2.out, HP2.out⟩
      case measure => simp [intOf]; omega
    · obtain rfl : k = n := by omega
      obtain ⟨A, c', rfl, _, hr⟩ := own_res HW.out rfl
      have HI := Lib.hid hr.ins
      have HB := Lib.hid (HP.out.below (Nat.le_refl _) (Nat.le_refl _))
      have HLn := Lib.hid (idL_len k)
      rw [HLn.out]
      clear hr HW HP
      go_wp2_with fail
      go_loopw [5] (fun i wq => ∃ (q : Nat), q ≤ L ∧ i = .int .i64 q ∧ wq = wr) (fun i _ => L - (intOf i).toNat)
      case atStart => exact ⟨0, Nat.zero_le _, rfl, rfl⟩
      case round =>
        obtain ⟨q, hq, rfl, rfl⟩ := hrel
        have hp := pow_le14 q (by omega)
        have hpc : (2 : Int) ^ q = ((2 ^ q : Nat) : Int) := by norm_cast
        have hlt2 := HLT.out q
        by_cases hqL : q < L
        · have hcmp : (2 : Int) ^ q < (k : Int) := by
            rw [hpc]
            rcases Nat.lt_or_ge (k - 1) (2 ^ q) with h | h
            · exact absurd (hlt2.1 h) (by omega)
            · omega
          clear hpc hlt2
          go_wp2
          go_roundw
          case rel => exact ⟨q + 1, by omega, by go_num, by first | trivial | rfl⟩
          case measure => simp [intOf]; omega
        · obtain rfl : q = L := by omega
          have hcmp : ¬ (2 : Int) ^ q < (k : Int) := by
            rw [hpc]
            have := hlt2.2 (Nat.le_refl _)
            omega
          have HOk := Lib.hid (HO.out A c' _ _ _ HI.out)
          rw [HLn.out] at HOk
          clear hpc hlt2
          go_wp2_with fail
          refine HOk.out.mono ?_
          rintro e w3 ⟨rfl, hq3, hb⟩
          have HQ := Lib.hid hq3
          have HB2 := Lib.hid (below_trans HB.out hb)
          have hsz2 := HB.out.size
          clear hq3 hb
          go_wp2
          go_ret2
          exact lans_qrow (grow5_len _ _ _) rfl hsz2 HQ.out HB2.out
theorem bitScheme_both (n : Int) : ∃ (r0 : List Int) (r1 : Bool), r0.length ≤ 1048576 ∧
    (∀ (w : World), Calls Try.prog 38 #[.int .i64 n] w fun e w' => ∃ B c', e = .returned (.tuple #[.slice B r0.length c', .bool r1]) ∧ Res w' w.heap.size w'.heap.size B r0 ∧ Below w.heap.size w w') ∧
    (∀ (w : World), Calls Try.prog 37 #[.int .i64 n] w fun e w' => ∃ B c', e = .returned (.tuple #[.slice B r0.length c', .bool r1]) ∧ Res w' w.heap.size w'.heap.size B r0 ∧ Below w.heap.size w w') := by
  by_cases h : inB n 1 12 = true
  · have b1 := inB_iff.1 h
    obtain ⟨a, rfl⟩ : ∃ a : Nat, n = (a : Int) := ⟨n.toNat, by omega⟩
    exact ⟨schL (idL a) (Lib.bitLen (a - 1)), true, by have := bitLen_14 (x := a - 1) (by omega); simp only [schL, grow5_len]; omega, fun w => bitScheme_impl a w (by omega), fun w => bitScheme_spec a w (by omega)⟩
  · have h : inB n 1 12 = false := by simpa using h
    have HC := Lib.hid (fun W => isSize_any n W)
    have HF := Lib.hid (fun W => l2Numbers_any n W)
    rw [h] at HC HF
    refine ⟨[], false, by simp, fun w => ?_, fun w => ?_⟩
    · go_enter Try.func38, Try.ntmps38
      go_wp2_with (first | (go_at_call 44; refine (HC.out _).mono ?_; rintro e w1 ⟨rfl, rfl⟩))
      go_ret2
      exact lans_nil (Below.refl _ _)
    · go_enter Try.func37, Try.ntmps37
      go_wp2_with (first | (go_at_call 54; refine (HF.out _).mono ?_; rintro e w1 ⟨rfl, rfl⟩))
      go_ret2
      exact lans_nil (Below.refl _ _)
end Go.Proofs.Ythjkmfjhcohhbaa
