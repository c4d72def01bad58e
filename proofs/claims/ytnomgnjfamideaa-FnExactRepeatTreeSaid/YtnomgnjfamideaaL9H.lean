/- Trees of questions: halving trees and repeated questions, of both sides. -/
import Derived.Test.YtnomgnjfamideaaL9J
import Derived.Test.YtnomgnjfamideaaStart
import Derived.WalkMore
import Derived.IntWalk
namespace Go.Proofs.Ytnomgnjfamideaa
open Go.RowKit Go.ChangeShapes Go.WideShapes Go.Maps
set_option linter.unusedVariables false

theorem elem_ints9 : Try.prog.underlying 33 = some (.slice (Try.prog.elem 33)) := by kernel_rfl
theorem elem_int9 : Try.prog.elem 33 = 3 := by kernel_rfl
theorem size_int9 (w : World) : (sizeOf 3).run Try.prog w = .ok 1 w := by kernel_rfl
theorem addr_zero9 (A : Option Addr) : A.map (·.add 0) = A := by
  cases A with
  | none => rfl
  | some a => simp [Addr.add]
theorem slice_to9 (A : Option Addr) (n c k : Nat) (h : k ≤ c) (w : World) : (Instr.slice 33 (.slice A n c) none (some (.int .i64 (k : Int))) none).run Try.prog w = .ok (.slice A k c) w := by
  rw [run_slice_h (P := Try.prog) w 33 A n c elem_ints9 .i64 (k : Int) (by omega) (by omega), elem_int9, size_int9]
  simp only [Result.andThen, sliced, Int.toNat_natCast, Nat.zero_mul, addr_zero9, Nat.sub_zero, ite_self]
theorem Ins.take9 {w : World} {lo hi : Nat} {A : Option Addr} {qs : List Int} (h : Ins w lo hi A qs) (k : Nat) : Ins w lo hi A (qs.take k) :=
  ⟨fun h0 => by
    obtain ⟨b, o, e, h1, h2, hc⟩ := h.ints (by rw [List.length_take] at h0; omega)
    refine ⟨b, o, e, h1, h2, fun j x hx => hc j x ?_⟩
    have hj : j < k := by
      rcases Nat.lt_or_ge j (qs.take k).length with hl | hl
      · rw [List.length_take] at hl; omega
      · rw [List.getElem?_eq_none hl] at hx; cases hx
    rwa [List.getElem?_take_of_lt hj] at hx, h.top⟩
def fromA9 (A : Option Addr) (c k : Nat) : Option Addr := if c = k then A else A.map (·.add k)
theorem slice_from9 (A : Option Addr) (n c k : Nat) (h : k ≤ n) (w : World) : (Instr.slice 33 (.slice A n c) (some (.int .i64 (k : Int))) none none).run Try.prog w = .ok (.slice (fromA9 A c k) (n - k) (c - k)) w := by
  rw [run_slice_l (P := Try.prog) w 33 A n c elem_ints9 .i64 (k : Int) (by omega) (by omega), elem_int9, size_int9]
  simp only [Result.andThen, sliced, Int.toNat_natCast, Nat.mul_one, fromA9]
theorem Ins.from9 {w : World} {lo hi : Nat} {A : Option Addr} {qs : List Int} (h : Ins w lo hi A qs) (k c : Nat) (hc : qs.length ≤ c) : Ins w lo hi (fromA9 A c k) (qs.drop k) :=
  ⟨fun h0 => by
    rw [List.length_drop] at h0
    obtain ⟨b, o, rfl, h1, h2, hcell⟩ := h.ints (by omega)
    refine ⟨b, o + k, ?_, h1, h2, fun j x hx => ?_⟩
    · unfold fromA9
      rw [if_neg (by omega)]
      by_cases hk : k = 0
      · subst hk; simp [Addr.add]
      · simp [Addr.add, hk]
    · rw [List.getElem?_drop] at hx
      have := hcell (k + j) x hx
      rwa [← Nat.add_assoc] at this, h.top⟩
theorem lessThan9_any (k : Nat) (w : World) (hk : k ≤ 12) :
    Calls Try.prog 112 #[.int .i64 (k : Int)] w fun e w' => e = .returned (.int .i64 ((2 : Int) ^ k - 1)) ∧ w' = w := by
  have hp := pow_le k hk
  have HP := Lib.hid (wrap_pow k hk)
  go_enter Try.func112, Try.ntmps112
  go_wp2
  go_ret
  exact ⟨by first | rfl | rw [HP.out], rfl⟩

theorem or_step9 : ∀ a, a < 12 → ∀ lo, lo < a + 1 → bits .or .i64 ((2 : Int) ^ a - 2 ^ lo) (2 ^ a) = 2 ^ (a + 1) - 2 ^ lo := by decide +kernel
theorem pow_mono9 : ∀ a, a < 13 → ∀ lo, lo < a + 1 → (2 : Int) ^ lo ≤ 2 ^ a := by decide +kernel
/-- The numbers from one on. -/
def rng9 (lo many : Nat) : List Int := (List.range many).map fun i => ((lo + i : Nat) : Int)
theorem rng9_len (lo many : Nat) : (rng9 lo many).length = many := by simp [rng9]
theorem rng9_at {lo many k : Nat} (h : k < (rng9 lo many).length) : (rng9 lo many)[k] = ((lo + k : Nat) : Int) := by simp [rng9]
theorem rng9_take {lo many k : Nat} (h : k ≤ many) : (rng9 lo many).take k = rng9 lo k := by
  apply List.ext_getElem
  · rw [List.length_take, rng9_len, rng9_len]; omega
  · intro i h1 h2
    rw [List.getElem_take, rng9_at, rng9_at]
theorem rng9_drop {lo many k : Nat} (h : k ≤ many) : (rng9 lo many).drop k = rng9 (lo + k) (many - k) := by
  apply List.ext_getElem
  · rw [List.length_drop, rng9_len, rng9_len]
  · intro i h1 h2
    rw [List.getElem_drop, rng9_at, rng9_at, Nat.add_assoc]
theorem halv9_one (f lo : Nat) : halv9 f lo 1 = .leaf := by
  cases f with
  | zero => rfl
  | succ f => unfold halv9; rw [if_pos (Nat.le_refl _)]
theorem halv9_br {f lo many : Nat} (h : 2 ≤ many) : halv9 (f + 1) lo many = .br (2 ^ (lo + (many + 1) / 2) - 2 ^ lo) (halv9 f lo ((many + 1) / 2)) (halv9 f (lo + (many + 1) / 2) (many / 2)) := by
  conv => lhs; unfold halv9
  rw [if_neg (by omega)]
theorem halv9_size : ∀ (f lo many : Nat), 1 ≤ many → many ≤ f → (halv9 f lo many).size + 1 = 2 * many
  | 0, lo, many, h1, h2 => by omega
  | f + 1, lo, many, h1, h2 => by
    by_cases h : many = 1
    · subst h; rw [halv9_one]; rfl
    · rw [halv9_br (by omega)]
      have e1 := halv9_size f lo ((many + 1) / 2) (by omega) (by omega)
      have e2 := halv9_size f (lo + (many + 1) / 2) (many / 2) (by omega) (by omega)
      simp only [T9.size]
      omega
set_option maxRecDepth 100000 in
set_option maxHeartbeats 8000000 in
theorem halving_any : ∀ (f lo many : Nat) (L H : Int) (w : World), 1 ≤ many → many ≤ f → lo + many ≤ 12 → L = (lo : Int) → H = ((lo + many : Nat) : Int) →
    Calls Try.prog 90 #[.int .i64 L, .int .i64 H] w fun e w' => ∃ v, e = .returned (.pointer v) ∧ BrI w' w'.heap.size (halv9 f lo many) v ∧ Below w.heap.size w w'
  | 0, lo, many, L, H, w, h1, h2, h3, hL, hH => by omega
  | f + 1, lo, many, L, H, w, h1, h2, h3, hL, hH => by
    have hd : H - L = (many : Int) := by omega
    have hL0 : 0 ≤ L := by omega
    have hL12 : L ≤ 12 := by omega
    have hH12 : H ≤ 12 := by omega
    have hH0 : 0 ≤ H := by omega
    by_cases hm : many = 1
    · subst hm
      have HE := Lib.hid (halv9_one (f + 1) lo)
      rw [show ((1 : Nat) : Int) = 1 from rfl] at hd
      clear hL hH
      go_enter Try.func90, Try.ntmps90
      go_wp2
      go_ret
      rw [HE.out]
      exact ⟨_, rfl, ⟨rfl, Nat.le_refl _⟩, Below.refl _ _⟩
    · have HE := Lib.hid (halv9_br (f := f) (lo := lo) (show 2 ≤ many by omega))
      obtain ⟨hf, hhf⟩ : ∃ hf : Nat, hf = (many + 1) / 2 := ⟨_, rfl⟩
      rw [← hhf] at HE
      obtain ⟨M, hM⟩ : ∃ M : Int, M = ((lo + hf : Nat) : Int) := ⟨_, rfl⟩
      have hq : ((many : Int) + 1) / 2 = (hf : Int) := by omega
      have hs : L + (hf : Int) = M := by omega
      have hM0 : 0 ≤ M := by omega
      have hM12 : M ≤ 12 := by omega
      have HT1 := Lib.hid (fun W => lessThan9_any (lo + hf) W (by omega))
      have HT2 := Lib.hid (fun W => lessThan9_any lo W (by omega))
      rw [← hM] at HT1
      rw [← hL] at HT2
      have IH1 := Lib.hid (fun W => halving_any f lo hf L M W (by omega) (by omega) (by omega) hL hM)
      have IH2 := Lib.hid (fun W => halving_any f (lo + hf) (many / 2) M H W (by omega) (by omega) (by omega) hM (by omega))
      have hp1 := pow_mono9 (lo + hf) (by omega) lo (by omega)
      have hp2 := (pow_le lo (by omega)).1
      have hp3 := (pow_le (lo + hf) (by omega)).2
      have hm2 : ¬ (many : Int) = 1 := by omega
      have hmb : ((many : Int) == 1) = false := by simpa using hm2
      generalize (2 : Int) ^ (lo + hf) = P1 at HT1 HE hp1 hp3
      generalize (2 : Int) ^ lo = P2 at HT2 HE hp1 hp2
      have hPP : P1 - 1 - (P2 - 1) = P1 - P2 := by omega
      have hm3 : 2 ≤ many := by omega
      have hhd := Lib.hid hd
      clear hL hH hhf hM
      go_enter Try.func90, Try.ntmps90
      go_wp2_with (first | (go_at_call 112; (with_reducible refine (HT1.out _).mono ?_); rintro e wX ⟨rfl, hw⟩; have hw := hw.symm; subst hw) | (go_at_call 112; (with_reducible refine (HT2.out _).mono ?_); rintro e wX ⟨rfl, hw⟩; have hw := hw.symm; subst hw))
      with_reducible refine (IH1.out _).mono ?_
      rintro e w1 ⟨vy, rfl, hy, hb⟩
      have HB := Lib.hid hb
      have HY := Lib.hid hy
      clear hb hy
      go_wp2_with fail
      with_reducible refine (IH2.out _).mono ?_
      rintro e w2 ⟨vm, rfl, hy, hb⟩
      replace HB := Lib.hid (below_trans HB.out hb)
      replace HY := Lib.hid (HY.out.step hb)
      have HM := Lib.hid hy
      clear hb hy
      go_wp2
      go_ret
      have hbz := (Below.refl w2.heap.size w2).alloc (Nat.le_refl _) (.cells #[.int .i64 (P1 - P2), .pointer vy, .pointer vm] 120)
      refine ⟨_, rfl, ?_, below_trans HB.out hbz⟩
      rw [HE.out]
      exact (HY.out.step hbz).joined (HM.out.step hbz) (Three.new w2 (.int .i64 (P1 - P2)) (.pointer vy) (.pointer vm) 120 w2.heap.size rfl)
set_option maxRecDepth 100000 in
set_option maxHeartbeats 8000000 in
theorem repeated_any (q : Int) (T : Nat) (w : World) (hT : T ≤ 6) :
    Calls Try.prog 96 #[.int .i64 q, .int .i64 (T : Int)] w fun e w' => ∃ v, e = .returned (.pointer v) ∧ BrI w' w'.heap.size (rep9 q T) v ∧ Below w.heap.size w w' := by
  have h0 : Hid (BrI w w.heap.size (rep9 q 0) none) := Lib.hid ⟨rfl, Nat.le_refl _⟩
  have HB := Lib.hid (Below.refl w.heap.size w)
  have HN : Hid (∀ k, rep9 q (k + 1) = .br q (rep9 q k) (rep9 q k)) := Lib.hid (fun _ => rfl)
  go_enter Try.func96, Try.ntmps96
  go_wp2_with fail
  go_loopw [5, 7] (fun v i wr => ∃ (k : Nat) (p : Option Addr), k ≤ T ∧ i = .int .i64 (k : Int) ∧ v = .pointer p ∧ Hid (BrI wr wr.heap.size (rep9 q k) p) ∧ Hid (Below w.heap.size w wr)) (fun _ i _ => T - (intOf i).toNat)
  case atStart => exact ⟨0, none, Nat.zero_le _, rfl, rfl, h0, HB⟩
  case round =>
    clear h0 HB
    obtain ⟨k, p, hk, rfl, rfl, HP, HB⟩ := hrel
    rename World => wr
    by_cases hlt : k < T
    · have hki : (k : Int) < (T : Int) := by omega
      have hbz := (Below.refl wr.heap.size wr).alloc (Nat.le_refl _) (.cells #[.int .i64 q, .pointer p, .pointer p] 120)
      have HP2 : Hid (BrI (wr.alloc (.cells #[.int .i64 q, .pointer p, .pointer p] 120)) (wr.alloc (.cells #[.int .i64 q, .pointer p, .pointer p] 120)).heap.size (rep9 q (k + 1)) (some ⟨wr.heap.size, 0, none⟩)) := Lib.hid (by rw [HN.out]; exact (HP.out.step hbz).joined (HP.out.step hbz) (Three.new wr _ _ _ 120 wr.heap.size rfl))
      have HB2 := Lib.hid (below_trans HB.out hbz)
      clear hbz HP HB
      go_wp2
      go_roundw
      case rel => exact ⟨k + 1, _, by omega, by go_num, rfl, HP2, HB2⟩
      case measure => simp [intOf]; omega
    · obtain rfl : k = T := by omega
      go_wp2
      go_ret
      exact ⟨p, rfl, HP.out, HB.out⟩
set_option maxRecDepth 100000 in
set_option maxHeartbeats 8000000 in
theorem halvingTree_impl_no (n : Int) (w : World) (hn : inB n 1 12 = false) :
    Calls Try.prog 52 #[.int .i64 n] w fun e w' => e = .returned (.tuple #[.agg #[.slice none 0 0], .bool false]) ∧ Below w.heap.size w w' := by
  have HR := Lib.hid (One.new w (.slice none 0 0) 29 w.heap.size rfl)
  have HB := Lib.hid ((Below.refl w.heap.size w).alloc (Nat.le_refl _) (.cells #[.slice none 0 0] 29))
  have HZ := Lib.hid (fun W => isSize_any n W)
  rw [hn] at HZ
  clear hn
  go_enter Try.func52, Try.ntmps52
  go_wp2_with fail
  generalize w.alloc (.cells #[.slice none 0 0] 29) = w0 at HR HB ⊢
  with_reducible refine (HZ.out _).mono ?_
  rintro e wX ⟨rfl, hw⟩
  have hw := hw.symm
  subst hw
  have r0 := HR.out.c0
  have rf0 := HR.out.f0
  obtain ⟨hs, hw⟩ := stored1 HR.out (.slice none 0 0)
  have e0 := hs.c0
  have HF := Lib.hid (HB.out.trans (hw.below (Nat.le_refl _) HB.out.size))
  clear hs hw
  go_wp2
  refine bodyPost_ret (v := .tuple #[.agg #[.slice none 0 0], .bool false]) (by simp [results, go_sem, e0]) rfl ?_
  exact ⟨rfl, HF.out⟩
set_option maxRecDepth 100000 in
set_option maxHeartbeats 8000000 in
theorem halvingTree_spec_no (n : Int) (w : World) (hn : inB n 1 12 = false) :
    Calls Try.prog 51 #[.int .i64 n] w fun e w' => e = .returned (.tuple #[.agg #[.slice none 0 0], .bool false]) ∧ Below w.heap.size w w' := by
  have HR := Lib.hid (One.new w (.slice none 0 0) 29 w.heap.size rfl)
  have HB := Lib.hid ((Below.refl w.heap.size w).alloc (Nat.le_refl _) (.cells #[.slice none 0 0] 29))
  have HZ := Lib.hid (fun W => l2Numbers_any n W)
  rw [hn] at HZ
  clear hn
  go_enter Try.func51, Try.ntmps51
  go_wp2_with fail
  generalize w.alloc (.cells #[.slice none 0 0] 29) = w0 at HR HB ⊢
  with_reducible refine (HZ.out _).mono ?_
  rintro e wX ⟨rfl, hw⟩
  have hw := hw.symm
  subst hw
  have r0 := HR.out.c0
  have rf0 := HR.out.f0
  obtain ⟨hs, hw⟩ := stored1 HR.out (.slice none 0 0)
  have e0 := hs.c0
  have HF := Lib.hid (HB.out.trans (hw.below (Nat.le_refl _) HB.out.size))
  clear hs hw
  go_wp2
  refine bodyPost_ret (v := .tuple #[.agg #[.slice none 0 0], .bool false]) (by simp [results, go_sem, e0]) rfl ?_
  exact ⟨rfl, HF.out⟩
set_option maxRecDepth 100000 in
set_option maxHeartbeats 8000000 in
theorem halvingTree_impl (N : Nat) (w : World) (hN : 1 ≤ N ∧ N ≤ 12) :
    Calls Try.prog 52 #[.int .i64 (N : Int)] w fun e w' => ∃ B d, e = .returned (.tuple #[.agg #[.slice B (tell9 (halv9 N 0 N) 0).length d], .bool true]) ∧ NMade w' w.heap.size w'.heap.size B (tell9 (halv9 N 0 N) 0) ∧ Below w.heap.size w w' := by
  have HR := Lib.hid (One.new w (.slice none 0 0) 29 w.heap.size rfl)
  have HB := Lib.hid ((Below.refl w.heap.size w).alloc (Nat.le_refl _) (.cells #[.slice none 0 0] 29))
  have HZ := Lib.hid (fun W => isSize_any (N : Int) W)
  rw [inB_t (show (1 : Int) ≤ (N : Int) by omega) (show (N : Int) ≤ 12 by omega)] at HZ
  have HC := Lib.hid (fun W => halving_any N 0 N 0 (N : Int) W hN.1 (Nat.le_refl _) (by omega) rfl (by omega))
  have HO := Lib.hid (fun W hi v h => treeOf_any (halv9 N 0 N) v W hi h (by have := halv9_size N 0 N hN.1 (Nat.le_refl _); omega))
  generalize halv9 N 0 N = tr at HC HO ⊢
  go_enter Try.func52, Try.ntmps52
  go_wp2_with fail
  generalize w.alloc (.cells #[.slice none 0 0] 29) = w0 at HR HB ⊢
  with_reducible refine (HZ.out _).mono ?_
  rintro e wX ⟨rfl, hw⟩
  have hw := hw.symm
  subst hw
  go_wp2_with fail
  with_reducible refine (HC.out _).mono ?_
  rintro e w1 ⟨v, rfl, hv, hb⟩
  replace HB := Lib.hid (below_trans HB.out hb)
  replace HR := Lib.hid (HR.out.step hb)
  have HV := Lib.hid hv
  clear hv
  clear hb
  have hrl := HR.out.lt
  go_wp2_with fail
  with_reducible refine (HO.out _ _ _ HV.out).mono ?_
  rintro e w2 ⟨At, dt, rfl, hm, hb⟩
  replace HB := Lib.hid (below_trans HB.out hb)
  replace HR := Lib.hid (HR.out.step hb)
  have HM := Lib.hid hm
  clear hm HV
  clear hb
  have r0 := HR.out.c0
  have rf0 := HR.out.f0
  obtain ⟨hs, hw⟩ := stored1 HR.out (.slice At (tell9 tr 0).length dt)
  have e0 := hs.c0
  have hbs := HB.out.size
  have HF := Lib.hid (HB.out.trans (hw.below (Nat.le_refl _) HB.out.size))
  have HM2 := Lib.hid (HM.out.within hw (.inr (by omega)))
  clear hs hw
  go_wp2
  refine bodyPost_ret (v := .tuple #[.agg #[.slice At (tell9 tr 0).length dt], .bool true]) (by simp [results, go_sem, e0]) rfl ?_
  have HM3 := HM2.out.wide (lo' := w.heap.size) (by omega) HM2.out.top (Nat.le_refl _)
  first | exact ⟨_, _, rfl, HM3, HF.out⟩ | exact ⟨rfl, HM3, HF.out⟩ | exact ⟨HM3, HF.out⟩ | exact ⟨_, ⟨_, rfl⟩, HM3, HF.out⟩ | exact ⟨⟨_, rfl⟩, HM3, HF.out⟩
set_option maxRecDepth 100000 in
set_option maxHeartbeats 8000000 in
theorem repeatTree_impl_q (n q T : Int) (w : World) (hq : qOK n q = false) :
    Calls Try.prog 55 #[.int .i64 n, .int .i64 q, .int .i64 T] w fun e w' => e = .returned (.tuple #[.agg #[.slice none 0 0], .bool false]) ∧ Below w.heap.size w w' := by
  have HR := Lib.hid (One.new w (.slice none 0 0) 29 w.heap.size rfl)
  have HB := Lib.hid ((Below.refl w.heap.size w).alloc (Nat.le_refl _) (.cells #[.slice none 0 0] 29))
  have HQ := Lib.hid (fun W => isQuestion_any n q W)
  rw [hq] at HQ
  clear hq
  go_enter Try.func55, Try.ntmps55
  go_wp2_with fail
  generalize w.alloc (.cells #[.slice none 0 0] 29) = w0 at HR HB ⊢
  with_reducible refine (HQ.out _).mono ?_
  rintro e wX ⟨rfl, hw⟩
  have hw := hw.symm
  subst hw
  have r0 := HR.out.c0
  have rf0 := HR.out.f0
  obtain ⟨hs, hw⟩ := stored1 HR.out (.slice none 0 0)
  have e0 := hs.c0
  have HF := Lib.hid (HB.out.trans (hw.below (Nat.le_refl _) HB.out.size))
  clear hs hw
  go_wp2
  refine bodyPost_ret (v := .tuple #[.agg #[.slice none 0 0], .bool false]) (by simp [results, go_sem, e0]) rfl ?_
  exact ⟨rfl, HF.out⟩
set_option maxRecDepth 100000 in
set_option maxHeartbeats 8000000 in
theorem repeatTree_impl_neg (n q T : Int) (w : World) (hq : qOK n q = true) (ht : T < 0) :
    Calls Try.prog 55 #[.int .i64 n, .int .i64 q, .int .i64 T] w fun e w' => e = .returned (.tuple #[.agg #[.slice none 0 0], .bool false]) ∧ Below w.heap.size w w' := by
  have HR := Lib.hid (One.new w (.slice none 0 0) 29 w.heap.size rfl)
  have HB := Lib.hid ((Below.refl w.heap.size w).alloc (Nat.le_refl _) (.cells #[.slice none 0 0] 29))
  have HQ := Lib.hid (fun W => isQuestion_any n q W)
  rw [hq] at HQ
  clear hq
  go_enter Try.func55, Try.ntmps55
  go_wp2_with fail
  generalize w.alloc (.cells #[.slice none 0 0] 29) = w0 at HR HB ⊢
  with_reducible refine (HQ.out _).mono ?_
  rintro e wX ⟨rfl, hw⟩
  have hw := hw.symm
  subst hw
  have r0 := HR.out.c0
  have rf0 := HR.out.f0
  obtain ⟨hs, hw⟩ := stored1 HR.out (.slice none 0 0)
  have e0 := hs.c0
  have HF := Lib.hid (HB.out.trans (hw.below (Nat.le_refl _) HB.out.size))
  clear hs hw
  go_wp2
  refine bodyPost_ret (v := .tuple #[.agg #[.slice none 0 0], .bool false]) (by simp [results, go_sem, e0]) rfl ?_
  exact ⟨rfl, HF.out⟩
set_option maxRecDepth 100000 in
set_option maxHeartbeats 8000000 in
theorem repeatTree_impl_big (n q T : Int) (w : World) (hq : qOK n q = true) (ht : ¬ T < 0) (ht2 : 6 < T) :
    Calls Try.prog 55 #[.int .i64 n, .int .i64 q, .int .i64 T] w fun e w' => e = .returned (.tuple #[.agg #[.slice none 0 0], .bool false]) ∧ Below w.heap.size w w' := by
  have HR := Lib.hid (One.new w (.slice none 0 0) 29 w.heap.size rfl)
  have HB := Lib.hid ((Below.refl w.heap.size w).alloc (Nat.le_refl _) (.cells #[.slice none 0 0] 29))
  have HQ := Lib.hid (fun W => isQuestion_any n q W)
  rw [hq] at HQ
  clear hq
  go_enter Try.func55, Try.ntmps55
  go_wp2_with fail
  generalize w.alloc (.cells #[.slice none 0 0] 29) = w0 at HR HB ⊢
  with_reducible refine (HQ.out _).mono ?_
  rintro e wX ⟨rfl, hw⟩
  have hw := hw.symm
  subst hw
  have r0 := HR.out.c0
  have rf0 := HR.out.f0
  obtain ⟨hs, hw⟩ := stored1 HR.out (.slice none 0 0)
  have e0 := hs.c0
  have HF := Lib.hid (HB.out.trans (hw.below (Nat.le_refl _) HB.out.size))
  clear hs hw
  go_wp2
  refine bodyPost_ret (v := .tuple #[.agg #[.slice none 0 0], .bool false]) (by simp [results, go_sem, e0]) rfl ?_
  exact ⟨rfl, HF.out⟩
set_option maxRecDepth 100000 in
set_option maxHeartbeats 8000000 in
theorem repeatTree_impl (n q : Int) (T : Nat) (w : World) (hq : qOK n q = true) (hT : T ≤ 6) :
    Calls Try.prog 55 #[.int .i64 n, .int .i64 q, .int .i64 (T : Int)] w fun e w' => ∃ B d, e = .returned (.tuple #[.agg #[.slice B (tell9 (rep9 q T) 0).length d], .bool true]) ∧ NMade w' w.heap.size w'.heap.size B (tell9 (rep9 q T) 0) ∧ Below w.heap.size w w' := by
  have HR := Lib.hid (One.new w (.slice none 0 0) 29 w.heap.size rfl)
  have HB := Lib.hid ((Below.refl w.heap.size w).alloc (Nat.le_refl _) (.cells #[.slice none 0 0] 29))
  have HQ := Lib.hid (fun W => isQuestion_any n q W)
  rw [hq] at HQ
  have HC := Lib.hid (fun W => repeated_any q T W hT)
  have hT0 : ¬ (T : Int) < 0 := by omega
  have hT6 : ¬ 6 < (T : Int) := by omega
  have hT7 : ¬ 6 < T := by omega
  have HO := Lib.hid (fun W hi v h => treeOf_any (rep9 q T) v W hi h (by have h1 := rep9_size q T; have h2 := Nat.pow_le_pow_right (show 0 < 2 by omega) (show T + 1 ≤ 7 by omega); omega))
  generalize rep9 q T = tr at HC HO ⊢
  clear hq
  go_enter Try.func55, Try.ntmps55
  go_wp2_with fail
  generalize w.alloc (.cells #[.slice none 0 0] 29) = w0 at HR HB ⊢
  with_reducible refine (HQ.out _).mono ?_
  rintro e wX ⟨rfl, hw⟩
  have hw := hw.symm
  subst hw
  go_wp2_with fail
  with_reducible refine (HC.out _).mono ?_
  rintro e w1 ⟨v, rfl, hv, hb⟩
  replace HB := Lib.hid (below_trans HB.out hb)
  replace HR := Lib.hid (HR.out.step hb)
  have HV := Lib.hid hv
  clear hv
  clear hb
  have hrl := HR.out.lt
  go_wp2_with fail
  with_reducible refine (HO.out _ _ _ HV.out).mono ?_
  rintro e w2 ⟨At, dt, rfl, hm, hb⟩
  replace HB := Lib.hid (below_trans HB.out hb)
  replace HR := Lib.hid (HR.out.step hb)
  have HM := Lib.hid hm
  clear hm HV
  clear hb
  have r0 := HR.out.c0
  have rf0 := HR.out.f0
  obtain ⟨hs, hw⟩ := stored1 HR.out (.slice At (tell9 tr 0).length dt)
  have e0 := hs.c0
  have hbs := HB.out.size
  have HF := Lib.hid (HB.out.trans (hw.below (Nat.le_refl _) HB.out.size))
  have HM2 := Lib.hid (HM.out.within hw (.inr (by omega)))
  clear hs hw
  go_wp2
  refine bodyPost_ret (v := .tuple #[.agg #[.slice At (tell9 tr 0).length dt], .bool true]) (by simp [results, go_sem, e0]) rfl ?_
  have HM3 := HM2.out.wide (lo' := w.heap.size) (by omega) HM2.out.top (Nat.le_refl _)
  first | exact ⟨_, _, rfl, HM3, HF.out⟩ | exact ⟨rfl, HM3, HF.out⟩ | exact ⟨HM3, HF.out⟩ | exact ⟨_, ⟨_, rfl⟩, HM3, HF.out⟩ | exact ⟨⟨_, rfl⟩, HM3, HF.out⟩
end Go.Proofs.Ytnomgnjfamideaa
