/- BoundOf: both sides. -/
import Derived.Test.YtdolonmjhlhkeaaRoom
namespace Go.Proofs.Ytdolonmjhlhkeaa
open Go.RowKit Go.ChangeShapes Go.WideShapes
set_option linter.unusedVariables false

theorem bound_int {zs : List Int} {M b : Nat} (h1 : stW b M zs ≤ 2 ^ b) (h2 : ∀ j, j < b → ¬ stW j M zs ≤ 2 ^ j) : ((stW b M zs : Nat) : Int) ≤ 2 ^ b ∧ ∀ j, j < b → (2 : Int) ^ j < (stW j M zs : Int) := by
  refine ⟨?_, fun j hj => ?_⟩
  · have := pow_cast b; omega
  · have := pow_cast j
    have := h2 j hj
    omega
set_option maxRecDepth 100000 in
set_option maxHeartbeats 4000000 in
theorem boundOf_impl (A : Option Addr) (c lo hi : Nat) (zs : List Int) (M b : Nat) (w : World) (hS : Ins w lo hi A zs) (hst : isSt zs (M : Int) = true) (hb30 : b ≤ 30) (hb1 : stW b M zs ≤ 2 ^ b) (hb2 : ∀ j, j < b → ¬ stW j M zs ≤ 2 ^ j) :
    Calls Try.prog 36 #[.agg #[.slice A zs.length c, .int .i64 (M : Int)]] w fun e w' => e = .returned (.tuple #[.int .i64 (b : Int), .bool true]) ∧ Below w.heap.size w w' := by
  have HT := Lib.hid (Two.new w (.slice A zs.length c) (.int .i64 (M : Int)) 30 w.heap.size rfl)
  have HB := Lib.hid ((Below.refl w.heap.size w).alloc (Nat.le_refl _) (.cells #[.slice A zs.length c, .int .i64 (M : Int)] 30))
  have HI := Lib.hid (hS.step HB.out)
  have HR := Lib.hid (fun W q hq h => roomOf_impl A c lo hi zs M q W h hst hq)
  have HE := Lib.hid (bound_int hb1 hb2)
  clear hS hst hb1 hb2
  go_enter Try.func36, Try.ntmps36
  go_wp2_with fail
  generalize w.alloc (.cells #[.slice A zs.length c, .int .i64 (M : Int)] 30) = wa at HT HI HB ⊢
  go_loopw [7] (fun i wr => ∃ (k : Nat), k ≤ b ∧ i = .int .i64 k ∧ Hid (Two wr w.heap.size (.slice A zs.length c) (.int .i64 (M : Int)) 30) ∧ Hid (Ins wr lo hi A zs) ∧ Hid (Below w.heap.size w wr)) (fun i _ => b - (intOf i).toNat)
  case atStart => exact ⟨0, Nat.zero_le _, rfl, HT, HI, HB⟩
  case round =>
    clear HT HI HB
    obtain ⟨k, hk, rfl, HT, HI, HB⟩ := hrel
    have h0 := HT.out.c0
    have h1 := HT.out.c1
    have HC := Lib.hid (HR.out wr k (by omega) HI.out)
    by_cases hlt : k < b
    · have hneg : ¬ (0 : Int) ≤ 2 ^ k - (stW k M zs : Int) := by have := HE.out.2 k hlt; omega
      generalize (2 : Int) ^ k - (stW k M zs : Int) = x at HC hneg
      go_wp2_with fail
      refine (HC.out).mono ?_
      rintro e w2 ⟨rfl, hb⟩
      have HT2 := Lib.hid (HT.out.step hb)
      have HI2 := Lib.hid (HI.out.step hb)
      have HB2 := Lib.hid (below_trans HB.out hb)
      clear hb HT HI HB h0 h1
      go_wp2
      go_roundw
      case rel => exact ⟨k + 1, by omega, by go_num, HT2, HI2, HB2⟩
      case measure => simp [intOf]; omega
    · obtain rfl : k = b := by omega
      have hpos : (0 : Int) ≤ 2 ^ k - (stW k M zs : Int) := by have := HE.out.1; omega
      generalize (2 : Int) ^ k - (stW k M zs : Int) = x at HC hpos
      go_wp2_with fail
      refine (HC.out).mono ?_
      rintro e w2 ⟨rfl, hb⟩
      have HB2 := Lib.hid (below_trans HB.out hb)
      clear hb HT HI HB h0 h1
      go_wp2
      go_ret2
      exact ⟨rfl, HB2.out⟩
set_option maxRecDepth 100000 in
set_option maxHeartbeats 4000000 in
theorem boundOf_no (A : Option Addr) (c lo hi : Nat) (zs : List Int) (m : Int) (w : World) (hS : Ins w lo hi A zs) (hn : zs.length ≤ 1048576) (hst : isSt zs m = false) :
    Calls Try.prog 36 #[.agg #[.slice A zs.length c, .int .i64 m]] w fun e w' => e = .returned (.tuple #[.int .i64 0, .bool false]) ∧ Below w.heap.size w w' := by
  have HT := Lib.hid (Two.new w (.slice A zs.length c) (.int .i64 m) 30 w.heap.size rfl)
  have HB := Lib.hid ((Below.refl w.heap.size w).alloc (Nat.le_refl _) (.cells #[.slice A zs.length c, .int .i64 m] 30))
  have HI := Lib.hid (hS.step HB.out)
  have HR := Lib.hid (fun W q h => roomOf_no A c lo hi zs m q W h hn (by simp [wOK, hst]))
  clear hS hst
  go_enter Try.func36, Try.ntmps36
  go_wp2_with fail
  generalize w.alloc (.cells #[.slice A zs.length c, .int .i64 m] 30) = wa at HT HI HB ⊢
  go_loopw [7] (fun i wr => ∃ (k : Nat), k ≤ 31 ∧ i = .int .i64 k ∧ Hid (Two wr w.heap.size (.slice A zs.length c) (.int .i64 m) 30) ∧ Hid (Ins wr lo hi A zs) ∧ Hid (Below w.heap.size w wr)) (fun i _ => 31 - (intOf i).toNat)
  case atStart => exact ⟨0, Nat.zero_le _, rfl, HT, HI, HB⟩
  case round =>
    clear HT HI HB
    obtain ⟨k, hk, rfl, HT, HI, HB⟩ := hrel
    have h0 := HT.out.c0
    have h1 := HT.out.c1
    have HC := Lib.hid (HR.out wr k HI.out)
    by_cases hlt : k < 31
    · go_wp2_with fail
      refine (HC.out).mono ?_
      rintro e w2 ⟨rfl, hb⟩
      have HT2 := Lib.hid (HT.out.step hb)
      have HI2 := Lib.hid (HI.out.step hb)
      have HB2 := Lib.hid (below_trans HB.out hb)
      clear hb HT HI HB h0 h1
      go_wp2
      go_roundw
      case rel => exact ⟨k + 1, by omega, by go_num, HT2, HI2, HB2⟩
      case measure => simp [intOf]; omega
    · obtain rfl : k = 31 := by omega
      go_wp2
      go_ret2
      exact ⟨rfl, HB.out⟩
set_option maxRecDepth 100000 in
set_option maxHeartbeats 4000000 in
theorem boundOf_spec (A : Option Addr) (c lo hi : Nat) (zs : List Int) (M b : Nat) (w : World) (hS : Ins w lo hi A zs) (hst : isSt zs (M : Int) = true) (hb30 : b ≤ 30) (hb1 : stW b M zs ≤ 2 ^ b) (hb2 : ∀ j, j < b → ¬ stW j M zs ≤ 2 ^ j) :
    Calls Try.prog 35 #[.agg #[.slice A zs.length c, .int .i64 (M : Int)]] w fun e w' => e = .returned (.tuple #[.int .i64 (b : Int), .bool true]) ∧ Below w.heap.size w w' := by
  have hl := isSt_len hst
  have HT := Lib.hid (Two.new w (.slice A zs.length c) (.int .i64 (M : Int)) 30 w.heap.size rfl)
  have HB := Lib.hid ((Below.refl w.heap.size w).alloc (Nat.le_refl _) (.cells #[.slice A zs.length c, .int .i64 (M : Int)] 30))
  have HI := Lib.hid (hS.step HB.out)
  have HC := Lib.hid (fun W h => l2State_any A c lo hi zs (M : Int) W h (by omega))
  rw [hst] at HC
  have HR := Lib.hid (fun W q hq h => l3Weight_any A c lo hi zs M q W h hst hq)
  have HE := Lib.hid (bound_int hb1 hb2)
  clear hS hst hb1 hb2 hl
  go_enter Try.func35, Try.ntmps35
  go_wp2_with fail
  generalize w.alloc (.cells #[.slice A zs.length c, .int .i64 (M : Int)] 30) = wa at HT HI HB ⊢
  refine (HC.out wa HI.out).mono ?_
  rintro e wb ⟨rfl, hb⟩
  replace HT := Lib.hid (HT.out.step hb)
  replace HI := Lib.hid (HI.out.step hb)
  replace HB := Lib.hid (below_trans HB.out hb)
  clear hb HC
  go_wp2_with fail
  go_loopw [4] (fun i wr => ∃ (k : Nat), k ≤ b ∧ i = .int .i64 k ∧ Hid (Two wr w.heap.size (.slice A zs.length c) (.int .i64 (M : Int)) 30) ∧ Hid (Ins wr lo hi A zs) ∧ Hid (Below w.heap.size w wr)) (fun i _ => b - (intOf i).toNat)
  case atStart => exact ⟨0, Nat.zero_le _, rfl, HT, HI, HB⟩
  case round =>
    clear HT HI HB
    obtain ⟨k, hk, rfl, HT, HI, HB⟩ := hrel
    have h0 := HT.out.c0
    have h1 := HT.out.c1
    have HP := Lib.hid (IntWalk.i64_in ((2 : Int) ^ k) (by have := pow_le30 k (by omega); omega))
    have HC := Lib.hid (fun W h => HR.out W k (by omega) h)
    by_cases hlt : k < b
    · have hgt : IntKind.i64.wrap ((2 : Int) ^ k) < (stW k M zs : Int) := by rw [HP.out]; exact HE.out.2 k hlt
      generalize ((stW k M zs : Nat) : Int) = x at HC hgt
      go_wp2_with fail
      go_region_with (go_at_call 59; refine (HC.out wr.drew (HI.out.step ((Below.refl _ wr).drew))).mono ?_; rintro e w2 ⟨rfl, hb⟩; have hb' := below_trans ((Below.refl _ wr).drew) hb; have HT2 := Lib.hid (HT.out.step hb'); have HI2 := Lib.hid (HI.out.step hb'); have HB2 := Lib.hid (below_trans HB.out hb'); clear hb hb')
      all_goals
        go_wp2
        go_roundw
        case rel => exact ⟨k + 1, by omega, by go_num, HT2, HI2, HB2⟩
        case measure => simp [intOf]; omega
    · obtain rfl : k = b := by omega
      have hgt : ¬ IntKind.i64.wrap ((2 : Int) ^ k) < (stW k M zs : Int) := by have := HE.out.1; rw [HP.out]; omega
      generalize ((stW k M zs : Nat) : Int) = x at HC hgt
      go_wp2_with fail
      go_region_with (go_at_call 59; refine (HC.out wr.drew (HI.out.step ((Below.refl _ wr).drew))).mono ?_; rintro e w2 ⟨rfl, hb⟩; have hb' := below_trans ((Below.refl _ wr).drew) hb; have HB2 := Lib.hid (below_trans HB.out hb'); clear hb hb')
      all_goals
        go_wp2
        go_ret2
        exact ⟨rfl, HB2.out⟩
set_option maxHeartbeats 4000000 in
theorem boundOf_spec_no (A : Option Addr) (c lo hi : Nat) (zs : List Int) (m : Int) (w : World) (hS : Ins w lo hi A zs) (hn : zs.length ≤ 1048576) (hst : isSt zs m = false) :
    Calls Try.prog 35 #[.agg #[.slice A zs.length c, .int .i64 m]] w fun e w' => e = .returned (.tuple #[.int .i64 0, .bool false]) ∧ Below w.heap.size w w' := by
  have HB := Lib.hid ((Below.refl w.heap.size w).alloc (Nat.le_refl _) (.cells #[.slice A zs.length c, .int .i64 m] 30))
  have HI := Lib.hid (hS.step HB.out)
  have HC := Lib.hid (fun W h => l2State_any A c lo hi zs m W h hn)
  rw [hst] at HC
  clear hS hst
  go_enter Try.func35, Try.ntmps35
  go_wp2_with fail
  generalize w.alloc (.cells #[.slice A zs.length c, .int .i64 m] 30) = wa at HI HB ⊢
  refine (HC.out wa HI.out).mono ?_
  rintro e wb ⟨rfl, hb⟩
  replace HB := Lib.hid (below_trans HB.out hb)
  clear hb HC
  go_wp2
  go_ret2
  exact ⟨rfl, HB.out⟩
/-- What BoundOf answers. -/
theorem boundOf_both (zs : List Int) (m : Int) (h : zs.length ≤ 1048576) : ∃ (r0 : Int) (r1 : Bool),
    (∀ (w : World) (B : Option Addr) (c lo hi : Nat), Ins w lo hi B zs → Calls Try.prog 36 #[.agg #[.slice B zs.length c, .int .i64 m]] w fun e w' => e = .returned (.tuple #[.int .i64 r0, .bool r1]) ∧ Below w.heap.size w w') ∧
    (∀ (w : World) (B : Option Addr) (c lo hi : Nat), Ins w lo hi B zs → Calls Try.prog 35 #[.agg #[.slice B zs.length c, .int .i64 m]] w fun e w' => e = .returned (.tuple #[.int .i64 r0, .bool r1]) ∧ Below w.heap.size w w') := by
  cases hst : isSt zs m with
  | true =>
    have hl := isSt_len hst
    obtain ⟨M, rfl⟩ : ∃ M : Nat, m = (M : Int) := ⟨m.toNat, by omega⟩
    obtain ⟨b, h30, h1, h2⟩ := bound_ex M zs (by omega) hl.2.1
    exact ⟨b, true, fun w B c lo hi hI => boundOf_impl B c lo hi zs M b w hI hst h30 h1 h2, fun w B c lo hi hI => boundOf_spec B c lo hi zs M b w hI hst h30 h1 h2⟩
  | false => exact ⟨0, false, fun w B c lo hi hI => boundOf_no B c lo hi zs m w hI h hst, fun w B c lo hi hI => boundOf_spec_no B c lo hi zs m w hI h hst⟩
end Go.Proofs.Ytdolonmjhlhkeaa
