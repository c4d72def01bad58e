/- AreCounts: of impl, of spec. -/
import Derived.Test.YthpnkeecpaflfaaNeed2
import Derived.Test.YthpnkeecpaflfaaState
namespace Go.Proofs.Ythpnkeecpaflfaa
open Go.RowKit Go.ChangeShapes Go.WideShapes
set_option linter.unusedVariables false

theorem sumI_take {zs : List Int} {k : Nat} (h : k < zs.length) : sumI (zs.take (k + 1)) = sumI (zs.take k) + zs[k] := by
  induction zs generalizing k with
  | nil => simp at h
  | cons x l ih =>
    cases k with
    | zero => simp [sumI]
    | succ k =>
      simp only [List.take_succ_cons, sumI, List.getElem_cons_succ]
      rw [ih (by simpa using h)]
      omega
theorem sumI_pos {zs : List Int} (h : ∀ x ∈ zs, 0 ≤ x) : 0 ≤ sumI zs := by
  induction zs with
  | nil => simp [sumI]
  | cons x l ih =>
    have h1 := h x (by simp)
    have h2 := ih (fun y hy => h y (by simp [hy]))
    simp only [sumI]; omega
theorem sumI_part {zs : List Int} (h : ∀ x ∈ zs, 0 ≤ x) (k : Nat) : sumI (zs.take k) ≤ sumI zs := by
  induction zs generalizing k with
  | nil => simp [sumI]
  | cons x l ih =>
    cases k with
    | zero => simp only [List.take_zero, sumI]; have h1 := h x (by simp); have := sumI_pos (zs := l) (fun y hy => h y (by simp [hy])); omega
    | succ k =>
      have := ih (fun y hy => h y (by simp [hy])) k
      simp only [List.take_succ_cons, sumI]; omega
theorem cOK_all {zs : List Int} (h : cOK zs = true) : 1 ≤ zs.length ∧ zs.length ≤ 3 ∧ (∀ x ∈ zs, 0 ≤ x) ∧ sumI zs ≤ 8 := by
  simp only [cOK, Bool.and_eq_true, decide_eq_true_eq, List.all_eq_true] at h
  exact ⟨h.1.1.1, h.1.1.2, h.1.2, h.2⟩
theorem cOK_len {zs : List Int} (h : ¬ (1 ≤ zs.length ∧ zs.length ≤ 3)) : cOK zs = false := by
  rw [Bool.eq_false_iff]
  intro hc
  have := cOK_all hc
  exact h ⟨this.1, this.2.1⟩
/-- The first k are counts. -/
structure CT (zs : List Int) (k : Nat) : Prop where
  pos : ∀ j (h : j < zs.length), j < k → 0 ≤ zs[j]
theorem CT.zero {zs : List Int} : CT zs 0 := ⟨fun j _ h => absurd h (by omega)⟩
theorem CT.step {zs : List Int} {k : Nat} (h : CT zs k) (hk : k < zs.length) (hx : 0 ≤ zs[k]) : CT zs (k + 1) := ⟨fun j hj hl => by
  by_cases e : j = k
  · subst e; exact hx
  · exact h.pos j hj (by omega)⟩
theorem CT.done {zs : List Int} (h : CT zs zs.length) (h1 : 1 ≤ zs.length) (h3 : zs.length ≤ 3) : cOK zs = decide (sumI zs ≤ 8) := by
  have : zs.all (fun x => decide (0 ≤ x)) = true := by
    rw [List.all_eq_true]
    intro z hz
    obtain ⟨j, hj, rfl⟩ := List.getElem_of_mem hz
    simpa using h.pos j hj hj
  simp [cOK, this, h1, h3]
theorem cOK_neg {zs : List Int} {k : Nat} (hk : k < zs.length) (hx : ¬ 0 ≤ zs[k]) : cOK zs = false := by
  rw [Bool.eq_false_iff]
  intro hc
  exact hx ((cOK_all hc).2.2.1 _ (List.getElem_mem hk))
theorem cOK_big {zs : List Int} {k : Nat} (hx : 8 < sumI (zs.take k)) : cOK zs = false := by
  rw [Bool.eq_false_iff]
  intro hc
  have := cOK_all hc
  have := sumI_part this.2.2.1 k
  omega
theorem cOK_elem {zs : List Int} (h : cOK zs = true) {k : Nat} (hk : k < zs.length) : 0 ≤ zs[k] ∧ zs[k] ≤ 8 := by
  have hc := cOK_all h
  have h1 := sumI_part hc.2.2.1 (k + 1)
  rw [sumI_take hk] at h1
  have h2 : 0 ≤ sumI (zs.take k) := sumI_pos (fun x hx => hc.2.2.1 x (List.mem_of_mem_take hx))
  exact ⟨hc.2.2.1 _ (List.getElem_mem hk), by omega⟩

set_option maxHeartbeats 2000000 in
theorem areCounts_impl (A : Option Addr) (c lo hi : Nat) (zs : List Int) (w : World) (hS : Ins w lo hi A zs) (hn : zs.length ≤ 1048576) :
    Calls Try.prog 45 #[.slice A zs.length c] w fun e w' => e = .returned (.bool (cOK zs)) ∧ w' = w := by
  have HS := Lib.hid hS
  clear hS
  by_cases h1 : 1 ≤ zs.length
  · by_cases h3 : zs.length ≤ 3
    · go_enter Try.func45, Try.ntmps45
      go_wp2_with fail
      go_loopw [3, 16] (fun s i wr => ∃ (k : Nat) (x : Int), k ≤ zs.length ∧ i = .int .i64 k ∧ s = .int .i64 x ∧ Hid (x = sumI (zs.take k)) ∧ 0 ≤ x ∧ x ≤ 8 ∧ Hid (CT zs k) ∧ wr = w) (fun _ i _ => zs.length - (intOf i).toNat)
      case atStart => exact ⟨0, 0, Nat.zero_le _, rfl, rfl, rfl, by omega, by omega, CT.zero, rfl⟩
      case round =>
        obtain ⟨k, x, hk, rfl, rfl, HX, hx0, hx8, HF, rfl⟩ := hrel
        by_cases hlt : k < zs.length
        · obtain ⟨b, o, rfl, _, hb, hc⟩ := HS.out.ints.at_ hlt
          have HT := Lib.hid (sumI_take hlt)
          have HN := Lib.hid (fun h => @cOK_neg zs k hlt h)
          have HB := Lib.hid (@cOK_big zs (k + 1))
          have HF2 := Lib.hid (fun h => HF.out.step hlt h)
          generalize zs[k] = z at hc HT HN HF2
          by_cases hz : 0 ≤ z
          · by_cases hz8 : z ≤ 8 - x
            · go_wp2
              go_roundw
              case rel => exact ⟨k + 1, x + z, by omega, by go_num, by go_num, Lib.hid (by rw [HT.out, HX.out]), by omega, by omega, HF2.out hz, by first | trivial | rfl⟩
              case measure => simp [intOf]; omega
            · have E : Hid (cOK zs = false) := HB.out (by rw [HT.out, ← HX.out]; omega)
              go_wp2
              go_ret
              exact ⟨by rw [E.out]; rfl, rfl⟩
          · have E : Hid (cOK zs = false) := HN.out hz
            go_wp2
            go_ret
            exact ⟨by rw [E.out]; rfl, rfl⟩
        · obtain rfl : k = zs.length := by omega
          have E : Hid (cOK zs = true) := Lib.hid (by
              rw [HF.out.done h1 h3]
              have := HX.out
              rw [List.take_length] at this
              simp; omega)
          go_wp2
          go_ret
          exact ⟨by rw [E.out]; rfl, rfl⟩
    · rw [cOK_len (by omega)]
      go_enter Try.func45, Try.ntmps45
      go_wp2
      go_ret
      exact ⟨rfl, rfl⟩
  · rw [cOK_len (by omega)]
    go_enter Try.func45, Try.ntmps45
    go_wp2
    go_ret
    exact ⟨rfl, rfl⟩
set_option maxHeartbeats 2000000 in
theorem l4Counts_any (A : Option Addr) (c lo hi : Nat) (zs : List Int) (w : World) (hS : Ins w lo hi A zs) (hn : zs.length ≤ 1048576) :
    Calls Try.prog 64 #[.slice A zs.length c] w fun e w' => e = .returned (.bool (cOK zs)) ∧ w' = w := by
  have HS := Lib.hid hS
  have HC := Lib.hid (fun W => l1In_any (zs.length : Int) 1 3 W)
  clear hS
  by_cases h1 : 1 ≤ zs.length ∧ zs.length ≤ 3
  · rw [inB_t (by omega) (by omega)] at HC
    obtain ⟨h1, h3⟩ := h1
    go_enter Try.func64, Try.ntmps64
    go_wp2_with fail
    refine (HC.out _).mono ?_
    rintro e w1 ⟨rfl, rfl⟩
    clear HC
    go_wp2_with fail
    go_loopw [3, 4] (fun s i wr => ∃ (k : Nat) (x : Int), k ≤ zs.length ∧ i = .int .i64 k ∧ s = .int .i64 x ∧ Hid (x = sumI (zs.take k)) ∧ 0 ≤ x ∧ x ≤ 8 * (k : Int) ∧ Hid (CT zs k) ∧ wr = w1) (fun _ i _ => zs.length - (intOf i).toNat)
    case atStart => exact ⟨0, 0, Nat.zero_le _, rfl, rfl, rfl, by omega, by omega, CT.zero, rfl⟩
    case round =>
      obtain ⟨k, x, hk, rfl, rfl, HX, hx0, hx8, HF, rfl⟩ := hrel
      by_cases hlt : k < zs.length
      · obtain ⟨b, o, rfl, _, hb, hc⟩ := HS.out.ints.at_ hlt
        have HT := Lib.hid (sumI_take hlt)
        have HN := Lib.hid (fun h => @cOK_neg zs k hlt h)
        have HE := Lib.hid (fun h => @cOK_elem zs h k hlt)
        have HF2 := Lib.hid (fun h => HF.out.step hlt h)
        have HC := Lib.hid (fun W => l1In_any zs[k] 0 8 W)
        generalize zs[k] = z at hc HT HN HF2 HE HC
        by_cases hz : 0 ≤ z ∧ z ≤ 8
        · rw [inB_t hz.1 hz.2] at HC
          go_wp2_with fail
          refine (HC.out _).mono ?_
          rintro e w1 ⟨rfl, rfl⟩
          go_wp2
          go_roundw
          case rel => exact ⟨k + 1, x + z, by omega, by go_num, by go_num, Lib.hid (by rw [HT.out, HX.out]), by omega, by omega, HF2.out hz.1, by first | trivial | rfl⟩
          case measure => simp [intOf]; omega
        · have E : Hid (cOK zs = false) := Lib.hid (by
            rw [Bool.eq_false_iff]
            intro hc
            exact hz (HE.out hc))
          have e2 : inB z 0 8 = false := by
            rw [Bool.eq_false_iff]
            intro hc
            exact hz (by simpa [inB] using hc)
          rw [e2] at HC
          go_wp2_with fail
          refine (HC.out _).mono ?_
          rintro e w1 ⟨rfl, rfl⟩
          go_wp2
          go_ret
          exact ⟨by rw [E.out]; rfl, rfl⟩
      · obtain rfl : k = zs.length := by omega
        have E : Hid (cOK zs = decide (x ≤ 8)) := Lib.hid (by
            rw [HF.out.done h1 h3]
            have := HX.out
            rw [List.take_length] at this
            rw [this])
        by_cases h8 : x ≤ 8
        · go_wp2
          go_ret
          exact ⟨by rw [E.out]; simp [h8], rfl⟩
        · go_wp2
          go_ret
          exact ⟨by rw [E.out]; simp [h8], rfl⟩
  · have e2 : inB (zs.length : Int) 1 3 = false := by
      rw [Bool.eq_false_iff]
      intro hc
      exact h1 (by have : (1 : Int) ≤ zs.length ∧ (zs.length : Int) ≤ 3 := by simpa [inB] using hc
                   omega)
    rw [e2] at HC
    rw [cOK_len h1]
    go_enter Try.func64, Try.ntmps64
    go_wp2_with fail
    refine (HC.out _).mono ?_
    rintro e w1 ⟨rfl, rfl⟩
    go_wp2
    go_ret
    exact ⟨rfl, rfl⟩
end Go.Proofs.Ythpnkeecpaflfaa
