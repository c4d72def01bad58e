/- A short state's number, and the state of a number, as the specification walks them. -/
import Derived.Test.YtopgccficjkenaaL6a
namespace Go.Proofs.Ytopgccficjkenaa
open Go.RowKit Go.ChangeShapes Go.WideShapes
set_option linter.unusedVariables false

theorem keyIn_full (zs : List Int) (M : Nat) : KeyIn zs M zs.length = keyS M zs := by simp [KeyIn]
theorem own_insB {w : World} {g : Nat} {l : List Int} (h : Own w g (g + 1) (some ⟨g, 0, none⟩) l) : Ins w g (g + 1) (some ⟨g, 0, none⟩) l := ⟨h.ints, own_lt h⟩

set_option maxHeartbeats 1000000 in
theorem l6Key_any (A : Option Addr) (c lo hi : Nat) (zs : List Int) (M : Nat) (w : World) (hS : Ins w lo hi A zs) (hs : Short M zs) :
    Calls Try.prog 66 #[.agg #[.slice A zs.length c, .int .i64 (M : Int)]] w fun e w' => e = .returned (.int .i64 (keyS M zs : Int)) ∧ Below w.heap.size w w' := by
  have hl5 := hs.len
  have hm1 := hs.m
  have HX := Lib.hid (Arg.next (Below.refl w.heap.size w) (.slice A zs.length c) (.int .i64 (M : Int)) 26 w.heap.size rfl)
  have HI := Lib.hid (hS.step HX.out.below)
  have HZ := Lib.hid (fun k (h : k < zs.length) => hs.fit zs[k] (List.getElem_mem h))
  have HK := Lib.hid (fun k (h : k ≤ zs.length) => keyIn_bd hs h)
  clear hS hs
  go_enter Try.func66, Try.ntmps66
  go_wp2_with fail
  generalize w.alloc (.cells #[.slice A zs.length c, .int .i64 (M : Int)] 26) = w0 at HX HI ⊢
  have h0 := HX.out.c0
  have h1 := HX.out.c1
  have htop := HI.out.top
  go_loopw [3, 4] (fun x i wr => ∃ (k q v : Nat), k ≤ zs.length ∧ i = .int .i64 k ∧ x = .int .i64 (v : Int) ∧ v ≤ 243 ∧ Hid (v = KeyIn zs M k) ∧ wr = w0.drewN q) (fun _ i _ => zs.length - (intOf i).toNat)
  case atStart => exact ⟨0, 0, 0, Nat.zero_le _, rfl, rfl, by omega, Lib.hid rfl, rfl⟩
  case round =>
    obtain ⟨k, q, v, hk, rfl, rfl, hv, HV, rfl⟩ := hrel
    by_cases hlt : k < zs.length
    · obtain ⟨b, o, rfl, _, hb, hc⟩ := HI.out.ints.at_ hlt
      have hbw : b < w0.heap.size := by omega
      have hz := HZ.out k hlt
      have HN : Hid (v * (M + 2) + (zs[k] + 1).toNat = KeyIn zs M (k + 1)) := Lib.hid (by rw [keyIn_step hlt, ← HV.out])
      have hN := HK.out (k + 1) (by omega)
      rw [← HN.out] at hN
      generalize zs[k] = z at hc hz HN hN
      have hp : 0 ≤ (v : Int) * ((M : Int) + 2) ∧ (v : Int) * ((M : Int) + 2) ≤ 729 := by
        have e : (v : Int) * ((M : Int) + 2) = ((v * (M + 2) : Nat) : Int) := by simp
        have : v * (M + 2) ≤ 243 * 3 := Nat.mul_le_mul hv (by omega)
        omega
      have HE : Hid ((v : Int) * ((M : Int) + 2) + z + 1 = ((v * (M + 2) + (z + 1).toNat : Nat) : Int)) := Lib.hid (by
        have e : (v : Int) * ((M : Int) + 2) = ((v * (M + 2) : Nat) : Int) := by simp
        rw [e]; omega)
      have hm0 : (0 : Int) ≤ (M : Int) + 2 := by omega
      have hki : (k : Int) < (zs.length : Int) := by omega
      have W1 : IntKind.i64.wrap ((M : Int) + 2) = (M : Int) + 2 := IntWalk.i64_in _ (by omega)
      have W2 : IntKind.i64.wrap ((v : Int) * ((M : Int) + 2)) = (v : Int) * ((M : Int) + 2) := IntWalk.i64_in _ (by omega)
      have W3 : IntKind.i64.wrap ((v : Int) * ((M : Int) + 2) + z) = (v : Int) * ((M : Int) + 2) + z := IntWalk.i64_in _ (by omega)
      have W4 : IntKind.i64.wrap ((v : Int) * ((M : Int) + 2) + z + 1) = (v : Int) * ((M : Int) + 2) + z + 1 := IntWalk.i64_in _ (by omega)
      clear hbw
      go_wp2_with fail
      go_quiet (fail)
      clear W1 W2 W3 W4
      go_wp2
      go_roundw
      case rel => exact ⟨k + 1, _, v * (M + 2) + (z + 1).toNat, by omega, by go_num, by rw [HE.out], hN, HN, rfl⟩
      case measure => simp [intOf]; omega
    · obtain rfl : k = zs.length := by omega
      go_wp2
      go_ret
      exact ⟨by rw [HV.out, keyIn_full]; rfl, below_drewN HX.out.below _⟩

set_option maxHeartbeats 1000000 in
theorem l6Done_any (A : Option Addr) (c lo hi : Nat) (zs : List Int) (m : Int) (w : World) (hS : Ins w lo hi A zs) (hn : zs.length ≤ 12) :
    Calls Try.prog 84 #[.agg #[.slice A zs.length c, .int .i64 m]] w fun e w' => e = .returned (.bool (doneL zs)) ∧ Below w.heap.size w w' := by
  have HX := Lib.hid (Arg.next (Below.refl w.heap.size w) (.slice A zs.length c) (.int .i64 m) 26 w.heap.size rfl)
  have HI := Lib.hid (hS.step HX.out.below)
  have hol := opens_len zs
  clear hS
  go_enter Try.func84, Try.ntmps84
  go_wp2_with fail
  generalize w.alloc (.cells #[.slice A zs.length c, .int .i64 m] 26) = w0 at HX HI ⊢
  refine (l2Open_any A c lo hi zs m w0 HI.out hn).mono ?_
  rintro e w1 ⟨v, rfl, ho, hb⟩
  have HB := Lib.hid (below_trans HX.out.below hb)
  obtain ⟨B, c', rfl, _, _⟩ := own_res ho rfl
  clear hb ho HX HI
  have HD : Hid (doneL zs = decide ((opens zs).length < 2)) := Lib.hid rfl
  generalize (opens zs).length = p at hol HD ⊢
  by_cases h2 : p < 2
  · have h2' : (p : Int) < 2 := by omega
    rw [decide_eq_true h2] at HD
    go_wp2
    go_ret
    exact ⟨by rw [HD.out]; rfl, HB.out⟩
  · have h2' : ¬ (p : Int) < 2 := by omega
    rw [decide_eq_false h2] at HD
    go_wp2
    go_ret
    exact ⟨by rw [HD.out]; first | rfl | (simp; omega), HB.out⟩

end Go.Proofs.Ytopgccficjkenaa
