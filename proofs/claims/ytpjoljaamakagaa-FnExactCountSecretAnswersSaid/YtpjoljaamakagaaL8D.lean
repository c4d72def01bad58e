/- The answerer: the first answers that hold, the most that are kept. -/
import Derived.Test.YtpjoljaamakagaaL8C
namespace Go.Proofs.Ytpjoljaamakagaa
open Go.RowKit Go.ChangeShapes Go.WideShapes Go.Maps
set_option linter.unusedVariables false

theorem BOwn.wide8 {w : World} {lo hi lo' : Nat} {A : Option Addr} {bs : List Bool} (h : BOwn w lo hi A bs) (hl : lo' ≤ lo) : BOwn w lo' hi A bs := by
  rcases h with h | ⟨g, cur, e, h1, h2, r⟩
  · exact .inl h
  · exact .inr ⟨g, cur, e, Nat.le_trans hl h1, h2, r⟩
theorem empty_resB8 (w : World) (lo : Nat) (h : lo ≤ w.heap.size) : BRes (w.alloc (.cells #[] 4)) lo (w.alloc (.cells #[] 4)).heap.size (some ⟨w.heap.size, 0, none⟩) [] := BRes.new w [] lo h
theorem Listed.ok1 {zs : List Int} {m : Int} {qs : List Int} (h : Listed zs m qs) : lOK zs m qs = true := lOK_iff.2 h
theorem Listed.len {zs : List Int} {m : Int} {qs : List Int} (h : Listed zs m qs) : 1 ≤ zs.length ∧ zs.length ≤ 12 := by have := isSt_len h.st; omega

set_option maxHeartbeats 2000000 in
theorem slicesIndex_any (A : Option Addr) (c lo hi : Nat) (O : List Int) (d : Nat) (w : World) (hS : Ins w lo hi A O) (hd : BestB O O.length d) (hn : O.length ≤ 256) :
    Calls Try.prog 146 #[.slice A O.length c, .int .i64 (O.getD d 0)] w fun e w' => e = .returned (.int .i64 (d : Int)) ∧ w' = w := by
  have HS := Lib.hid hS
  have HD := Lib.hid hd
  have hdl := hd.lt
  clear hS hd
  have hpi : (d : Int) < (O.length : Int) := by omega
  have HV := Lib.hid (fun k (h : k < O.length) => show O.getD k 0 = O[k] by simp [List.getD, h])
  generalize hx : O.getD d 0 = x
  have HX := Lib.hid hx
  clear hx
  go_enter Try.func146, Try.ntmps146
  go_wp2
  go_loopw [8] (fun i wr => ∃ (k : Nat), k ≤ d ∧ i = .int .i64 (k : Int) ∧ wr = w) (fun i _ => O.length - (intOf i).toNat)
  case atStart => exact ⟨0, Nat.zero_le _, rfl, rfl⟩
  case round =>
    obtain ⟨k, hk, rfl, hww⟩ := hrel
    have hww := hww.symm
    subst hww
    have hlt : k < O.length := by omega
    have hki : (k : Int) < (O.length : Int) := by omega
    obtain ⟨b, o, rfl, _, hb, hc⟩ := HS.out.ints.at_ hlt
    by_cases hkd : k < d
    · have hne : ¬ x = O[k] := by
        have h1 := HD.out.first k hkd
        rw [HV.out k hlt, HX.out] at h1
        omega
      generalize O[k] = y at hc hne
      go_wp2
      go_roundw
      case rel => exact ⟨k + 1, by omega, by go_num, by first | rfl | trivial⟩
      case measure => simp [intOf]; omega
    · obtain rfl : k = d := by omega
      have he : O[k] = x := by rw [← HV.out k hlt, HX.out]
      rw [he] at hc
      clear he
      go_wp2
      go_ret
      exact ⟨rfl, rfl⟩
end Go.Proofs.Ytpjoljaamakagaa
