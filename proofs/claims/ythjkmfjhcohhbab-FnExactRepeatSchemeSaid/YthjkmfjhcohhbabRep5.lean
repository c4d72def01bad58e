/- One number repeated by the library. -/
import Derived.Test.YthjkmfjhcohhbabSOf
import Derived.Test.YthjkmfjhcohhbabCopy
import Derived.Test.YthjkmfjhcohhbabShelf
import Derived.IntWalk
import Derived.Laws.CopyOwn
import Derived.Deep.RegionLaw
namespace Go.Proofs.Ythjkmfjhcohhbab
open Go.RowKit Go.ChangeShapes Go.WideShapes
set_option linter.unusedVariables false

/-- A row of T places of which n are x. -/
def rowRp (x : Int) (T n : Nat) : List Int := List.replicate n x ++ List.replicate (T - n) 0
theorem rowRp_len {x : Int} {T n : Nat} (h : n ≤ T) : (rowRp x T n).length = T := by simp [rowRp]; omega
theorem rowRp_zero (x : Int) (T : Nat) : List.replicate T (Value.int .i64 0) = (rowRp x T 0).map (Value.int .i64) := by simp [rowRp]
theorem rowRp_full (x : Int) (T : Nat) : rowRp x T T = List.replicate T x := by simp [rowRp]
theorem rowRp_at {x : Int} {T n j : Nat} (h : j < n) : (rowRp x T n)[j]? = some x := by
  rw [rowRp, List.getElem?_append_left (by simpa using h), List.getElem?_replicate, if_pos h]
theorem splice_rp {x : Int} {T n m : Nat} (h : n + m ≤ T) : splice ((rowRp x T n).map (Value.int .i64)) n ((List.replicate m x).map (Value.int .i64)) = (rowRp x T (n + m)).map (Value.int .i64) := by
  unfold splice rowRp
  rw [List.map_append, List.map_append, List.take_append_of_le_length (by simp), List.take_of_length_le (by simp), List.drop_append]
  simp only [List.map_replicate, List.length_replicate, List.drop_replicate]
  rw [show n - (n + m) = 0 by omega, show T - n - (n + m - n) = T - (n + m) by omega]
  simp [← List.replicate_append_replicate]
set_option maxRecDepth 100000 in
set_option maxHeartbeats 2000000 in
theorem repeat_any (b : Nat) (x : Int) (T : Nat) (w : World) (hx : w.cell? ⟨b, 0, none⟩ = some (.int .i64 x)) (hT : 1 ≤ T ∧ T ≤ 14) :
    Calls Try.prog 131 #[.slice (some ⟨b, 0, none⟩) 1 1, .int .i64 (T : Int)] w fun e w' => e = .returned (.slice (some ⟨w.heap.size, 0, none⟩) T T) ∧ Qrow w' w.heap.size (List.replicate T x) ∧ Below w.heap.size w w' := by
  have hmk := makeInts T (by omega)
  rw [rowRp_zero x T] at hmk
  have HM := Lib.hid (fun W => Try.bits_Mul 1 T (by omega) (by omega) W)
  rw [show 1 * T / 18446744073709551616 = 0 by omega, show 1 * T % 18446744073709551616 = T by omega] at HM
  have HR0 := Lib.hid (Qrow.new w (rowRp x T 0))
  have HB0 := Lib.hid ((Below.refl w.heap.size w).alloc (Nat.le_refl _) (.cells ((rowRp x T 0).map (Value.int .i64)).toArray 3))
  have hblt : b < w.heap.size := World.block_lt_of_cell? w _ hx
  have HX := Lib.hid ((World.cell?_of_block (a := ⟨b, 0, none⟩) (HB0.out.block b hblt)).trans hx)
  have HN := Lib.hid (Ints.add (w := w.alloc (.cells ((rowRp x T 0).map (Value.int .i64)).toArray 3)) (b := b) (o := 0) (zs := [x]) (fun j y hy => by
    cases j with
    | zero => simp at hy; subst hy; exact HX.out
    | succ j => simp at hy))
  have HO1 := Lib.hid (ones [x])
  have HL0 := Lib.hid (show 0 + ([x].map (Value.int .i64)).length ≤ ((rowRp x T 0).map (Value.int .i64)).length by rw [List.length_map, List.length_map, rowRp_len (by omega)]; simp; omega)
  have HSP := Lib.hid (splice_rp (x := x) (T := T) (n := 0) (m := 1) (by omega))
  have HMin : Hid (([x].map (Value.int .i64)).length = Nat.min 1 T) := Lib.hid (by show 1 = min 1 T; omega)
  clear hx
  go_enter Try.func131, Try.ntmps131
  go_wp2_with fail
  refine (HM.out w).mono ?_
  rintro e w1 ⟨rfl, rfl⟩
  go_wp2_with (with_reducible refine wpList_copy_splice (o := ⟨some 33, _, _, _, _, _⟩) rfl (.tmp 31) (.tmp 32) 22 22 rfl 3 Try.underlying22 sz1 (some ⟨w1.heap.size, 0, none⟩) (some ⟨b, 0, none⟩) T T 1 1 rfl rfl w1.heap.size 0 ((rowRp x T 0).map (Value.int .i64)) 3 HR0.out.row ([x].map (Value.int .i64)) HMin.out (fun _ => ⟨rfl, _, rfl, HN.out⟩) HL0.out HO1.out w1.heap.size w1 HB0.out (Nat.le_refl _) ?_; intro w2 HG2 hB2; have HB2 := Lib.hid hB2; clear hB2)
  have HR2 : Hid (Qrow w2 w1.heap.size (rowRp x T 1)) := Lib.hid ⟨by
    have h1 := HG2.out
    have h2 := HSP.out
    rw [show (List.replicate 1 x).map (Value.int .i64) = [x].map (Value.int .i64) from rfl] at h2
    rwa [h2] at h1⟩
  clear HG2 HR0 HB0 HX HN HO1 HL0 HSP HMin hmk HM
  go_loopw [8] (fun i wr => ∃ (n : Nat), 1 ≤ n ∧ n ≤ T ∧ i = .int .i64 n ∧ Hid (Qrow wr w1.heap.size (rowRp x T n)) ∧ Hid (Below w1.heap.size w1 wr)) (fun i _ => T - (intOf i).toNat)
  case atStart => exact ⟨1, Nat.le_refl _, hT.1, rfl, HR2, HB2⟩
  case round =>
    clear HR2 HB2
    obtain ⟨n, hn1, hn, rfl, HR, HB⟩ := hrel
    rename World => wr
    by_cases hlt : n < T
    · obtain ⟨m, hm⟩ : ∃ m, m = min n (T - n) := ⟨_, rfl⟩
      have hm1 : 1 ≤ m ∧ n + m ≤ T := by omega
      have HLc : Hid (((List.replicate m x).map (Value.int .i64)).length = m) := Lib.hid (by simp)
      have HMi : Hid (((List.replicate m x).map (Value.int .i64)).length = Nat.min n (T - n)) := Lib.hid (by rw [HLc.out]; exact hm)
      have HSr := Lib.hid (Ints.add (w := wr.drew) (b := w1.heap.size) (o := 0) (zs := List.replicate m x) (fun j y hy => by
        rw [List.getElem?_replicate] at hy
        split at hy
        · injection hy with hy
          subst hy
          rw [Nat.zero_add]
          exact HR.out.drew.cell (rowRp_at (by omega))
        · cases hy))
      have HO1 := Lib.hid (ones (List.replicate m x))
      have HFit : Hid (n + ((List.replicate m x).map (Value.int .i64)).length ≤ ((rowRp x T n).map (Value.int .i64)).length) := Lib.hid (by rw [HLc.out, List.length_map, rowRp_len hn]; exact hm1.2)
      have HSP := Lib.hid (splice_rp (x := x) (T := T) (n := n) (m := m) hm1.2)
      have HRd := Lib.hid HR.out.drew
      have HBd := Lib.hid (below_drew1 HB.out)
      have hsz := HB.out.size
      generalize (List.replicate m x).map (Value.int .i64) = cs at HLc HMi HSr HO1 HFit HSP
      have HN2 := Lib.hid (show (n : Int) + (cs.length : Int) = ((n + m : Nat) : Int) by rw [HLc.out]; push_cast; rfl)
      have hw : IntKind.i64.wrap ((n : Int) + (cs.length : Int)) = (n : Int) + (cs.length : Int) := IntWalk.i64_in _ (by rw [HLc.out]; omega)
      have hI : (n : Int) ≤ (T : Int) := by omega
      have hc1 : n ≤ T := hn
      have hc2 : ¬ T ≤ n := by omega
      have hc3 : ¬ T = n := by omega
      have hc4 : T - n ≠ 0 := by omega
      clear hm HR HB
      go_wp2_with fail
      go_region_law (refine step_copy_splice rfl (.tmp 41) (.tmp 44) 22 22 rfl 3 Try.underlying22 sz1 (some ⟨w1.heap.size, n, none⟩) (some ⟨w1.heap.size, 0, none⟩) (T - n) (T - n) n T (by simp [Act.eval, Act.put]) (by simp [Act.eval, Act.put]) w1.heap.size n ((rowRp x T n).map (Value.int .i64)) 3 HRd.out.row cs HMi.out (fun _ => ⟨rfl, _, rfl, HSr.out⟩) HFit.out HO1.out w1.heap.size w1 HBd.out (Nat.le_refl _) ?_; intro w3 HG3 hB3; have HB3 := Lib.hid hB3; clear hB3)
      all_goals
        have HR3 : Hid (Qrow w3 w1.heap.size (rowRp x T (n + m))) := Lib.hid ⟨by
          have h1 := HG3.out
          rwa [HSP.out] at h1⟩
        clear HG3 HSP HRd HBd HSr HO1 HFit HMi
        go_simp
        go_wp2
        go_roundw
        case rel => exact ⟨n + m, by omega, hm1.2, by rw [← HN2.out], HR3, HB3⟩
        case measure =>
          have := HLc.out
          simp [intOf]; omega
    · obtain rfl : n = T := by omega
      have HR2 := Lib.hid HR.out
      rw [rowRp_full] at HR2
      go_wp2
      go_ret
      exact ⟨rfl, HR2.out, HB.out⟩
end Go.Proofs.Ythjkmfjhcohhbab
