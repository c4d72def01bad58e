/- The weights of numbers and of States: both sides' loops. -/
import Derived.Test.YthjkmfjhcohhbabTab
import Derived.Test.YthjkmfjhcohhbabAfter
namespace Go.Proofs.Ythjkmfjhcohhbab
open Go.RowKit Go.ChangeShapes Go.WideShapes
set_option linter.unusedVariables false

/-- The weight of a number with z false answers (-1: not open), of M at most, with q questions ahead. -/
def numW (q M : Nat) (z : Int) : Nat := if 0 ≤ z then ball q (min (M - z.toNat) q) else 0
theorem numW_no {q M : Nat} {z : Int} (h : ¬ 0 ≤ z) : numW q M z = 0 := if_neg h
theorem numW_at (q M a : Nat) : ((numW q M (a : Int) : Nat) : Int) = wOf M q a := by
  unfold numW wOf
  rw [if_pos (by omega), Int.toNat_natCast]
theorem numW_bd (q M : Nat) (z : Int) (hq : q ≤ 30) : numW q M z ≤ 1073741824 := by
  by_cases h : 0 ≤ z
  · unfold numW; rw [if_pos h]; exact ball_bd _ _ hq (by omega)
  · rw [numW_no h]; omega
/-- The weights of the first k numbers together. -/
def stWTo (q M : Nat) (zs : List Int) : Nat → Nat
  | 0 => 0
  | k + 1 => stWTo q M zs k + numW q M (zs.getD k (-1))
def stW (q M : Nat) (zs : List Int) : Nat := stWTo q M zs zs.length
theorem stWTo_bd (q M : Nat) (zs : List Int) (hq : q ≤ 30) : ∀ k, stWTo q M zs k ≤ k * 1073741824
  | 0 => by simp [stWTo]
  | k + 1 => by
    have h1 := stWTo_bd q M zs hq k
    have h2 := numW_bd q M (zs.getD k (-1)) hq
    rw [stWTo]
    omega
theorem stW_bd {q M : Nat} {zs : List Int} (hq : q ≤ 30) (hn : zs.length ≤ 12) : stW q M zs ≤ 12884901888 := by
  have := stWTo_bd q M zs hq zs.length
  unfold stW
  omega

set_option maxHeartbeats 2000000 in
theorem weightByLies_any (Aw : Option Addr) (cw lo hi M q : Nat) (z : Int) (w : World) (hT : Ins w lo hi Aw (tabs M q)) (h : -1 ≤ z ∧ z ≤ (M : Int)) :
    Calls Try.prog 201 #[.slice Aw (M + 1) cw, .int .i64 z] w fun e w' => e = .returned (.int .i64 (numW q M z : Int)) ∧ w' = w := by
  by_cases hz : 0 ≤ z
  · obtain ⟨a, rfl⟩ : ∃ a : Nat, z = (a : Int) := ⟨z.toNat, by omega⟩
    have ha : a < M + 1 := by omega
    obtain ⟨b, o, rfl, _, hb, hc⟩ := hT.ints.at_ (k := a) (by rw [tabs_len]; exact ha)
    have htop := hT.top
    have hbw : b < w.heap.size := by omega
    have hg : (tabs M q)[a]'(by rw [tabs_len]; exact ha) = ((numW q M (a : Int) : Nat) : Int) := by
      rw [numW_at]
      simp [tabs]
    rw [hg] at hc
    have hne : ¬ (a : Int) = -1 := by omega
    clear hg hT hz h
    generalize ((numW q M (a : Int) : Nat) : Int) = x at hc ⊢
    go_enter Try.func201, Try.ntmps201
    go_wp2
    go_ret
    exact ⟨rfl, rfl⟩
  · obtain rfl : z = -1 := by omega
    rw [numW_no hz]
    clear hT h hz
    go_enter Try.func201, Try.ntmps201
    go_wp2
    go_ret
    exact ⟨rfl, rfl⟩

set_option maxRecDepth 100000 in
set_option maxHeartbeats 2000000 in
theorem l3Number_any (A : Option Addr) (c lo hi : Nat) (zs : List Int) (M k q : Nat) (w : World) (hS : Ins w lo hi A zs) (hst : isSt zs (M : Int) = true) (hk : k < zs.length) (hq : q ≤ 30) :
    Calls Try.prog 204 #[.agg #[.slice A zs.length c, .int .i64 (M : Int)], .int .i64 (k : Int), .int .i64 (q : Int)] w fun e w' => e = .returned (.int .i64 (numW q M zs[k] : Int)) ∧ Below w.heap.size w w' := by
  have hl := isSt_len hst
  have hn12 : zs.length ≤ 12 := hl.2.1
  have hM : M ≤ 2 := by omega
  have hat := isSt_at hst hk
  have htop := hS.top
  obtain ⟨b, o, rfl, _, hb, hc⟩ := hS.ints.at_ hk
  have hbw : b < w.heap.size := by omega
  clear hS hst hl
  by_cases hz : 0 ≤ zs[k]
  · obtain ⟨a, ha⟩ : ∃ a : Nat, zs[k] = (a : Int) := ⟨zs[k].toNat, by omega⟩
    rw [ha] at hat hc ⊢
    have HB := Lib.hid (fun W => l3Ball_any q (M - a) hq (by omega) W)
    have hsub : ((M - a : Nat) : Int) = (M : Int) - (a : Int) := by omega
    have hx : (ball q (min (M - a) q) : Int) = ((numW q M (a : Int) : Nat) : Int) := by rw [numW_at]; rfl
    rw [hsub, hx] at HB
    have HBl := Lib.hid ((Below.refl w.heap.size w).alloc (Nat.le_refl _) (.cells #[.slice (some ⟨b, o, none⟩) zs.length c, .int .i64 (M : Int)] 63))
    have HT := Lib.hid (Two.new w (.slice (some ⟨b, o, none⟩) zs.length c) (.int .i64 (M : Int)) 63 w.heap.size rfl)
    have hc' : (w.alloc (.cells #[.slice (some ⟨b, o, none⟩) zs.length c, .int .i64 (M : Int)] 63)).cell? ⟨b, o + k, none⟩ = some (.int .i64 (a : Int)) := (World.cell?_of_block (HBl.out.block b hbw)).trans hc
    clear hsub hx hz ha hc
    generalize ((numW q M (a : Int) : Nat) : Int) = x at HB ⊢
    go_enter Try.func204, Try.ntmps204
    go_wp2_with fail
    generalize w.alloc (.cells #[.slice (some ⟨b, o, none⟩) zs.length c, .int .i64 (M : Int)] 63) = wa at HT HBl hc' ⊢
    have h0 := HT.out.c0
    have h1 := HT.out.c1
    go_wp2_with fail
    go_quiet (first | (go_at_call 209; refine Calls.quiet_of_same (HB.out _)))
    all_goals
      go_wp2
      go_ret
      first
      | exact ⟨rfl, HBl.out⟩
      | exact ⟨rfl, HBl.out.drew⟩
      | exact ⟨rfl, below_drewN HBl.out _⟩
  · rw [numW_no hz]
    have hx : zs[k] = -1 := by omega
    rw [hx] at hc
    clear hx hz hat
    go_enter Try.func204, Try.ntmps204
    go_wp2
    go_ret
    exact ⟨rfl, (Below.refl _ _).alloc (Nat.le_refl _) _⟩

set_option maxRecDepth 100000 in
set_option maxHeartbeats 4000000 in
theorem l3Weight_any (A : Option Addr) (c lo hi : Nat) (zs : List Int) (M q : Nat) (w : World) (hS : Ins w lo hi A zs) (hst : isSt zs (M : Int) = true) (hq : q ≤ 30) :
    Calls Try.prog 206 #[.agg #[.slice A zs.length c, .int .i64 (M : Int)], .int .i64 (q : Int)] w fun e w' => e = .returned (.int .i64 (stW q M zs : Int)) ∧ Below w.heap.size w w' := by
  have hl := isSt_len hst
  have hn12 : zs.length ≤ 12 := hl.2.1
  have HT := Lib.hid (Two.new w (.slice A zs.length c) (.int .i64 (M : Int)) 63 w.heap.size rfl)
  have HB := Lib.hid ((Below.refl w.heap.size w).alloc (Nat.le_refl _) (.cells #[.slice A zs.length c, .int .i64 (M : Int)] 63))
  have HI := Lib.hid (hS.step HB.out)
  have HN := Lib.hid (fun W k hI h => l3Number_any A c lo hi zs M k q W hI hst h hq)
  have HBD := Lib.hid (stWTo_bd q M zs hq)
  have HNB := Lib.hid (fun k => numW_bd q M (zs.getD k (-1)) hq)
  have HG := Lib.hid (fun k h => @getD_at zs k h)
  clear hS hst hl
  unfold stW
  go_enter Try.func206, Try.ntmps206
  go_wp2_with fail
  generalize w.alloc (.cells #[.slice A zs.length c, .int .i64 (M : Int)] 63) = wa at HT HI HB ⊢
  go_loopw [5, 6] (fun sum i wr => ∃ (k : Nat), k ≤ zs.length ∧ i = .int .i64 k ∧ sum = .int .i64 (stWTo q M zs k : Int) ∧ Hid (Two wr w.heap.size (.slice A zs.length c) (.int .i64 (M : Int)) 63) ∧ Hid (Ins wr lo hi A zs) ∧ Hid (Below w.heap.size w wr)) (fun _ i _ => zs.length - (intOf i).toNat)
  case atStart => exact ⟨0, Nat.zero_le _, rfl, rfl, HT, HI, HB⟩
  case round =>
    clear HT HI HB
    obtain ⟨k, hk, rfl, rfl, HT, HI, HB⟩ := hrel
    have h0 := HT.out.c0
    have h1 := HT.out.c1
    have f0 := HT.out.f0
    have f1 := HT.out.f1
    by_cases hlt : k < zs.length
    · have HC := Lib.hid (HN.out wr k HI.out hlt)
      have hb1 := HBD.out k
      have hb2 := HNB.out k
      have HS : Hid (((stWTo q M zs k : Nat) : Int) + ((numW q M zs[k] : Nat) : Int) = (stWTo q M zs (k + 1) : Int)) := by show _ = _; rw [stWTo, HG.out k hlt]; norm_cast
      rw [HG.out k hlt] at hb2
      generalize ((numW q M zs[k] : Nat)) = x at HC HS hb2
      generalize ((stWTo q M zs k : Nat)) = y at HS hb1
      go_wp2_with fail
      all_goals
        refine (HC.out).mono ?_
        rintro e w2 ⟨rfl, hb⟩
        have HT2 := Lib.hid (HT.out.step hb)
        have HI2 := Lib.hid (HI.out.step hb)
        have HB2 := Lib.hid (below_trans HB.out hb)
        clear hb HT HI HB h0 h1 f0 f1
        go_wp2
        go_roundw
        case rel => exact ⟨k + 1, by omega, by go_num, by rw [HS.out], HT2, HI2, HB2⟩
        case measure => simp [intOf]; omega
    · obtain rfl : k = zs.length := by omega
      go_wp2
      go_ret
      exact ⟨rfl, HB.out⟩

set_option maxRecDepth 100000 in
set_option maxHeartbeats 4000000 in
theorem sumOfWeights_any (Aw : Option Addr) (cw low hiw : Nat) (A : Option Addr) (c lo hi : Nat) (zs : List Int) (M q : Nat) (w : World) (hT : Ins w low hiw Aw (tabs M q)) (hS : Ins w lo hi A zs) (hst : isSt zs (M : Int) = true) (hq : q ≤ 30) :
    Calls Try.prog 205 #[.slice Aw (M + 1) cw, .agg #[.slice A zs.length c, .int .i64 (M : Int)]] w fun e w' => e = .returned (.int .i64 (stW q M zs : Int)) ∧ Below w.heap.size w w' := by
  have hl := isSt_len hst
  have hn12 : zs.length ≤ 12 := hl.2.1
  have hh := hS.top
  have HB := Lib.hid ((Below.refl w.heap.size w).alloc (Nat.le_refl _) (.cells #[.slice A zs.length c, .int .i64 (M : Int)] 63))
  have HI := Lib.hid (hS.step HB.out)
  have HTB := Lib.hid (hT.step HB.out)
  have HN := Lib.hid (fun W z hI h => weightByLies_any Aw cw low hiw M q z W hI h)
  have HA := Lib.hid (fun k (h : k < zs.length) => isSt_at hst h)
  have HBD := Lib.hid (stWTo_bd q M zs hq)
  have HNB := Lib.hid (fun k => numW_bd q M (zs.getD k (-1)) hq)
  have HG := Lib.hid (fun k h => @getD_at zs k h)
  have hsa : (w.alloc (.cells #[.slice A zs.length c, .int .i64 (M : Int)] 63)).heap.size = w.heap.size + 1 := by simp
  clear hS hst hl hT
  unfold stW
  go_enter Try.func205, Try.ntmps205
  go_wp2_with fail
  generalize w.alloc (.cells #[.slice A zs.length c, .int .i64 (M : Int)] 63) = wa at HI HB HTB hsa ⊢
  go_loopw [5, 11] (fun sum i wr => ∃ (k : Nat), k ≤ zs.length ∧ i = .int .i64 k ∧ sum = .int .i64 (stWTo q M zs k : Int) ∧ Hid (Ins wr low hiw Aw (tabs M q)) ∧ Hid (Ins wr lo hi A zs) ∧ Hid (Below w.heap.size w wr)) (fun _ i _ => zs.length - (intOf i).toNat)
  case atStart => exact ⟨0, Nat.zero_le _, rfl, rfl, HTB, HI, HB⟩
  case round =>
    clear HTB HI HB
    obtain ⟨k, hk, rfl, rfl, HTB, HI, HB⟩ := hrel
    by_cases hlt : k < zs.length
    · obtain ⟨b, o, rfl, _, hb, hc⟩ := HI.out.ints.at_ hlt
      have htop := HI.out.top
      have HC := Lib.hid (HN.out wr zs[k] HTB.out (HA.out k hlt))
      have hat := HA.out k hlt
      have hb1 := HBD.out k
      have hb2 := HNB.out k
      have HS : Hid (((stWTo q M zs k : Nat) : Int) + ((numW q M zs[k] : Nat) : Int) = (stWTo q M zs (k + 1) : Int)) := by show _ = _; rw [stWTo, HG.out k hlt]; norm_cast
      rw [HG.out k hlt] at hb2
      generalize ((numW q M zs[k] : Nat)) = x at HC HS hb2
      generalize ((stWTo q M zs k : Nat)) = y at HS hb1
      generalize zs[k] = z at HC hc hat
      go_wp2_with fail
      all_goals
        refine (HC.out).mono ?_
        rintro e w2 ⟨rfl, hw⟩
        subst hw
        go_wp2
        go_roundw
        case rel => exact ⟨k + 1, by omega, by go_num, by rw [HS.out], HTB, HI, HB⟩
        case measure => simp [intOf]; omega
    · obtain rfl : k = zs.length := by omega
      go_wp2
      go_ret
      exact ⟨rfl, HB.out⟩
end Go.Proofs.Ythjkmfjhcohhbab
