/- Trees of questions: MostAtLeaf and IsGoodTree, of both sides. -/
import Derived.Test.YtdkffkgoalgjmacL9L
import Derived.Test.YtdkffkgoalgjmacL9S
import Derived.Test.YtdkffkgoalgjmacTold
namespace Go.Proofs.Ytdkffkgoalgjmac
open Go.RowKit Go.ChangeShapes Go.WideShapes Go.Maps
set_option linter.unusedVariables false

/-- How many numbers are open at a node. -/
def open9 (N : Nat) (m : Int) (t : T9) (x : Int) : Nat := (opens (stTo N m (way9 t 0 x.toNat) (way9 t 0 x.toNat).length)).length
/-- The most of them, over the first of a list of nodes. -/
def most9 (N : Nat) (m : Int) (t : T9) (l : List Int) : Nat → Nat
  | 0 => 0
  | k + 1 => if open9 N m t (l.getD k 0) ≤ most9 N m t l k then most9 N m t l k else open9 N m t (l.getD k 0)
theorem open9_le (N : Nat) (m : Int) (t : T9) (x : Int) : open9 N m t x ≤ N := by
  have h := opens_len (stTo N m (way9 t 0 x.toNat) (way9 t 0 x.toNat).length)
  rw [stTo_len] at h
  exact h
theorem most9_le (N : Nat) (m : Int) (t : T9) (l : List Int) : ∀ k, most9 N m t l k ≤ N
  | 0 => Nat.zero_le _
  | k + 1 => by
    have h1 := most9_le N m t l k
    have h2 := open9_le N m t (l.getD k 0)
    unfold most9
    split <;> omega
theorem leaves9_at {ns : List (Int × Int × Int)} {k : Nat} (hk : k < (leaves9 ns ns.length).length) : ∃ p : Nat, (leaves9 ns ns.length)[k] = (p : Int) ∧ p < ns.length := by
  have h := filt_mem (p := fun j => ndB (ns.getD j (0, 0, 0)) lf9) (k := ns.length) (x := (leaves9 ns ns.length)[k]) (List.getElem_mem hk)
  exact ⟨((leaves9 ns ns.length)[k]).toNat, by omega, by omega⟩
theorem getD9I {l : List Int} {k : Nat} (h : k < l.length) : l.getD k 0 = l[k] := by simp [List.getD, h]
/-- A cell that is there. -/
structure One9 (w : World) (a : Addr) (v : Value) : Prop where
  c : w.cell? a = some v
theorem One9.lt {w : World} {a : Addr} {v : Value} (h : One9 w a v) : a.block < w.heap.size := by
  rcases Nat.lt_or_ge a.block w.heap.size with hl | hg
  · exact hl
  · have := h.c
    simp [World.cell?, Array.getElem?_eq_none hg] at this
theorem One9.step {w w' : World} {a : Addr} {v : Value} (h : One9 w a v) (hb : Below w.heap.size w w') : One9 w' a v := ⟨(hb.cell h.lt).trans h.c⟩
set_option maxRecDepth 100000 in
set_option maxHeartbeats 16000000 in
theorem most9_spec (N : Nat) (A : Option Addr) (c lo hi : Nat) (ns : List (Int × Int × Int)) (m : Int) (t : T9) (w : World) (hS : NIns w lo hi A ns) (hT : Tree9 (N : Int) ns t) (hm : inB m 0 2 = true) :
    Calls Try.prog 69 #[.int .i64 (N : Int), .agg #[.slice A ns.length c], .int .i64 m] w fun e w' => e = .returned (.int .i64 ((most9 N m t (leaves9 ns ns.length) (leaves9 ns ns.length).length : Nat) : Int)) ∧ Below w.heap.size w w' := by
  have HT := Lib.hid (One.new w (.slice A ns.length c) 33 w.heap.size rfl)
  have HB := Lib.hid ((Below.refl w.heap.size w).alloc (Nat.le_refl _) (.cells #[.slice A ns.length c] 33))
  have HI := Lib.hid (hS.step HB.out)
  have hn12 := hT.n12
  have hl127 := (hT.le127).2
  have HAL := Lib.hid (fun k (h : k < (leaves9 ns ns.length).length) => leaves9_at h)
  have hLL := leaves9_len ns ns.length
  have HOK := Lib.hid (fun p => way9_okA hT p)
  have H20 := Lib.hid (fun p => way9_20 hT p)
  have HST := Lib.hid (fun (l : List (Int × Bool)) k => stTo_ok (n := N) (m := m) l (by omega) (by omega) (by have := inB_iff.1 hm; omega) (by have := inB_iff.1 hm; omega) k)
  have HW0 := Lib.hid (fun p W hp h => way9_spec (N : Int) A c lo hi ns p t W h hT hp)
  have HLv := Lib.hid (fun W h => leaves9_spec (N : Int) A c lo hi ns t W h hT)
  have HA := Lib.hid (fun p W B d lo hi h => l2All_any N m B d lo hi (way9 t 0 p) W h (HOK.out p) (by omega) (by omega) hm)
  have HLE := Lib.hid (fun k => most9_le N m t (leaves9 ns ns.length) k)
  clear hS hT
  go_enter Try.func69, Try.ntmps69
  go_wp2_with fail
  generalize w.alloc (.cells #[.slice A ns.length c] 33) = w0 at HB HT HI ⊢
  have h0 := HT.out.c0
  with_reducible refine (HLv.out _ HI.out).mono ?_
  rintro e w1 ⟨Bl, dl, rfl, hl, hb⟩
  replace HB := Lib.hid (below_trans HB.out hb)
  replace HT := Lib.hid (HT.out.step hb)
  replace HI := Lib.hid (HI.out.step hb)
  replace h0 := HT.out.c0
  have HV := Lib.hid hl.ins
  clear hl
  clear hb
  clear h0
  clear HLv
  go_wp2_with fail
  have HMX : Hid (∀ k, most9 N m t (leaves9 ns ns.length) (k + 1) = if open9 N m t ((leaves9 ns ns.length).getD k 0) ≤ most9 N m t (leaves9 ns ns.length) k then most9 N m t (leaves9 ns ns.length) k else open9 N m t ((leaves9 ns ns.length).getD k 0)) := Lib.hid (fun k => rfl)
  have HM0 : Hid (most9 N m t (leaves9 ns ns.length) 0 = 0) := Lib.hid rfl
  have hll : (leaves9 ns ns.length).length ≤ 127 := by omega
  generalize hLv : leaves9 ns ns.length = Lv at HAL HLE HV HMX HM0 hll hLL ⊢
  have HLV := Lib.hid hLv
  clear hLv
  obtain ⟨lv0, hv0, HVV⟩ : ∃ lv0 hv0, Hid (Ins w1 lv0 hv0 Bl Lv) := ⟨_, _, HV⟩
  clear HV
  go_loopw [7, 9] (fun mv i wr => ∃ (k : Nat), k ≤ Lv.length ∧ i = .int .i64 (k : Int) ∧ mv = .int .i64 ((most9 N m t Lv k : Nat) : Int) ∧ Hid (One wr w.heap.size (.slice A ns.length c) 33) ∧ Hid (NIns wr lo hi A ns) ∧ Hid (Ins wr lv0 hv0 Bl Lv) ∧ Hid (Below w.heap.size w wr)) (fun _ i _ => Lv.length - (intOf i).toNat)
  case atStart => exact ⟨0, Nat.zero_le _, rfl, by rw [HM0.out]; rfl, HT, HI, HVV, HB⟩
  case round =>
    clear HT HI HVV HB
    obtain ⟨k, hk, rfl, rfl, HT, HI, HVV, HB⟩ := hrel
    rename World => wr
    by_cases hlt : k < Lv.length
    · obtain ⟨b, o, rfl, _, _, hc⟩ := HVV.out.ints.at_ hlt
      obtain ⟨p, hp, hpn⟩ := HAL.out k hlt
      have hki : (k : Int) < (Lv.length : Int) := by omega
      have hmk := HMX.out k
      rw [getD9I hlt, hp] at hmk
      rw [hp] at hc
      have HCc := Lib.hid (One9.mk hc)
      clear hc hp
      have ho : open9 N m t (p : Int) = (opens (stTo N m (way9 t 0 p) (way9 t 0 p).length)).length := by unfold open9; rw [Int.toNat_natCast]
      rw [ho] at hmk
      have hst := HST.out (way9 t 0 p) (way9 t 0 p).length
      have hln := stTo_len N m (way9 t 0 p) (way9 t 0 p).length
      have HW := Lib.hid (fun W h => HW0.out p W hpn h)
      have HA2 := Lib.hid (fun W B d lo hi h => HA.out p W B d lo hi h)
      generalize stTo N m (way9 t 0 p) (way9 t 0 p).length = zs at hmk hst hln HA2
      clear ho
      have HOp := Lib.hid (fun W g d (h : Ins W g (g + 1) (some ⟨g, 0, none⟩) zs) => l2Open_any (some ⟨g, 0, none⟩) d g (g + 1) zs m W h (by omega))
      rw [hln] at HOp
      have HMk := Lib.hid hmk
      have HMt := Lib.hid (fun W => l1Most_any ((most9 N m t Lv k : Nat) : Int) (((opens zs).length : Nat) : Int) W)
      clear hmk hst hln
      have hpi : (0 : Int) ≤ (p : Int) := by omega
      by_cases hle : (opens zs).length ≤ most9 N m t Lv k
      · have HMk2 := HMk.out
        rw [if_pos hle] at HMk2
        have HMk3 := Lib.hid HMk2
        have HMt2 := HMt.out
        rw [if_pos (by omega)] at HMt2
        have HMt3 := Lib.hid HMt2
        clear HMk HMk2 HMt HMt2 hle
        go_wp2_with fail
        go_region_held3 (fun w' => w'.cell? ⟨w.heap.size, 0, none⟩ = some (.slice A ns.length c) ∧ w'.cell? ⟨b, o + k, none⟩ = some (.int .i64 (p : Int)))
          (first
           | exact ⟨(HT.out.step (Below.refl _ wr).drew).c0, (HCc.out.step (Below.refl _ wr).drew).c⟩
           | exact ⟨HT_3.out.c0, HCc_3.out.c⟩
           | exact ⟨HT_2.out.c0, HCc_2.out.c⟩
           | exact ⟨HT_1.out.c0, HCc_1.out.c⟩)
          (first
           | (go_at_call 123; (with_reducible refine (HMt3.out _).mono ?_); rintro e wX ⟨rfl, hw⟩; have hw := hw.symm; subst hw)
           | (go_at_call 124; (with_reducible refine (HOp.out v2 g dg HOg.out).mono ?_); rintro e v3 ⟨vo, rfl, hrow, hb⟩; have HZ3 := Lib.hid (below_trans HZ2.out hb); have HT_3 := Lib.hid (HT.out.step HZ3.out); have HI_3 := Lib.hid (HI.out.step HZ3.out); have HVV_3 := Lib.hid (HVV.out.step HZ3.out); have HB_3 := Lib.hid (below_trans HB.out HZ3.out); have HCc_3 := Lib.hid (HCc.out.step HZ3.out); obtain ⟨Ao, co, hvo⟩ := ownsRow_slice8 hrow; subst hvo; clear hrow; clear hb)
           | (go_at_call 59; (with_reducible refine (HA2.out v1 _ _ _ _ HWm.out).mono ?_); rintro e v2 ⟨g, dg, rfl, hg, ho, hb⟩; have HZ2 := Lib.hid (below_trans HZ1.out hb); have HT_2 := Lib.hid (HT.out.step HZ2.out); have HI_2 := Lib.hid (HI.out.step HZ2.out); have HVV_2 := Lib.hid (HVV.out.step HZ2.out); have HB_2 := Lib.hid (below_trans HB.out HZ2.out); have HCc_2 := Lib.hid (HCc.out.step HZ2.out); have HOg := Lib.hid (own_insG ho); clear ho hg; clear hb)
           | (go_at_call 60; (with_reducible refine (HW.out wr.drew (HI.out.step (Below.refl _ wr).drew)).mono ?_); rintro e v1 ⟨Bw, dw, rfl, hm2, hb⟩; have HZ1 := Lib.hid (below_trans (Below.refl _ wr).drew hb); have HT_1 := Lib.hid (HT.out.step HZ1.out); have HI_1 := Lib.hid (HI.out.step HZ1.out); have HVV_1 := Lib.hid (HVV.out.step HZ1.out); have HB_1 := Lib.hid (below_trans HB.out HZ1.out); have HCc_1 := Lib.hid (HCc.out.step HZ1.out); have HWm := Lib.hid hm2.ins; clear hm2; clear hb))
        all_goals
          clear HT HI HVV HB HCc
          go_wp2
          go_roundw
          case rel => exact ⟨k + 1, by omega, by go_num, by rw [HMk3.out], HT_3, HI_3, HVV_3, HB_3⟩
          case measure => simp [intOf]; omega
      · have HMk2 := HMk.out
        rw [if_neg hle] at HMk2
        have HMk3 := Lib.hid HMk2
        have HMt2 := HMt.out
        rw [if_neg (by omega)] at HMt2
        have HMt3 := Lib.hid HMt2
        clear HMk HMk2 HMt HMt2 hle
        go_wp2_with fail
        go_region_held3 (fun w' => w'.cell? ⟨w.heap.size, 0, none⟩ = some (.slice A ns.length c) ∧ w'.cell? ⟨b, o + k, none⟩ = some (.int .i64 (p : Int)))
          (first
           | exact ⟨(HT.out.step (Below.refl _ wr).drew).c0, (HCc.out.step (Below.refl _ wr).drew).c⟩
           | exact ⟨HT_3.out.c0, HCc_3.out.c⟩
           | exact ⟨HT_2.out.c0, HCc_2.out.c⟩
           | exact ⟨HT_1.out.c0, HCc_1.out.c⟩)
          (first
           | (go_at_call 123; (with_reducible refine (HMt3.out _).mono ?_); rintro e wX ⟨rfl, hw⟩; have hw := hw.symm; subst hw)
           | (go_at_call 124; (with_reducible refine (HOp.out v2 g dg HOg.out).mono ?_); rintro e v3 ⟨vo, rfl, hrow, hb⟩; have HZ3 := Lib.hid (below_trans HZ2.out hb); have HT_3 := Lib.hid (HT.out.step HZ3.out); have HI_3 := Lib.hid (HI.out.step HZ3.out); have HVV_3 := Lib.hid (HVV.out.step HZ3.out); have HB_3 := Lib.hid (below_trans HB.out HZ3.out); have HCc_3 := Lib.hid (HCc.out.step HZ3.out); obtain ⟨Ao, co, hvo⟩ := ownsRow_slice8 hrow; subst hvo; clear hrow; clear hb)
           | (go_at_call 59; (with_reducible refine (HA2.out v1 _ _ _ _ HWm.out).mono ?_); rintro e v2 ⟨g, dg, rfl, hg, ho, hb⟩; have HZ2 := Lib.hid (below_trans HZ1.out hb); have HT_2 := Lib.hid (HT.out.step HZ2.out); have HI_2 := Lib.hid (HI.out.step HZ2.out); have HVV_2 := Lib.hid (HVV.out.step HZ2.out); have HB_2 := Lib.hid (below_trans HB.out HZ2.out); have HCc_2 := Lib.hid (HCc.out.step HZ2.out); have HOg := Lib.hid (own_insG ho); clear ho hg; clear hb)
           | (go_at_call 60; (with_reducible refine (HW.out wr.drew (HI.out.step (Below.refl _ wr).drew)).mono ?_); rintro e v1 ⟨Bw, dw, rfl, hm2, hb⟩; have HZ1 := Lib.hid (below_trans (Below.refl _ wr).drew hb); have HT_1 := Lib.hid (HT.out.step HZ1.out); have HI_1 := Lib.hid (HI.out.step HZ1.out); have HVV_1 := Lib.hid (HVV.out.step HZ1.out); have HB_1 := Lib.hid (below_trans HB.out HZ1.out); have HCc_1 := Lib.hid (HCc.out.step HZ1.out); have HWm := Lib.hid hm2.ins; clear hm2; clear hb))
        all_goals
          clear HT HI HVV HB HCc
          go_wp2
          go_roundw
          case rel => exact ⟨k + 1, by omega, by go_num, by rw [HMk3.out], HT_3, HI_3, HVV_3, HB_3⟩
          case measure => simp [intOf]; omega
    · obtain rfl : k = Lv.length := by omega
      go_wp2
      go_ret
      rw [HLV.out]
      exact ⟨rfl, HB.out⟩
set_option maxRecDepth 100000 in
set_option maxHeartbeats 16000000 in
theorem mostAtLeaf_impl (N : Nat) (A : Option Addr) (c lo hi : Nat) (ns : List (Int × Int × Int)) (m : Int) (t : T9) (w : World) (hS : NIns w lo hi A ns) (hT : Tree9 (N : Int) ns t) (hm : inB m 0 2 = true) :
    Calls Try.prog 18 #[.int .i64 (N : Int), .agg #[.slice A ns.length c], .int .i64 m] w fun e w' => e = .returned (.tuple #[.int .i64 ((most9 N m t (leaves9 ns ns.length) (leaves9 ns ns.length).length : Nat) : Int), .bool true]) ∧ Below w.heap.size w w' := by
  have HT := Lib.hid (One.new w (.slice A ns.length c) 33 w.heap.size rfl)
  have HB := Lib.hid ((Below.refl w.heap.size w).alloc (Nat.le_refl _) (.cells #[.slice A ns.length c] 33))
  have HI := Lib.hid (hS.step HB.out)
  have hn12 := hT.n12
  have hl127 := (hT.le127).2
  have HAL := Lib.hid (fun k (h : k < (leaves9 ns ns.length).length) => leaves9_at h)
  have hLL := leaves9_len ns ns.length
  have HOK := Lib.hid (fun p => way9_okA hT p)
  have H20 := Lib.hid (fun p => way9_20 hT p)
  have HST := Lib.hid (fun (l : List (Int × Bool)) k => stTo_ok (n := N) (m := m) l (by omega) (by omega) (by have := inB_iff.1 hm; omega) (by have := inB_iff.1 hm; omega) k)
  have HW0 := Lib.hid (fun p W hp h => way9_impl (N : Int) A c lo hi ns p t W h hT hp)
  have HLv := Lib.hid (fun W h => leavesOf_impl (N : Int) A c lo hi ns t W h hT)
  have HA := Lib.hid (fun p W B d lo hi h => answerAll_impl N m B d lo hi (way9 t 0 p) W h (HOK.out p) (by omega) (by omega) hm (H20.out p))
  have HLE := Lib.hid (fun k => most9_le N m t (leaves9 ns ns.length) k)
  have HMo := Lib.hid (fun W => isMost_any m W)
  rw [hm] at HMo
  clear hS hT
  go_enter Try.func18, Try.ntmps18
  go_wp2_with fail
  generalize w.alloc (.cells #[.slice A ns.length c] 33) = w0 at HB HT HI ⊢
  have h0 := HT.out.c0
  with_reducible refine (HLv.out _ HI.out).mono ?_
  rintro e w1 ⟨Bl, dl, rfl, hl, hb⟩
  replace HB := Lib.hid (below_trans HB.out hb)
  replace HT := Lib.hid (HT.out.step hb)
  replace HI := Lib.hid (HI.out.step hb)
  replace h0 := HT.out.c0
  have HV := Lib.hid hl.ins
  clear hl
  clear hb
  clear h0
  clear HLv
  go_wp2_with (go_at_call 71; (with_reducible refine (HMo.out _).mono ?_); rintro e wX ⟨rfl, hw⟩; have hw := hw.symm; subst hw)
  have HMX : Hid (∀ k, most9 N m t (leaves9 ns ns.length) (k + 1) = if open9 N m t ((leaves9 ns ns.length).getD k 0) ≤ most9 N m t (leaves9 ns ns.length) k then most9 N m t (leaves9 ns ns.length) k else open9 N m t ((leaves9 ns ns.length).getD k 0)) := Lib.hid (fun k => rfl)
  have HM0 : Hid (most9 N m t (leaves9 ns ns.length) 0 = 0) := Lib.hid rfl
  have hll : (leaves9 ns ns.length).length ≤ 127 := by omega
  generalize hLv : leaves9 ns ns.length = Lv at HAL HLE HV HMX HM0 hll hLL ⊢
  have HLV := Lib.hid hLv
  clear hLv hLL HMo
  obtain ⟨lv0, hv0, HVV⟩ : ∃ lv0 hv0, Hid (Ins w1 lv0 hv0 Bl Lv) := ⟨_, _, HV⟩
  clear HV
  go_loopw [10, 32] (fun mv i wr => ∃ (k : Nat), k ≤ Lv.length ∧ i = .int .i64 (k : Int) ∧ mv = .int .i64 ((most9 N m t Lv k : Nat) : Int) ∧ Hid (One wr w.heap.size (.slice A ns.length c) 33) ∧ Hid (NIns wr lo hi A ns) ∧ Hid (Ins wr lv0 hv0 Bl Lv) ∧ Hid (Below w.heap.size w wr)) (fun _ i _ => Lv.length - (intOf i).toNat)
  case atStart => exact ⟨0, Nat.zero_le _, rfl, by rw [HM0.out]; rfl, HT, HI, HVV, HB⟩
  case round =>
    clear HT HI HVV HB
    obtain ⟨k, hk, rfl, rfl, HT, HI, HVV, HB⟩ := hrel
    rename World => wr
    by_cases hlt : k < Lv.length
    · obtain ⟨b, o, rfl, _, _, hc⟩ := HVV.out.ints.at_ hlt
      obtain ⟨p, hp, hpn⟩ := HAL.out k hlt
      have hki : (k : Int) < (Lv.length : Int) := by omega
      have hmk := HMX.out k
      rw [getD9I hlt, hp] at hmk
      rw [hp] at hc
      have ho : open9 N m t (p : Int) = (opens (stTo N m (way9 t 0 p) (way9 t 0 p).length)).length := by unfold open9; rw [Int.toNat_natCast]
      rw [ho] at hmk
      have hst := HST.out (way9 t 0 p) (way9 t 0 p).length
      have hln := stTo_len N m (way9 t 0 p) (way9 t 0 p).length
      have HW := Lib.hid (fun W h => HW0.out p W hpn h)
      have HA2 := Lib.hid (fun W B d lo hi h => HA.out p W B d lo hi h)
      have hol := opens_len (stTo N m (way9 t 0 p) (way9 t 0 p).length)
      rw [hln] at hol
      generalize stTo N m (way9 t 0 p) (way9 t 0 p).length = zs at hmk hst hln HA2 hol
      clear ho
      have HOp := Lib.hid (fun W g d (h : Ins W g (g + 1) (some ⟨g, 0, none⟩) zs) => openNumbers_impl (some ⟨g, 0, none⟩) d g (g + 1) zs m W h hst)
      rw [hln] at HOp
      have HMk := Lib.hid hmk
      have hMN := HLE.out k
      clear hmk hst hln hp
      have hpi : (0 : Int) ≤ (p : Int) := by omega
      by_cases hle : (opens zs).length ≤ most9 N m t Lv k
      · have HMk2 := HMk.out
        rw [if_pos hle] at HMk2
        have HMk3 := Lib.hid HMk2
        clear HMk HMk2
        have hle2 : ¬ most9 N m t Lv k < (opens zs).length := by omega
        have hle3 : (((opens zs).length : Nat) : Int) ≤ ((most9 N m t Lv k : Nat) : Int) := by omega
        have h0 := HT.out.c0
        go_wp2_with fail
        with_reducible refine (HW.out wr HI.out).mono ?_
        rintro e w1 ⟨Bw, dw, rfl, hm2, hb⟩
        replace HT := Lib.hid (HT.out.step hb)
        replace HI := Lib.hid (HI.out.step hb)
        replace HVV := Lib.hid (HVV.out.step hb)
        replace HB := Lib.hid (below_trans HB.out hb)
        replace h0 := HT.out.c0
        have HWm := Lib.hid hm2.ins
        clear hm2 hc
        clear hb
        clear h0
        go_wp2_with fail
        with_reducible refine (HA2.out _ _ _ _ _ HWm.out).mono ?_
        rintro e w2 ⟨g, dg, rfl, hg, ho, hb⟩
        replace HT := Lib.hid (HT.out.step hb)
        replace HI := Lib.hid (HI.out.step hb)
        replace HVV := Lib.hid (HVV.out.step hb)
        replace HB := Lib.hid (below_trans HB.out hb)
        replace HWm := Lib.hid (HWm.out.step hb)
        have HOg := Lib.hid (own_insG ho)
        clear ho hg HWm
        clear hb
        go_wp2_with fail
        have hb := (Below.refl w2.heap.size w2).alloc (Nat.le_refl _) (.cells #[.slice (some ⟨g, 0, none⟩) N dg, .int .i64 m] 28)
        replace HT := Lib.hid (HT.out.step hb)
        replace HI := Lib.hid (HI.out.step hb)
        replace HVV := Lib.hid (HVV.out.step hb)
        replace HB := Lib.hid (below_trans HB.out hb)
        replace HOg := Lib.hid (HOg.out.step hb)
        clear hb
        generalize w2.alloc (.cells #[.slice (some ⟨g, 0, none⟩) N dg, .int .i64 m] 28) = w3 at HT HI HVV HB HOg ⊢
        with_reducible refine (HOp.out _ g dg HOg.out).mono ?_
        rintro e w4 ⟨vo, rfl, hrow, hb⟩
        replace HT := Lib.hid (HT.out.step hb)
        replace HI := Lib.hid (HI.out.step hb)
        replace HVV := Lib.hid (HVV.out.step hb)
        replace HB := Lib.hid (below_trans HB.out hb)
        replace HOg := Lib.hid (HOg.out.step hb)
        obtain ⟨Ao, co, hvo⟩ := ownsRow_slice8 hrow
        subst hvo
        clear hrow
        clear hb
        clear HW HA2 HOp HOg
        go_wp2
        go_roundw
        case rel => exact ⟨k + 1, by omega, by go_num, by rw [HMk3.out], HT, HI, HVV, HB⟩
        case measure => simp [intOf]; omega
      · have HMk2 := HMk.out
        rw [if_neg hle] at HMk2
        have HMk3 := Lib.hid HMk2
        clear HMk HMk2
        have hle2 : most9 N m t Lv k < (opens zs).length := by omega
        have hle3 : (((opens zs).length : Nat) : Int) > ((most9 N m t Lv k : Nat) : Int) := by omega
        have h0 := HT.out.c0
        go_wp2_with fail
        with_reducible refine (HW.out wr HI.out).mono ?_
        rintro e w1 ⟨Bw, dw, rfl, hm2, hb⟩
        replace HT := Lib.hid (HT.out.step hb)
        replace HI := Lib.hid (HI.out.step hb)
        replace HVV := Lib.hid (HVV.out.step hb)
        replace HB := Lib.hid (below_trans HB.out hb)
        replace h0 := HT.out.c0
        have HWm := Lib.hid hm2.ins
        clear hm2 hc
        clear hb
        clear h0
        go_wp2_with fail
        with_reducible refine (HA2.out _ _ _ _ _ HWm.out).mono ?_
        rintro e w2 ⟨g, dg, rfl, hg, ho, hb⟩
        replace HT := Lib.hid (HT.out.step hb)
        replace HI := Lib.hid (HI.out.step hb)
        replace HVV := Lib.hid (HVV.out.step hb)
        replace HB := Lib.hid (below_trans HB.out hb)
        replace HWm := Lib.hid (HWm.out.step hb)
        have HOg := Lib.hid (own_insG ho)
        clear ho hg HWm
        clear hb
        go_wp2_with fail
        have hb := (Below.refl w2.heap.size w2).alloc (Nat.le_refl _) (.cells #[.slice (some ⟨g, 0, none⟩) N dg, .int .i64 m] 28)
        replace HT := Lib.hid (HT.out.step hb)
        replace HI := Lib.hid (HI.out.step hb)
        replace HVV := Lib.hid (HVV.out.step hb)
        replace HB := Lib.hid (below_trans HB.out hb)
        replace HOg := Lib.hid (HOg.out.step hb)
        clear hb
        generalize w2.alloc (.cells #[.slice (some ⟨g, 0, none⟩) N dg, .int .i64 m] 28) = w3 at HT HI HVV HB HOg ⊢
        with_reducible refine (HOp.out _ g dg HOg.out).mono ?_
        rintro e w4 ⟨vo, rfl, hrow, hb⟩
        replace HT := Lib.hid (HT.out.step hb)
        replace HI := Lib.hid (HI.out.step hb)
        replace HVV := Lib.hid (HVV.out.step hb)
        replace HB := Lib.hid (below_trans HB.out hb)
        replace HOg := Lib.hid (HOg.out.step hb)
        obtain ⟨Ao, co, hvo⟩ := ownsRow_slice8 hrow
        subst hvo
        clear hrow
        clear hb
        clear HW HA2 HOp HOg
        go_wp2
        go_roundw
        case rel => exact ⟨k + 1, by omega, by go_num, by rw [HMk3.out], HT, HI, HVV, HB⟩
        case measure => simp [intOf]; omega
    · obtain rfl : k = Lv.length := by omega
      go_wp2
      go_ret2
      rw [HLV.out]
      exact ⟨rfl, HB.out⟩
set_option maxRecDepth 100000 in
set_option maxHeartbeats 8000000 in
theorem mostAtLeaf_spec (N : Nat) (A : Option Addr) (c lo hi : Nat) (ns : List (Int × Int × Int)) (m : Int) (t : T9) (w : World) (hS : NIns w lo hi A ns) (hT : Tree9 (N : Int) ns t) (hm : inB m 0 2 = true) :
    Calls Try.prog 17 #[.int .i64 (N : Int), .agg #[.slice A ns.length c], .int .i64 m] w fun e w' => e = .returned (.tuple #[.int .i64 ((most9 N m t (leaves9 ns ns.length) (leaves9 ns ns.length).length : Nat) : Int), .bool true]) ∧ Below w.heap.size w w' := by
  have HT := Lib.hid (One.new w (.slice A ns.length c) 33 w.heap.size rfl)
  have HB := Lib.hid ((Below.refl w.heap.size w).alloc (Nat.le_refl _) (.cells #[.slice A ns.length c] 33))
  have HI := Lib.hid (hS.step HB.out)
  have HC := Lib.hid (fun W h => l9Tree_any (N : Int) A c lo hi ns W h (by have := hT.le127; omega))
  rw [isT9_mk hT] at HC
  have HM := Lib.hid (fun W => l1In_any m 0 2 W)
  rw [hm] at HM
  have HW := Lib.hid (fun W h => most9_spec N A c lo hi ns m t W h hT hm)
  have hX0 : (0 : Int) ≤ ((most9 N m t (leaves9 ns ns.length) (leaves9 ns ns.length).length : Nat) : Int) := by omega
  generalize most9 N m t (leaves9 ns ns.length) (leaves9 ns ns.length).length = X at HW hX0 ⊢
  clear hS hT hm
  go_enter Try.func17, Try.ntmps17
  go_wp2_with fail
  generalize w.alloc (.cells #[.slice A ns.length c] 33) = w0 at HB HT HI ⊢
  have h0 := HT.out.c0
  with_reducible refine (HC.out _ HI.out).mono ?_
  rintro e w1 ⟨rfl, hb⟩
  replace HB := Lib.hid (below_trans HB.out hb)
  replace HT := Lib.hid (HT.out.step hb)
  replace HI := Lib.hid (HI.out.step hb)
  replace h0 := HT.out.c0
  clear hb
  go_wp2_with (go_at_call 58; (with_reducible refine (HM.out _).mono ?_); rintro e wX ⟨rfl, hw⟩; have hw := hw.symm; subst hw)
  with_reducible refine (HW.out _ HI.out).mono ?_
  rintro e w2 ⟨rfl, hb⟩
  replace HB := Lib.hid (below_trans HB.out hb)
  replace HT := Lib.hid (HT.out.step hb)
  replace HI := Lib.hid (HI.out.step hb)
  replace h0 := HT.out.c0
  clear hb
  clear h0
  go_wp2
  go_ret2
  exact ⟨rfl, HB.out⟩
set_option maxRecDepth 100000 in
set_option maxHeartbeats 8000000 in
theorem isGoodTree_spec (N : Nat) (A : Option Addr) (c lo hi : Nat) (ns : List (Int × Int × Int)) (m : Int) (t : T9) (w : World) (hS : NIns w lo hi A ns) (hT : Tree9 (N : Int) ns t) (hm : inB m 0 2 = true) :
    Calls Try.prog 19 #[.int .i64 (N : Int), .agg #[.slice A ns.length c], .int .i64 m] w fun e w' => e = .returned (.tuple #[.bool (decide (most9 N m t (leaves9 ns ns.length) (leaves9 ns ns.length).length ≤ 1)), .bool true]) ∧ Below w.heap.size w w' := by
  have HT := Lib.hid (One.new w (.slice A ns.length c) 33 w.heap.size rfl)
  have HB := Lib.hid ((Below.refl w.heap.size w).alloc (Nat.le_refl _) (.cells #[.slice A ns.length c] 33))
  have HI := Lib.hid (hS.step HB.out)
  have HC := Lib.hid (fun W h => l9Tree_any (N : Int) A c lo hi ns W h (by have := hT.le127; omega))
  rw [isT9_mk hT] at HC
  have HM := Lib.hid (fun W => l1In_any m 0 2 W)
  rw [hm] at HM
  have HW := Lib.hid (fun W h => most9_spec N A c lo hi ns m t W h hT hm)
  have hX0 : (0 : Int) ≤ ((most9 N m t (leaves9 ns ns.length) (leaves9 ns ns.length).length : Nat) : Int) := by omega
  generalize most9 N m t (leaves9 ns ns.length) (leaves9 ns ns.length).length = X at HW hX0 ⊢
  clear hS hT hm
  by_cases hX : X ≤ 1
  · rw [decide_eq_true hX]
    have hXi : (X : Int) ≤ 1 := by omega
    have hXd : decide ((X : Int) ≤ 1) = true := decide_eq_true hXi
    go_enter Try.func19, Try.ntmps19
    go_wp2_with fail
    generalize w.alloc (.cells #[.slice A ns.length c] 33) = w0 at HB HT HI ⊢
    have h0 := HT.out.c0
    with_reducible refine (HC.out _ HI.out).mono ?_
    rintro e w1 ⟨rfl, hb⟩
    replace HB := Lib.hid (below_trans HB.out hb)
    replace HT := Lib.hid (HT.out.step hb)
    replace HI := Lib.hid (HI.out.step hb)
    replace h0 := HT.out.c0
    clear hb
    go_wp2_with (go_at_call 58; (with_reducible refine (HM.out _).mono ?_); rintro e wX ⟨rfl, hw⟩; have hw := hw.symm; subst hw)
    with_reducible refine (HW.out _ HI.out).mono ?_
    rintro e w2 ⟨rfl, hb⟩
    replace HB := Lib.hid (below_trans HB.out hb)
    replace HT := Lib.hid (HT.out.step hb)
    replace HI := Lib.hid (HI.out.step hb)
    replace h0 := HT.out.c0
    clear hb
    clear h0
    go_wp2
    go_ret2
    exact ⟨rfl, HB.out⟩
  · rw [decide_eq_false hX]
    have hXi : ¬ (X : Int) ≤ 1 := by omega
    have hXd : decide ((X : Int) ≤ 1) = false := decide_eq_false hXi
    go_enter Try.func19, Try.ntmps19
    go_wp2_with fail
    generalize w.alloc (.cells #[.slice A ns.length c] 33) = w0 at HB HT HI ⊢
    have h0 := HT.out.c0
    with_reducible refine (HC.out _ HI.out).mono ?_
    rintro e w1 ⟨rfl, hb⟩
    replace HB := Lib.hid (below_trans HB.out hb)
    replace HT := Lib.hid (HT.out.step hb)
    replace HI := Lib.hid (HI.out.step hb)
    replace h0 := HT.out.c0
    clear hb
    go_wp2_with (go_at_call 58; (with_reducible refine (HM.out _).mono ?_); rintro e wX ⟨rfl, hw⟩; have hw := hw.symm; subst hw)
    with_reducible refine (HW.out _ HI.out).mono ?_
    rintro e w2 ⟨rfl, hb⟩
    replace HB := Lib.hid (below_trans HB.out hb)
    replace HT := Lib.hid (HT.out.step hb)
    replace HI := Lib.hid (HI.out.step hb)
    replace h0 := HT.out.c0
    clear hb
    clear h0
    go_wp2
    go_ret2
    exact ⟨rfl, HB.out⟩
set_option maxRecDepth 100000 in
set_option maxHeartbeats 8000000 in
theorem isGoodTree_impl (N : Nat) (A : Option Addr) (c lo hi : Nat) (ns : List (Int × Int × Int)) (m : Int) (t : T9) (w : World) (hS : NIns w lo hi A ns) (hT : Tree9 (N : Int) ns t) (hm : inB m 0 2 = true) :
    Calls Try.prog 20 #[.int .i64 (N : Int), .agg #[.slice A ns.length c], .int .i64 m] w fun e w' => e = .returned (.tuple #[.bool (decide (most9 N m t (leaves9 ns ns.length) (leaves9 ns ns.length).length ≤ 1)), .bool true]) ∧ Below w.heap.size w w' := by
  have HT := Lib.hid (One.new w (.slice A ns.length c) 33 w.heap.size rfl)
  have HB := Lib.hid ((Below.refl w.heap.size w).alloc (Nat.le_refl _) (.cells #[.slice A ns.length c] 33))
  have HI := Lib.hid (hS.step HB.out)
  have HW := Lib.hid (fun W h => mostAtLeaf_impl N A c lo hi ns m t W h hT hm)
  have hX0 : (0 : Int) ≤ ((most9 N m t (leaves9 ns ns.length) (leaves9 ns ns.length).length : Nat) : Int) := by omega
  generalize most9 N m t (leaves9 ns ns.length) (leaves9 ns ns.length).length = X at HW hX0 ⊢
  clear hS hT hm
  by_cases hX : X ≤ 1
  · rw [decide_eq_true hX]
    have hXi : (X : Int) ≤ 1 := by omega
    have hXd : decide ((X : Int) ≤ 1) = true := decide_eq_true hXi
    go_enter Try.func20, Try.ntmps20
    go_wp2_with fail
    generalize w.alloc (.cells #[.slice A ns.length c] 33) = w0 at HB HT HI ⊢
    have h0 := HT.out.c0
    with_reducible refine (HW.out _ HI.out).mono ?_
    rintro e w1 ⟨rfl, hb⟩
    replace HB := Lib.hid (below_trans HB.out hb)
    replace HT := Lib.hid (HT.out.step hb)
    replace HI := Lib.hid (HI.out.step hb)
    replace h0 := HT.out.c0
    clear hb
    clear h0
    go_wp2
    go_ret2
    exact ⟨rfl, HB.out⟩
  · rw [decide_eq_false hX]
    have hXi : ¬ (X : Int) ≤ 1 := by omega
    have hXd : decide ((X : Int) ≤ 1) = false := decide_eq_false hXi
    go_enter Try.func20, Try.ntmps20
    go_wp2_with fail
    generalize w.alloc (.cells #[.slice A ns.length c] 33) = w0 at HB HT HI ⊢
    have h0 := HT.out.c0
    with_reducible refine (HW.out _ HI.out).mono ?_
    rintro e w1 ⟨rfl, hb⟩
    replace HB := Lib.hid (below_trans HB.out hb)
    replace HT := Lib.hid (HT.out.step hb)
    replace HI := Lib.hid (HI.out.step hb)
    replace h0 := HT.out.c0
    clear hb
    clear h0
    go_wp2
    go_ret2
    exact ⟨rfl, HB.out⟩
set_option maxRecDepth 100000 in
set_option maxHeartbeats 8000000 in
theorem mostAtLeaf_impl_no1 (n : Int) (A : Option Addr) (c lo hi : Nat) (ns : List (Int × Int × Int)) (m : Int) (w : World) (hS : NIns w lo hi A ns) (hn : ns.length ≤ 1048576) (hno : isT9 n ns = false) :
    Calls Try.prog 18 #[.int .i64 n, .agg #[.slice A ns.length c], .int .i64 m] w fun e w' => e = .returned (.tuple #[.int .i64 0, .bool false]) ∧ Below w.heap.size w w' := by
  have HT := Lib.hid (One.new w (.slice A ns.length c) 33 w.heap.size rfl)
  have HB := Lib.hid ((Below.refl w.heap.size w).alloc (Nat.le_refl _) (.cells #[.slice A ns.length c] 33))
  have HI := Lib.hid (hS.step HB.out)
  have HC := Lib.hid (fun W h => leavesOf_impl_no n A c lo hi ns W h hn hno)
  clear hS hno
  go_enter Try.func18, Try.ntmps18
  go_wp2_with fail
  generalize w.alloc (.cells #[.slice A ns.length c] 33) = w0 at HB HT HI ⊢
  have h0 := HT.out.c0
  with_reducible refine (HC.out _ HI.out).mono ?_
  rintro e w1 ⟨Bl, dl, rfl, hl, hb⟩
  replace HB := Lib.hid (below_trans HB.out hb)
  replace HT := Lib.hid (HT.out.step hb)
  replace HI := Lib.hid (HI.out.step hb)
  replace h0 := HT.out.c0
  clear hb
  clear h0
  go_wp2
  go_ret2
  exact ⟨rfl, HB.out⟩
set_option maxRecDepth 100000 in
set_option maxHeartbeats 8000000 in
theorem mostAtLeaf_spec_no1 (n : Int) (A : Option Addr) (c lo hi : Nat) (ns : List (Int × Int × Int)) (m : Int) (w : World) (hS : NIns w lo hi A ns) (hn : ns.length ≤ 1048576) (hno : isT9 n ns = false) :
    Calls Try.prog 17 #[.int .i64 n, .agg #[.slice A ns.length c], .int .i64 m] w fun e w' => e = .returned (.tuple #[.int .i64 0, .bool false]) ∧ Below w.heap.size w w' := by
  have HT := Lib.hid (One.new w (.slice A ns.length c) 33 w.heap.size rfl)
  have HB := Lib.hid ((Below.refl w.heap.size w).alloc (Nat.le_refl _) (.cells #[.slice A ns.length c] 33))
  have HI := Lib.hid (hS.step HB.out)
  have HC := Lib.hid (fun W h => l9Tree_any n A c lo hi ns W h hn)
  rw [hno] at HC
  clear hS hno
  go_enter Try.func17, Try.ntmps17
  go_wp2_with fail
  generalize w.alloc (.cells #[.slice A ns.length c] 33) = w0 at HB HT HI ⊢
  have h0 := HT.out.c0
  with_reducible refine (HC.out _ HI.out).mono ?_
  rintro e w1 ⟨rfl, hb⟩
  replace HB := Lib.hid (below_trans HB.out hb)
  replace HT := Lib.hid (HT.out.step hb)
  replace HI := Lib.hid (HI.out.step hb)
  replace h0 := HT.out.c0
  clear hb
  clear h0
  go_wp2
  go_ret2
  exact ⟨rfl, HB.out⟩
set_option maxRecDepth 100000 in
set_option maxHeartbeats 8000000 in
theorem mostAtLeaf_impl_no2 (n : Int) (A : Option Addr) (c lo hi : Nat) (ns : List (Int × Int × Int)) (m : Int) (w : World) (hS : NIns w lo hi A ns) (hn : ns.length ≤ 1048576) (t : T9) (hT : Tree9 n ns t) (hm : inB m 0 2 = false) :
    Calls Try.prog 18 #[.int .i64 n, .agg #[.slice A ns.length c], .int .i64 m] w fun e w' => e = .returned (.tuple #[.int .i64 0, .bool false]) ∧ Below w.heap.size w w' := by
  have HT := Lib.hid (One.new w (.slice A ns.length c) 33 w.heap.size rfl)
  have HB := Lib.hid ((Below.refl w.heap.size w).alloc (Nat.le_refl _) (.cells #[.slice A ns.length c] 33))
  have HI := Lib.hid (hS.step HB.out)
  have HC := Lib.hid (fun W h => leavesOf_impl n A c lo hi ns t W h hT)
  have HMo := Lib.hid (fun W => isMost_any m W)
  rw [hm] at HMo
  clear hS hT hm
  go_enter Try.func18, Try.ntmps18
  go_wp2_with fail
  generalize w.alloc (.cells #[.slice A ns.length c] 33) = w0 at HB HT HI ⊢
  have h0 := HT.out.c0
  with_reducible refine (HC.out _ HI.out).mono ?_
  rintro e w1 ⟨Bl, dl, rfl, hl, hb⟩
  replace HB := Lib.hid (below_trans HB.out hb)
  replace HT := Lib.hid (HT.out.step hb)
  replace HI := Lib.hid (HI.out.step hb)
  replace h0 := HT.out.c0
  clear hb
  clear h0
  go_wp2_with (go_at_call 71; (with_reducible refine (HMo.out _).mono ?_); rintro e wX ⟨rfl, hw⟩; have hw := hw.symm; subst hw)
  go_ret2
  exact ⟨rfl, HB.out⟩
set_option maxRecDepth 100000 in
set_option maxHeartbeats 8000000 in
theorem mostAtLeaf_spec_no2 (n : Int) (A : Option Addr) (c lo hi : Nat) (ns : List (Int × Int × Int)) (m : Int) (w : World) (hS : NIns w lo hi A ns) (hn : ns.length ≤ 1048576) (t : T9) (hT : Tree9 n ns t) (hm : inB m 0 2 = false) :
    Calls Try.prog 17 #[.int .i64 n, .agg #[.slice A ns.length c], .int .i64 m] w fun e w' => e = .returned (.tuple #[.int .i64 0, .bool false]) ∧ Below w.heap.size w w' := by
  have HT := Lib.hid (One.new w (.slice A ns.length c) 33 w.heap.size rfl)
  have HB := Lib.hid ((Below.refl w.heap.size w).alloc (Nat.le_refl _) (.cells #[.slice A ns.length c] 33))
  have HI := Lib.hid (hS.step HB.out)
  have HC := Lib.hid (fun W h => l9Tree_any n A c lo hi ns W h hn)
  rw [isT9_mk hT] at HC
  have HM := Lib.hid (fun W => l1In_any m 0 2 W)
  rw [hm] at HM
  clear hS hT hm
  go_enter Try.func17, Try.ntmps17
  go_wp2_with fail
  generalize w.alloc (.cells #[.slice A ns.length c] 33) = w0 at HB HT HI ⊢
  have h0 := HT.out.c0
  with_reducible refine (HC.out _ HI.out).mono ?_
  rintro e w1 ⟨rfl, hb⟩
  replace HB := Lib.hid (below_trans HB.out hb)
  replace HT := Lib.hid (HT.out.step hb)
  replace HI := Lib.hid (HI.out.step hb)
  replace h0 := HT.out.c0
  clear hb
  clear h0
  go_wp2_with (go_at_call 58; (with_reducible refine (HM.out _).mono ?_); rintro e wX ⟨rfl, hw⟩; have hw := hw.symm; subst hw)
  go_ret2
  exact ⟨rfl, HB.out⟩
theorem mostAtLeaf_both (n : Int) (ns : List (Int × Int × Int)) (h : ns.length ≤ 1048576) (m : Int) : ∃ (r0 : Int) (r1 : Bool),
    (∀ (w : World) (B : Option Addr) (c lo hi : Nat), NIns w lo hi B ns → Calls Try.prog 18 #[.int .i64 n, .agg #[.slice B ns.length c], .int .i64 m] w fun e w' => e = .returned (.tuple #[.int .i64 r0, .bool r1]) ∧ Below w.heap.size w w') ∧
    (∀ (w : World) (B : Option Addr) (c lo hi : Nat), NIns w lo hi B ns → Calls Try.prog 17 #[.int .i64 n, .agg #[.slice B ns.length c], .int .i64 m] w fun e w' => e = .returned (.tuple #[.int .i64 r0, .bool r1]) ∧ Below w.heap.size w w') := by
  cases hno : isT9 n ns with
  | false => exact ⟨0, false, fun w B c lo hi hS => mostAtLeaf_impl_no1 n B c lo hi ns m w hS h hno, fun w B c lo hi hS => mostAtLeaf_spec_no1 n B c lo hi ns m w hS h hno⟩
  | true =>
    obtain ⟨t, hT⟩ := isT9_of hno
    cases hm : inB m 0 2 with
    | false => exact ⟨0, false, fun w B c lo hi hS => mostAtLeaf_impl_no2 n B c lo hi ns m w hS h t hT hm, fun w B c lo hi hS => mostAtLeaf_spec_no2 n B c lo hi ns m w hS h t hT hm⟩
    | true =>
      have hn12 := hT.n12
      obtain ⟨N, rfl⟩ : ∃ N : Nat, n = (N : Int) := ⟨n.toNat, by omega⟩
      exact ⟨((most9 N m t (leaves9 ns ns.length) (leaves9 ns ns.length).length : Nat) : Int), true, fun w B c lo hi hS => mostAtLeaf_impl N B c lo hi ns m t w hS hT hm, fun w B c lo hi hS => mostAtLeaf_spec N B c lo hi ns m t w hS hT hm⟩
set_option maxRecDepth 100000 in
set_option maxHeartbeats 8000000 in
theorem isGoodTree_impl_no1 (n : Int) (A : Option Addr) (c lo hi : Nat) (ns : List (Int × Int × Int)) (m : Int) (w : World) (hS : NIns w lo hi A ns) (hn : ns.length ≤ 1048576) (hno : isT9 n ns = false) :
    Calls Try.prog 20 #[.int .i64 n, .agg #[.slice A ns.length c], .int .i64 m] w fun e w' => e = .returned (.tuple #[.bool false, .bool false]) ∧ Below w.heap.size w w' := by
  have HT := Lib.hid (One.new w (.slice A ns.length c) 33 w.heap.size rfl)
  have HB := Lib.hid ((Below.refl w.heap.size w).alloc (Nat.le_refl _) (.cells #[.slice A ns.length c] 33))
  have HI := Lib.hid (hS.step HB.out)
  have HC := Lib.hid (fun W h => mostAtLeaf_impl_no1 n A c lo hi ns m W h hn hno)
  clear hS hno
  go_enter Try.func20, Try.ntmps20
  go_wp2_with fail
  generalize w.alloc (.cells #[.slice A ns.length c] 33) = w0 at HB HT HI ⊢
  have h0 := HT.out.c0
  with_reducible refine (HC.out _ HI.out).mono ?_
  rintro e w1 ⟨rfl, hb⟩
  replace HB := Lib.hid (below_trans HB.out hb)
  replace HT := Lib.hid (HT.out.step hb)
  replace HI := Lib.hid (HI.out.step hb)
  replace h0 := HT.out.c0
  clear hb
  clear h0
  go_wp2
  go_ret2
  exact ⟨rfl, HB.out⟩
set_option maxRecDepth 100000 in
set_option maxHeartbeats 8000000 in
theorem isGoodTree_spec_no1 (n : Int) (A : Option Addr) (c lo hi : Nat) (ns : List (Int × Int × Int)) (m : Int) (w : World) (hS : NIns w lo hi A ns) (hn : ns.length ≤ 1048576) (hno : isT9 n ns = false) :
    Calls Try.prog 19 #[.int .i64 n, .agg #[.slice A ns.length c], .int .i64 m] w fun e w' => e = .returned (.tuple #[.bool false, .bool false]) ∧ Below w.heap.size w w' := by
  have HT := Lib.hid (One.new w (.slice A ns.length c) 33 w.heap.size rfl)
  have HB := Lib.hid ((Below.refl w.heap.size w).alloc (Nat.le_refl _) (.cells #[.slice A ns.length c] 33))
  have HI := Lib.hid (hS.step HB.out)
  have HC := Lib.hid (fun W h => l9Tree_any n A c lo hi ns W h hn)
  rw [hno] at HC
  clear hS hno
  go_enter Try.func19, Try.ntmps19
  go_wp2_with fail
  generalize w.alloc (.cells #[.slice A ns.length c] 33) = w0 at HB HT HI ⊢
  have h0 := HT.out.c0
  with_reducible refine (HC.out _ HI.out).mono ?_
  rintro e w1 ⟨rfl, hb⟩
  replace HB := Lib.hid (below_trans HB.out hb)
  replace HT := Lib.hid (HT.out.step hb)
  replace HI := Lib.hid (HI.out.step hb)
  replace h0 := HT.out.c0
  clear hb
  clear h0
  go_wp2
  go_ret2
  exact ⟨rfl, HB.out⟩
set_option maxRecDepth 100000 in
set_option maxHeartbeats 8000000 in
theorem isGoodTree_impl_no2 (n : Int) (A : Option Addr) (c lo hi : Nat) (ns : List (Int × Int × Int)) (m : Int) (w : World) (hS : NIns w lo hi A ns) (hn : ns.length ≤ 1048576) (t : T9) (hT : Tree9 n ns t) (hm : inB m 0 2 = false) :
    Calls Try.prog 20 #[.int .i64 n, .agg #[.slice A ns.length c], .int .i64 m] w fun e w' => e = .returned (.tuple #[.bool false, .bool false]) ∧ Below w.heap.size w w' := by
  have HT := Lib.hid (One.new w (.slice A ns.length c) 33 w.heap.size rfl)
  have HB := Lib.hid ((Below.refl w.heap.size w).alloc (Nat.le_refl _) (.cells #[.slice A ns.length c] 33))
  have HI := Lib.hid (hS.step HB.out)
  have HC := Lib.hid (fun W h => mostAtLeaf_impl_no2 n A c lo hi ns m W h hn t hT hm)
  clear hS hT hm
  go_enter Try.func20, Try.ntmps20
  go_wp2_with fail
  generalize w.alloc (.cells #[.slice A ns.length c] 33) = w0 at HB HT HI ⊢
  have h0 := HT.out.c0
  with_reducible refine (HC.out _ HI.out).mono ?_
  rintro e w1 ⟨rfl, hb⟩
  replace HB := Lib.hid (below_trans HB.out hb)
  replace HT := Lib.hid (HT.out.step hb)
  replace HI := Lib.hid (HI.out.step hb)
  replace h0 := HT.out.c0
  clear hb
  clear h0
  go_wp2
  go_ret2
  exact ⟨rfl, HB.out⟩
set_option maxRecDepth 100000 in
set_option maxHeartbeats 8000000 in
theorem isGoodTree_spec_no2 (n : Int) (A : Option Addr) (c lo hi : Nat) (ns : List (Int × Int × Int)) (m : Int) (w : World) (hS : NIns w lo hi A ns) (hn : ns.length ≤ 1048576) (t : T9) (hT : Tree9 n ns t) (hm : inB m 0 2 = false) :
    Calls Try.prog 19 #[.int .i64 n, .agg #[.slice A ns.length c], .int .i64 m] w fun e w' => e = .returned (.tuple #[.bool false, .bool false]) ∧ Below w.heap.size w w' := by
  have HT := Lib.hid (One.new w (.slice A ns.length c) 33 w.heap.size rfl)
  have HB := Lib.hid ((Below.refl w.heap.size w).alloc (Nat.le_refl _) (.cells #[.slice A ns.length c] 33))
  have HI := Lib.hid (hS.step HB.out)
  have HC := Lib.hid (fun W h => l9Tree_any n A c lo hi ns W h hn)
  rw [isT9_mk hT] at HC
  have HM := Lib.hid (fun W => l1In_any m 0 2 W)
  rw [hm] at HM
  clear hS hT hm
  go_enter Try.func19, Try.ntmps19
  go_wp2_with fail
  generalize w.alloc (.cells #[.slice A ns.length c] 33) = w0 at HB HT HI ⊢
  have h0 := HT.out.c0
  with_reducible refine (HC.out _ HI.out).mono ?_
  rintro e w1 ⟨rfl, hb⟩
  replace HB := Lib.hid (below_trans HB.out hb)
  replace HT := Lib.hid (HT.out.step hb)
  replace HI := Lib.hid (HI.out.step hb)
  replace h0 := HT.out.c0
  clear hb
  clear h0
  go_wp2_with (go_at_call 58; (with_reducible refine (HM.out _).mono ?_); rintro e wX ⟨rfl, hw⟩; have hw := hw.symm; subst hw)
  go_ret2
  exact ⟨rfl, HB.out⟩
theorem isGoodTree_both (n : Int) (ns : List (Int × Int × Int)) (h : ns.length ≤ 1048576) (m : Int) : ∃ (r0 : Bool) (r1 : Bool),
    (∀ (w : World) (B : Option Addr) (c lo hi : Nat), NIns w lo hi B ns → Calls Try.prog 20 #[.int .i64 n, .agg #[.slice B ns.length c], .int .i64 m] w fun e w' => e = .returned (.tuple #[.bool r0, .bool r1]) ∧ Below w.heap.size w w') ∧
    (∀ (w : World) (B : Option Addr) (c lo hi : Nat), NIns w lo hi B ns → Calls Try.prog 19 #[.int .i64 n, .agg #[.slice B ns.length c], .int .i64 m] w fun e w' => e = .returned (.tuple #[.bool r0, .bool r1]) ∧ Below w.heap.size w w') := by
  cases hno : isT9 n ns with
  | false => exact ⟨false, false, fun w B c lo hi hS => isGoodTree_impl_no1 n B c lo hi ns m w hS h hno, fun w B c lo hi hS => isGoodTree_spec_no1 n B c lo hi ns m w hS h hno⟩
  | true =>
    obtain ⟨t, hT⟩ := isT9_of hno
    cases hm : inB m 0 2 with
    | false => exact ⟨false, false, fun w B c lo hi hS => isGoodTree_impl_no2 n B c lo hi ns m w hS h t hT hm, fun w B c lo hi hS => isGoodTree_spec_no2 n B c lo hi ns m w hS h t hT hm⟩
    | true =>
      have hn12 := hT.n12
      obtain ⟨N, rfl⟩ : ∃ N : Nat, n = (N : Int) := ⟨n.toNat, by omega⟩
      exact ⟨decide (most9 N m t (leaves9 ns ns.length) (leaves9 ns ns.length).length ≤ 1), true, fun w B c lo hi hS => isGoodTree_impl N B c lo hi ns m t w hS hT hm, fun w B c lo hi hS => isGoodTree_spec N B c lo hi ns m t w hS hT hm⟩
end Go.Proofs.Ytdkffkgoalgjmac
