/- SplitNeed: both. -/
import Derived.Test.YtdkffkgoalgjmabNeedB
namespace Go.Proofs.Ytdkffkgoalgjmab
open Go.RowKit Go.ChangeShapes Go.WideShapes
set_option linter.unusedVariables false

/-- Whether a split has a need. -/
def snOK (zs ss : List Int) : Bool := cOK zs && fitL ss zs && !(decide (rsum (rowL zs) ≤ 1)) && !(backR (rowL zs) (rowL ss))
set_option maxRecDepth 100000 in
set_option maxHeartbeats 4000000 in
theorem splitNeed_impl (A : Option Addr) (c lo hi : Nat) (zs : List Int) (A2 : Option Addr) (c2 lo2 hi2 : Nat) (ss : List Int) (w : World) (hS : Ins w lo hi A zs) (hS2 : Ins w lo2 hi2 A2 ss) (hn : zs.length ≤ 1048576) (hn2 : ss.length ≤ 1048576) :
    Calls Try.prog 20 #[.slice A zs.length c, .slice A2 ss.length c2] w fun e w' => e = .returned (.tuple #[.int .i64 (if snOK zs ss then ((valR (rowL zs) (rowL ss) : Nat) : Int) else 0), .bool (snOK zs ss)]) ∧ Below w.heap.size w w' := by
  have HC := Lib.hid (fun W h h2 => isSplit_any A c lo hi zs A2 c2 lo2 hi2 ss W h h2 hn hn2)
  have HS := Lib.hid hS
  have HS2 := Lib.hid hS2
  clear hS hS2
  cases hok : (cOK zs && fitL ss zs) with
  | false =>
    rw [hok] at HC
    have E : snOK zs ss = false := by unfold snOK; rw [hok]; rfl
    rw [E]
    go_enter Try.func20, Try.ntmps20
    go_wp2_with fail
    refine (HC.out w HS.out HS2.out).mono ?_
    rintro e w1 ⟨rfl, rfl⟩
    go_wp2
    go_ret2
    exact ⟨rfl, Below.refl _ _⟩
  | true =>
    rw [hok] at HC
    have hsn : snOK zs ss = (!(decide (rsum (rowL zs) ≤ 1)) && !(backR (rowL zs) (rowL ss))) := by unfold snOK; rw [hok]; simp
    rw [hsn]
    clear hsn
    rw [Bool.and_eq_true] at hok
    obtain ⟨r, hr, hw, h8⟩ := cOK_row hok.1
    have hf := hok.2
    rw [hr] at hf
    obtain ⟨s, hs, hws, hfs⟩ := fit_row hw hf
    have hp := hw.le
    rw [rowL_eq hr hw, rowL_eq (p := zs.length) hs hws]
    have hl2 : ss.length = zs.length := by rw [hs, lst_len hp]
    rw [hl2] at HC ⊢
    generalize zs.length = p at *
    have HR1 := Lib.hid (fun W h => rowOf_any A c lo hi p r W h hw)
    have HR2 := Lib.hid (fun W h => rowOf_any A2 c2 lo2 hi2 p s W h hws)
    rw [← hr] at HR1
    rw [← hs] at HR2
    have HTo := Lib.hid (fun W => isTold_any r W h8)
    have HBk := Lib.hid (fun W => leadsBack_any r s W h8 hfs)
    have HSn := Lib.hid (fun (hb : backR r s = false) W M h => splitNeed_of (massR r) (planLess (massR r)) r s W M h8 hfs (mass_yes hfs hb).1 (mass_yes hfs hb).2 h)
    clear hok hf hr hs
    go_enter Try.func20, Try.ntmps20
    go_wp2_with fail
    refine (HC.out w HS.out HS2.out).mono ?_
    rintro e w1 ⟨rfl, rfl⟩
    clear HC
    go_wp2_with fail
    refine (HR1.out w1 HS.out).mono ?_
    rintro e w2 ⟨rfl, hb⟩
    have HB := Lib.hid hb
    have HS22 := Lib.hid (HS2.out.step hb)
    clear hb HR1
    go_wp2_with fail
    refine (HR2.out w2 HS22.out).mono ?_
    rintro e w3 ⟨rfl, hb⟩
    replace HB := Lib.hid (below_trans HB.out hb)
    clear hb HR2
    have A1 := (Below.refl _ w3).alloc (Nat.le_refl _) (.cells #[.int .i64 (r.1 : Int), .int .i64 (r.2.1 : Int), .int .i64 (r.2.2 : Int)] 66)
    have A2' := (Below.refl _ (w3.alloc (.cells #[.int .i64 (r.1 : Int), .int .i64 (r.2.1 : Int), .int .i64 (r.2.2 : Int)] 66))).alloc (Nat.le_refl _) (.cells #[.int .i64 (s.1 : Int), .int .i64 (s.2.1 : Int), .int .i64 (s.2.2 : Int)] 66)
    have HT6 := Lib.hid ((Three.new w3 (.int .i64 (r.1 : Int)) (.int .i64 (r.2.1 : Int)) (.int .i64 (r.2.2 : Int)) w3.heap.size rfl).step A2')
    have HT7 := Lib.hid (Three.new (w3.alloc (.cells #[.int .i64 (r.1 : Int), .int .i64 (r.2.1 : Int), .int .i64 (r.2.2 : Int)] 66)) (.int .i64 (s.1 : Int)) (.int .i64 (s.2.1 : Int)) (.int .i64 (s.2.2 : Int)) (w3.heap.size + 1) (by simp))
    have HB4 := Lib.hid (below_trans (below_trans HB.out A1) A2')
    clear A1 A2'
    go_wp2_with fail
    generalize (w3.alloc (.cells #[.int .i64 (r.1 : Int), .int .i64 (r.2.1 : Int), .int .i64 (r.2.2 : Int)] 66)).alloc (.cells #[.int .i64 (s.1 : Int), .int .i64 (s.2.1 : Int), .int .i64 (s.2.2 : Int)] 66) = w4 at HT6 HT7 HB4 ⊢
    have p0 := HT6.out.c0
    have p1 := HT6.out.c1
    have p2 := HT6.out.c2
    have q0 := HT7.out.c0
    have q1 := HT7.out.c1
    have q2 := HT7.out.c2
    first
      | refine (HTo.out w4).mono ?_
      | (go_wp2_with fail; refine (HTo.out w4).mono ?_)
    rintro e w5 ⟨rfl, hb⟩
    replace HB4 := Lib.hid (below_trans HB4.out hb)
    replace HT6 := Lib.hid (HT6.out.step hb)
    replace HT7 := Lib.hid (HT7.out.step hb)
    clear hb p0 p1 p2 q0 q1 q2
    have p0 := HT6.out.c0
    have p1 := HT6.out.c1
    have p2 := HT6.out.c2
    have q0 := HT7.out.c0
    have q1 := HT7.out.c1
    have q2 := HT7.out.c2
    by_cases hT : rsum r ≤ 1
    · have hd := decide_eq_true hT
      rw [hd]
      go_wp2
      all_goals
        go_ret2
        exact ⟨by simp, HB4.out⟩
    · have hd := decide_eq_false hT
      rw [hd]
      go_wp2_with fail
      refine (HBk.out w5).mono ?_
      rintro e w6 ⟨rfl, hb⟩
      replace HB4 := Lib.hid (below_trans HB4.out hb)
      replace HT6 := Lib.hid (HT6.out.step hb)
      replace HT7 := Lib.hid (HT7.out.step hb)
      clear hb p0 p1 p2 q0 q1 q2
      cases hbk : backR r s with
      | true =>
        go_wp2
        all_goals
          go_ret2
          exact ⟨by simp, HB4.out⟩
      | false =>
        have HSn2 := Lib.hid (HSn.out hbk)
        have hmk := makePlans
        have A1 := (Below.refl _ w6).alloc (Nat.le_refl _) (.map #[] 0)
        have HM6 := Lib.hid (PlanM.made w6)
        have HB6 := Lib.hid (below_trans HB4.out A1)
        replace HT6 := Lib.hid (HT6.out.step A1)
        replace HT7 := Lib.hid (HT7.out.step A1)
        have p0 := HT6.out.c0
        have p1 := HT6.out.c1
        have p2 := HT6.out.c2
        have q0 := HT7.out.c0
        have q1 := HT7.out.c1
        have q2 := HT7.out.c2
        have hsz := HB4.out.size
        clear A1
        go_wp2_with fail
        refine (HSn2.out _ _ HM6.out).mono ?_
        rintro e w7 ⟨rfl, hpm, hw7⟩
        have HB7 := Lib.hid (HB6.out.trans (hw7.below (by omega) HB6.out.size))
        clear hpm hw7
        go_wp2
        all_goals
          go_ret2
          exact ⟨by simp, HB7.out⟩
set_option maxRecDepth 100000 in
set_option maxHeartbeats 4000000 in
theorem splitNeed_spec (A : Option Addr) (c lo hi : Nat) (zs : List Int) (A2 : Option Addr) (c2 lo2 hi2 : Nat) (ss : List Int) (w : World) (hS : Ins w lo hi A zs) (hS2 : Ins w lo2 hi2 A2 ss) (hn : zs.length ≤ 1048576) (hn2 : ss.length ≤ 1048576) :
    Calls Try.prog 19 #[.slice A zs.length c, .slice A2 ss.length c2] w fun e w' => e = .returned (.tuple #[.int .i64 (if snOK zs ss then ((valR (rowL zs) (rowL ss) : Nat) : Int) else 0), .bool (snOK zs ss)]) ∧ Below w.heap.size w w' := by
  have HC := Lib.hid (fun W h => l4Counts_any A c lo hi zs W h hn)
  have HS := Lib.hid hS
  have HS2 := Lib.hid hS2
  clear hS hS2
  cases hc : cOK zs with
  | false =>
    rw [hc] at HC
    have E : snOK zs ss = false := by unfold snOK; rw [hc]; rfl
    rw [E]
    go_enter Try.func19, Try.ntmps19
    go_wp2_with fail
    refine (HC.out w HS.out).mono ?_
    rintro e w1 ⟨rfl, rfl⟩
    go_wp2
    all_goals
      go_ret2
      exact ⟨rfl, Below.refl _ _⟩
  | true =>
    rw [hc] at HC
    obtain ⟨r, hr, hw, h8⟩ := cOK_row hc
    have hp := hw.le
    have HF := Lib.hid (fun W h h2 => l4Split_any A c lo hi zs A2 c2 lo2 hi2 ss W h h2 hp.2 hn2)
    cases hf : fitL ss zs with
    | false =>
      rw [hf] at HF
      have E : snOK zs ss = false := by unfold snOK; rw [hc, hf]; rfl
      rw [E]
      clear hr hw hc hf
      go_enter Try.func19, Try.ntmps19
      go_wp2_with fail
      refine (HC.out w HS.out).mono ?_
      rintro e w1 ⟨rfl, rfl⟩
      go_wp2_with fail
      refine (HF.out w1 HS.out HS2.out).mono ?_
      rintro e w2 ⟨rfl, hb⟩
      have HB := Lib.hid hb
      clear hb
      go_wp2
      all_goals
        go_ret2
        exact ⟨rfl, HB.out⟩
    | true =>
      rw [hf] at HF
      have hsn : snOK zs ss = (!(decide (rsum (rowL zs) ≤ 1)) && !(backR (rowL zs) (rowL ss))) := by unfold snOK; rw [hc, hf]; simp
      rw [hsn]
      clear hsn
      rw [hr] at hf
      obtain ⟨s, hs, hws, hfs⟩ := fit_row hw hf
      rw [rowL_eq hr hw, rowL_eq (p := zs.length) hs hws]
      have hl2 : ss.length = zs.length := by rw [hs, lst_len hp]
      rw [hl2] at HF ⊢
      generalize zs.length = p at *
      have HTd := Lib.hid (fun W h => l4Told_any A c lo hi p r W h hw (fun i => comp_le h8 i))
      have HNs := Lib.hid (fun W => l4Needs_any p W hp)
      have HSn := Lib.hid (fun B cB loB hiB W h h2 h3 => l4SplitNeed_any A c lo hi B cB loB hiB A2 c2 lo2 hi2 p r s W h h3 h2 hw h8 hfs)
      rw [← hr] at HTd HSn
      rw [← hs] at HSn
      have HHS : Hid (snR r s = if backR r s = true then -1 else ((valR r s : Nat) : Int)) := Lib.hid rfl
      have hvl : valR r s ≤ 20 := by
        have h1 := need_le (yes_sum h8 hfs).1
        have h2 := need_le (yes_sum h8 hfs).2
        unfold valR
        omega
      clear hr hs hf hc
      go_enter Try.func19, Try.ntmps19
      go_wp2_with fail
      refine (HC.out w HS.out).mono ?_
      rintro e w1 ⟨rfl, rfl⟩
      go_wp2_with fail
      refine (HF.out w1 HS.out HS2.out).mono ?_
      rintro e w2 ⟨rfl, hb⟩
      have HB := Lib.hid hb
      replace HS := Lib.hid (HS.out.step hb)
      replace HS2 := Lib.hid (HS2.out.step hb)
      clear hb HF HC
      go_wp2_with fail
      refine (HTd.out w2 HS.out).mono ?_
      rintro e w3 ⟨rfl, rfl⟩
      by_cases hT : rsum r ≤ 1
      · rw [decide_eq_true hT]
        go_wp2
        all_goals
          go_ret2
          exact ⟨by simp, HB.out⟩
      · rw [decide_eq_false hT]
        go_wp2_with fail
        refine (HNs.out w3).mono ?_
        rintro e w4 ⟨g, cg, rfl, hg, ho, hb⟩
        have HO := Lib.hid (Ins.mk ho.ints (own_lt ho))
        replace HB := Lib.hid (below_trans HB.out hb)
        replace HS := Lib.hid (HS.out.step hb)
        replace HS2 := Lib.hid (HS2.out.step hb)
        clear ho hb HNs HTd
        go_wp2_with fail
        refine (HSn.out (some ⟨g, 0, none⟩) cg g (g + 1) w4 HS.out HO.out HS2.out).mono ?_
        rintro e w5 ⟨rfl, hb⟩
        replace HB := Lib.hid (below_trans HB.out hb)
        clear hb HSn
        rw [HHS.out]
        cases hbk : backR r s with
        | true =>
          have hm := fun W => l1Most_any (-1) 0 W
          simp only [if_true]
          go_wp2_with (go_at_call 65; refine (hm _).mono ?_; rintro e w6 ⟨rfl, rfl⟩)
          all_goals
            go_wp2
            go_ret2
            exact ⟨by simp, HB.out⟩
        | false =>
          have hm : ∀ W, Calls Try.prog 65 #[.int .i64 ((valR r s : Nat) : Int), .int .i64 0] W fun e w' => e = .returned (.int .i64 ((valR r s : Nat) : Int)) ∧ w' = W := fun W => by
            have h := l1Most_any ((valR r s : Nat) : Int) 0 W
            rwa [if_pos (by omega)] at h
          simp only [Bool.false_eq_true, if_false]
          generalize hv : valR r s = vv at hm hvl ⊢
          have HV := Lib.hid hv
          clear hv
          go_wp2_with (go_at_call 65; refine (hm _).mono ?_; rintro e w6 ⟨rfl, rfl⟩)
          all_goals
            go_wp2
            go_ret2
            exact ⟨by simp [HV.out], HB.out⟩
theorem splitNeed_both (zs : List Int) (h : zs.length ≤ 1048576) (ss : List Int) (h2 : ss.length ≤ 1048576) : ∃ (r0 : Int) (r1 : Bool),
    (∀ (w : World) (B : Option Addr) (c lo hi : Nat) (B2 : Option Addr) (c2 lo2 hi2 : Nat), Ins w lo hi B zs → Ins w lo2 hi2 B2 ss → Calls Try.prog 20 #[.slice B zs.length c, .slice B2 ss.length c2] w fun e w' => e = .returned (.tuple #[.int .i64 r0, .bool r1]) ∧ Below w.heap.size w w') ∧
    (∀ (w : World) (B : Option Addr) (c lo hi : Nat) (B2 : Option Addr) (c2 lo2 hi2 : Nat), Ins w lo hi B zs → Ins w lo2 hi2 B2 ss → Calls Try.prog 19 #[.slice B zs.length c, .slice B2 ss.length c2] w fun e w' => e = .returned (.tuple #[.int .i64 r0, .bool r1]) ∧ Below w.heap.size w w') :=
  ⟨_, _, fun w B c lo hi B2 c2 lo2 hi2 hS hS2 => splitNeed_impl B c lo hi zs B2 c2 lo2 hi2 ss w hS hS2 h h2, fun w B c lo hi B2 c2 lo2 hi2 hS hS2 => splitNeed_spec B c lo hi zs B2 c2 lo2 hi2 ss w hS hS2 h h2⟩
end Go.Proofs.Ytdkffkgoalgjmab
