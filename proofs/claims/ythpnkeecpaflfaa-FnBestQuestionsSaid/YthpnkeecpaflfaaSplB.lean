/- SplitNeed: both. -/
import Derived.Test.YthpnkeecpaflfaaNeedB
namespace Go.Proofs.Ythpnkeecpaflfaa
open Go.RowKit Go.ChangeShapes Go.WideShapes
set_option linter.unusedVariables false

/-- Whether a split has a need. -/
def snOK (zs ss : List Int) : Bool := cOK zs && fitL ss zs && !(decide (rsum (rowL zs) ≤ 1)) && !(backR (rowL zs) (rowL ss))
set_option maxRecDepth 100000 in
set_option maxHeartbeats 4000000 in
theorem splitNeed_impl (A : Option Addr) (c lo hi : Nat) (zs : List Int) (A2 : Option Addr) (c2 lo2 hi2 : Nat) (ss : List Int) (w : World) (hS : Ins w lo hi A zs) (hS2 : Ins w lo2 hi2 A2 ss) (hn : zs.length ≤ 1048576) (hn2 : ss.length ≤ 1048576) :
    Calls Try.prog 30 #[.slice A zs.length c, .slice A2 ss.length c2] w fun e w' => e = .returned (.tuple #[.int .i64 (if snOK zs ss then ((valR (rowL zs) (rowL ss) : Nat) : Int) else 0), .bool (snOK zs ss)]) ∧ Below w.heap.size w w' := by
  have HC := Lib.hid (fun W h h2 => isSplit_any A c lo hi zs A2 c2 lo2 hi2 ss W h h2 hn hn2)
  have HS := Lib.hid hS
  have HS2 := Lib.hid hS2
  clear hS hS2
  cases hok : (cOK zs && fitL ss zs) with
  | false =>
    rw [hok] at HC
    have E : snOK zs ss = false := by unfold snOK; rw [hok]; rfl
    rw [E]
    go_enter Try.func30, Try.ntmps30
    go_wp2_with fail
    refine (HC.out w HS.out HS2.out).mono ?_
    rintro e w1 ⟨rfl, rfl⟩
    go_wp2
    go_ret2
    exact ⟨rfl, Below.refl _ _⟩
  | true =>
    rw [hok] at HC
    have hsn : snOK zs ss = (!(decide (rsum (rowL zs) ≤ 1)) && !(backR (rowL zs) (rowL ss))) := by unfold snOK; rw [hok]; simp
    rw [hsn]
    clear hsn
    rw [Bool.and_eq_true] at hok
    obtain ⟨r, hr, hw, h8⟩ := cOK_row hok.1
    have hf := hok.2
    rw [hr] at hf
    obtain ⟨s, hs, hws, hfs⟩ := fit_row hw hf
    have hp := hw.le
    rw [rowL_eq hr hw, rowL_eq (p := zs.length) hs hws]
    have hl2 : ss.length = zs.length := by rw [hs, lst_len hp]
    rw [hl2] at HC ⊢
    generalize zs.length = p at *
    have HR1 := Lib.hid (fun W h => rowOf_any A c lo hi p r W h hw)
    have HR2 := Lib.hid (fun W h => rowOf_any A2 c2 lo2 hi2 p s W h hws)
    rw [← hr] at HR1
    rw [← hs] at HR2
    have HTo := Lib.hid (fun W => isTold_any r W h8)
    have HBk := Lib.hid (fun W => leadsBack_any r s W h8 hfs)
    have HSn := Lib.hid (fun (hb : backR r s = false) W M h => splitNeed_of (massR r) (planLess (massR r)) r s W M h8 hfs (mass_yes hfs hb).1 (mass_yes hfs hb).2 h)
    clear hok hf hr hs
    go_enter Try.func30, Try.ntmps30
    go_wp2_with fail
    refine (HC.out w HS.out HS2.out).mono ?_
    rintro e w1 ⟨rfl, rfl⟩
    clear HC
    go_wp2_with fail
    refine (HR1.out w1 HS.out).mono ?_
    rintro e w2 ⟨rfl, hb⟩
    have HB := Lib.hid hb
    have HS22 := Lib.hid (HS2.out.step hb)
    clear hb HR1
    go_wp2_with fail
    refine (HR2.out w2 HS22.out).mono ?_
    rintro e w3 ⟨rfl, hb⟩
    replace HB := Lib.hid (below_trans HB.out hb)
    clear hb HR2
    have A1 := (Below.refl _ w3).alloc (Nat.le_refl _) (.cells #[.int .i64 (r.1 : Int), .int .i64 (r.2.1 : Int), .int .i64 (r.2.2 : Int)] 70)
    have A2' := (Below.refl _ (w3.alloc (.cells #[.int .i64 (r.1 : Int), .int .i64 (r.2.1 : Int), .int .i64 (r.2.2 : Int)] 70))).alloc (Nat.le_refl _) (.cells #[.int .i64 (s.1 : Int), .int .i64 (s.2.1 : Int), .int .i64 (s.2.2 : Int)] 70)
    have HT6 := Lib.hid ((Three.new w3 (.int .i64 (r.1 : Int)) (.int .i64 (r.2.1 : Int)) (.int .i64 (r.2.2 : Int)) w3.heap.size rfl).step A2')
    have HT7 := Lib.hid (Three.new (w3.alloc (.cells #[.int .i64 (r.1 : Int), .int .i64 (r.2.1 : Int), .int .i64 (r.2.2 : Int)] 70)) (.int .i64 (s.1 : Int)) (.int .i64 (s.2.1 : Int)) (.int .i64 (s.2.2 : Int)) (w3.heap.size + 1) (by simp))
    have HB4 := Lib.hid (below_trans (below_trans HB.out A1) A2')
    clear A1 A2'
    go_wp2_with fail
    generalize (w3.alloc (.cells #[.int .i64 (r.1 : Int), .int .i64 (r.2.1 : Int), .int .i64 (r.2.2 : Int)] 70)).alloc (.cells #[.int .i64 (s.1 : Int), .int .i64 (s.2.1 : Int), .int .i64 (s.2.2 : Int)] 70) = w4 at HT6 HT7 HB4 ⊢
    have p0 := HT6.out.c0
    have p1 := HT6.out.c1
    have p2 := HT6.out.c2
    have q0 := HT7.out.c0
    have q1 := HT7.out.c1
    have q2 := HT7.out.c2
    first
      | refine (HTo.out w4).mono ?_
      | (go_wp2_with fail; refine (HTo.out w4).mono ?_)
    rintro e w5 ⟨rfl, hb⟩
    replace HB4 := Lib.hid (below_trans HB4.out hb)
    replace HT6 := Lib.hid (HT6.out.step hb)
    replace HT7 := Lib.hid (HT7.out.step hb)
    clear hb p0 p1 p2 q0 q1 q2
    have p0 := HT6.out.c0
    have p1 := HT6.out.c1
    have p2 := HT6.out.c2
    have q0 := HT7.out.c0
    have q1 := HT7.out.c1
    have q2 := HT7.out.c2
    by_cases hT : rsum r ≤ 1
    · have hd := decide_eq_true hT
      rw [hd]
      go_wp2
      all_goals
        go_ret2
        exact ⟨by simp, HB4.out⟩
    · have hd := decide_eq_false hT
      rw [hd]
      go_wp2_with fail
      refine (HBk.out w5).mono ?_
      rintro e w6 ⟨rfl, hb⟩
      replace HB4 := Lib.hid (below_trans HB4.out hb)
      replace HT6 := Lib.hid (HT6.out.step hb)
      replace HT7 := Lib.hid (HT7.out.step hb)
      clear hb p0 p1 p2 q0 q1 q2
      cases hbk : backR r s with
      | true =>
        go_wp2
        all_goals
          go_ret2
          exact ⟨by simp, HB4.out⟩
      | false =>
        have HSn2 := Lib.hid (HSn.out hbk)
        have hmk := makePlans
        have A1 := (Below.refl _ w6).alloc (Nat.le_refl _) (.map #[] 0)
        have HM6 := Lib.hid (PlanM.made w6)
        have HB6 := Lib.hid (below_trans HB4.out A1)
        replace HT6 := Lib.hid (HT6.out.step A1)
        replace HT7 := Lib.hid (HT7.out.step A1)
        have p0 := HT6.out.c0
        have p1 := HT6.out.c1
        have p2 := HT6.out.c2
        have q0 := HT7.out.c0
        have q1 := HT7.out.c1
        have q2 := HT7.out.c2
        have hsz := HB4.out.size
        clear A1
        go_wp2_with fail
        refine (HSn2.out _ _ HM6.out).mono ?_
        rintro e w7 ⟨rfl, hpm, hw7⟩
        have HB7 := Lib.hid (HB6.out.trans (hw7.below (by omega) HB6.out.size))
        clear hpm hw7
        go_wp2
        all_goals
          go_ret2
          exact ⟨by simp, HB7.out⟩
end Go.Proofs.Ythpnkeecpaflfaa
