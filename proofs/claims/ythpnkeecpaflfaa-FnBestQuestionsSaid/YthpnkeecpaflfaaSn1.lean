/- splitNeed over planOf of less. -/
import Derived.Test.YthpnkeecpaflfaaPlans
namespace Go.Proofs.Ythpnkeecpaflfaa
open Go.RowKit Go.ChangeShapes Go.WideShapes
set_option linter.unusedVariables false

/-- planOf of counts of less than so much. -/
def PlanLess (m : Nat) : Prop := ∀ (r : Row), massR r < m → rsum r ≤ 8 → ∀ (w : World) (M : Nat), PlanM w M →
  Calls Try.prog 69 #[.map (some M), .agg #[.int .i64 (r.1 : Int), .int .i64 (r.2.1 : Int), .int .i64 (r.2.2 : Int)]] w fun e w' => e = .returned (planV (planR r)) ∧ PlanM w' M ∧ Within M (M + 1) w w'
structure SW (w0 : World) (M : Nat) (r s : Row) (W : World) : Prop where
  pm : PlanM W M
  t4 : Three W w0.heap.size (.int .i64 (r.1 : Int)) (.int .i64 (r.2.1 : Int)) (.int .i64 (r.2.2 : Int))
  t5 : Three W (w0.heap.size + 1) (.int .i64 (s.1 : Int)) (.int .i64 (s.2.1 : Int)) (.int .i64 (s.2.2 : Int))
  wi : Within M (M + 1) w0 W
theorem SW.step {w0 W W' : World} {M : Nat} {r s : Row} (h : SW w0 M r s W) (hM : M < w0.heap.size) (hw : Within M (M + 1) W W') (pm : PlanM W' M) : SW w0 M r s W' :=
  ⟨pm, h.t4.within hw (.inr (by omega)), h.t5.within hw (.inr (by omega)), h.wi.trans hw⟩
theorem SW.below {w0 W W' : World} {M : Nat} {r s : Row} (h : SW w0 M r s W) (hM : M < w0.heap.size) (hb : Below W.heap.size W W') : SW w0 M r s W' := h.step hM (Within.of_below hb) (h.pm.step hb)
theorem within_far {lo hi g : Nat} {a w : World} (h : Within lo hi a w) (hg : a.heap.size ≤ g) (i : Nat) (u : Value) : Within lo hi a (w.setCell ⟨g, i, none⟩ u) :=
  ⟨h.os, h.tape, h.output, by simpa [World.setCell] using h.size, fun j hj hn => (Below.heap_setCell w ⟨g, i, none⟩ u j (fun e => by have e' : j = g := e; omega)).trans (h.block j hj hn)⟩
theorem within_far5 {lo hi g : Nat} {a w : World} (h : Within lo hi a w) (hg : a.heap.size ≤ g) (y0 y1 y2 y3 y4 : Value) : Within lo hi a (set5 w g y0 y1 y2 y3 y4) :=
  within_far (within_far (within_far (within_far (within_far h hg _ _) hg _ _) hg _ _) hg _ _) hg _ _
theorem SW.far {w0 W : World} {M g : Nat} {r s : Row} (h : SW w0 M r s W) (hM : M < w0.heap.size) (hg : w0.heap.size + 1 < g) (y0 y1 y2 y3 y4 : Value) : SW w0 M r s (set5 W g y0 y1 y2 y3 y4) :=
  ⟨h.pm.heap (block_set5 (by omega) _ _ _ _ _), ⟨(block_set5 (by omega) _ _ _ _ _).trans h.t4.row⟩, ⟨(block_set5 (by omega) _ _ _ _ _).trans h.t5.row⟩, within_far5 h.wi (by omega) _ _ _ _ _⟩
theorem Five.within {w w' : World} {b lo hi : Nat} {x0 x1 x2 x3 x4 : Value} (h : Five w b x0 x1 x2 x3 x4) (hb : Within lo hi w w') (hd : b < lo ∨ hi ≤ b) : Five w' b x0 x1 x2 x3 x4 := ⟨(hb.block b h.lt hd).trans h.row⟩
theorem Five.far5 {w : World} {b g : Nat} {x0 x1 x2 x3 x4 : Value} (h : Five w b x0 x1 x2 x3 x4) (hne : b ≠ g) (y0 y1 y2 y3 y4 : Value) : Five (set5 w g y0 y1 y2 y3 y4) b x0 x1 x2 x3 x4 := ⟨(block_set5 hne _ _ _ _ _).trans h.row⟩
theorem field_need (x0 x1 x2 x3 x4 : Int) (w : World) : (Instr.field 74 (.agg #[.int .i64 x0, .int .i64 x1, .int .i64 x2, .int .i64 x3, .int .i64 x4]) 0).run Try.prog w = .ok (.int .i64 x0) w := by kernel_rfl
set_option maxRecDepth 100000 in
set_option maxHeartbeats 4000000 in
theorem needOf_of (m : Nat) (HP : PlanLess m) (r : Row) (w : World) (M : Nat) (hr : massR r < m) (h8 : rsum r ≤ 8) (hpm : PlanM w M) :
    Calls Try.prog 43 #[.map (some M), .agg #[.int .i64 (r.1 : Int), .int .i64 (r.2.1 : Int), .int .i64 (r.2.2 : Int)]] w fun e w' => e = .returned (.int .i64 ((needR r : Nat) : Int)) ∧ PlanM w' M ∧ Within M (M + 1) w w' := by
  have HPl := Lib.hid (fun W h => HP r hr h8 W M h)
  have HNe := Lib.hid (plan_need h8)
  have B1 := (Below.refl w.heap.size w).alloc (Nat.le_refl _) (.cells #[.int .i64 (r.1 : Int), .int .i64 (r.2.1 : Int), .int .i64 (r.2.2 : Int)] 70)
  have HT := Lib.hid (Three.new w (.int .i64 (r.1 : Int)) (.int .i64 (r.2.1 : Int)) (.int .i64 (r.2.2 : Int)) w.heap.size rfl)
  have HM := Lib.hid (hpm.step B1)
  have HW := Lib.hid (Within.of_below B1 : Within M (M + 1) w _)
  have hfd := field_need
  clear B1 hpm HP
  go_enter Try.func43, Try.ntmps43
  have h0 := HT.out.c0
  have h1 := HT.out.c1
  have h2 := HT.out.c2
  go_wp2_with fail
  generalize w.alloc (.cells #[.int .i64 (r.1 : Int), .int .i64 (r.2.1 : Int), .int .i64 (r.2.2 : Int)] 70) = wa at HT HM HW h0 h1 h2 ⊢
  refine (HPl.out wa HM.out).mono ?_
  rintro e w2 ⟨rfl, hpm2, hw2⟩
  have HM2 := Lib.hid hpm2
  have HW2 := Lib.hid (HW.out.trans hw2)
  clear hpm2 hw2 h0 h1 h2
  simp only [planV]
  rw [HNe.out]
  go_wp2
  go_ret
  exact ⟨rfl, HM2.out, HW2.out⟩
def sAct (n M : Nat) (r s : Row) (v7 v8 v9 v10 v11 v12 v13 v14 v15 v16 v17 v18 v6 : Value) : Act :=
  { tmps := #[.map (some M), rowV r, rowV s, undef, .pointer (some ⟨n, 0, none⟩), .pointer (some ⟨n + 1, 0, none⟩), v6, v7, v8, v9, v10, v11, v12, v13, v14, v15, v16, v17, v18], defers := [] }
structure SInv (w0 : World) (M : Nat) (r s : Row) (ny nn x y : Nat) (D : Nat → Bool) (v7 v8 v9 v10 v11 v12 v13 v14 v15 v16 v17 v18 v6 : Value) (W : World) : Prop where
  sw : SW w0 M r s W
  s7 : D 0 = true → v7 = .map (some M)
  s8 : D 1 = true → v8 = rowV r
  s9 : D 2 = true → v9 = rowV s
  s10 : D 3 = true → v10 = rowV (yesR r s)
  s11 : D 4 = true → v11 = .int .i64 (ny : Int)
  s12 : D 5 = true → v12 = .map (some M)
  s13 : D 6 = true → v13 = rowV r
  s14 : D 7 = true → v14 = rowV s
  s15 : D 8 = true → v15 = rowV (noR r s)
  s16 : D 9 = true → v16 = .int .i64 (nn : Int)
  s17 : D 10 = true → v17 = .int .i64 (x : Int)
  s18 : D 11 = true → v18 = .int .i64 (y : Int)
  s6 : D 12 = true → v6 = .int .i64 (y : Int)
set_option maxRecDepth 100000 in
set_option maxHeartbeats 8000000 in
theorem splitNeed_of (m : Nat) (HP : PlanLess m) (r s : Row) (w : World) (M : Nat) (h8 : rsum r ≤ 8) (hf : Fits s r) (hy : massR (yesR r s) < m) (hn : massR (noR r s) < m) (hpm : PlanM w M) :
    Calls Try.prog 56 #[.map (some M), .agg #[.int .i64 (r.1 : Int), .int .i64 (r.2.1 : Int), .int .i64 (r.2.2 : Int)], .agg #[.int .i64 (s.1 : Int), .int .i64 (s.2.1 : Int), .int .i64 (s.2.2 : Int)]] w fun e w' => e = .returned (.int .i64 ((valR r s : Nat) : Int)) ∧ PlanM w' M ∧ Within M (M + 1) w w' := by
  have hM := hpm.lt
  have h8s := yes_sum h8 hf
  have B1 := (Below.refl w.heap.size w).alloc (Nat.le_refl _) (.cells #[.int .i64 (r.1 : Int), .int .i64 (r.2.1 : Int), .int .i64 (r.2.2 : Int)] 70)
  have T1 := Three.new w (.int .i64 (r.1 : Int)) (.int .i64 (r.2.1 : Int)) (.int .i64 (r.2.2 : Int)) w.heap.size rfl
  have HB := Lib.hid (B1.alloc B1.size (.cells #[.int .i64 (s.1 : Int), .int .i64 (s.2.1 : Int), .int .i64 (s.2.2 : Int)] 70))
  have HT2 := Lib.hid (Three.new (w.alloc (.cells #[.int .i64 (r.1 : Int), .int .i64 (r.2.1 : Int), .int .i64 (r.2.2 : Int)] 70)) (.int .i64 (s.1 : Int)) (.int .i64 (s.2.1 : Int)) (.int .i64 (s.2.2 : Int)) (w.heap.size + 1) (by simp))
  have HT1 := Lib.hid (T1.step ((Below.refl _ (w.alloc (.cells #[.int .i64 (r.1 : Int), .int .i64 (r.2.1 : Int), .int .i64 (r.2.2 : Int)] 70))).alloc (Nat.le_refl _) (.cells #[.int .i64 (s.1 : Int), .int .i64 (s.2.1 : Int), .int .i64 (s.2.2 : Int)] 70)))
  have HCY := Lib.hid (fun W => yesRow_any r s W h8 hf)
  have HCN := Lib.hid (fun W => noRow_any r s W h8 hf)
  have HPY := Lib.hid (fun W h => needOf_of m HP (yesR r s) W M hy h8s.1 h)
  have HPN := Lib.hid (fun W h => needOf_of m HP (noR r s) W M hn h8s.2 h)
  have hny := need_le h8s.1
  have hnn := need_le h8s.2
  have HV : Hid (valR r s = 1 + max (needR (yesR r s)) (needR (noR r s))) := Lib.hid rfl
  have HSW : Hid (SW w M r s ((w.alloc (.cells #[.int .i64 (r.1 : Int), .int .i64 (r.2.1 : Int), .int .i64 (r.2.2 : Int)] 70)).alloc (.cells #[.int .i64 (s.1 : Int), .int .i64 (s.2.1 : Int), .int .i64 (s.2.2 : Int)] 70))) := Lib.hid ⟨hpm.below HB.out hM, HT1.out, HT2.out, Within.of_below HB.out⟩
  generalize valR r s = y at HV ⊢
  generalize needR (yesR r s) = ny at HPY hny HV
  generalize needR (noR r s) = nn at HPN hnn HV
  clear B1 T1 HB HT1 HT2 hpm HP
  obtain ⟨x, hx, hyx, hc⟩ : ∃ x : Nat, x = max ny nn ∧ y = 1 + x ∧ (¬ ny < nn ∧ x = ny ∨ ny < nn ∧ x = nn) := ⟨max ny nn, rfl, HV.out, by omega⟩
  have hwr : (1 + (x : Int)) = (y : Int) := by omega
  have hwy : IntKind.i64.wrap (y : Int) = (y : Int) := IntWalk.i64_in _ (by omega)
  clear HV hx hyx
  rcases hc with ⟨hle, rfl⟩ | ⟨hle, rfl⟩
  · go_enter Try.func56, Try.ntmps56
    go_upto_region 1 with fail
    generalize (w.alloc (.cells #[.int .i64 (r.1 : Int), .int .i64 (r.2.1 : Int), .int .i64 (r.2.2 : Int)] 70)).alloc (.cells #[.int .i64 (s.1 : Int), .int .i64 (s.2.1 : Int), .int .i64 (s.2.2 : Int)] 70) = wa at HSW ⊢
    refine wp_region_noPanic ?_
    refine wp_region_inv (by kernel_rfl) (by kernel_rfl) (fun D A W => ∃ v7 v8 v9 v10 v11 v12 v13 v14 v15 v16 v17 v18 v6, A = sAct w.heap.size M r s v7 v8 v9 v10 v11 v12 v13 v14 v15 v16 v17 v18 v6 ∧ SInv w M r s x nn x y D v7 v8 v9 v10 v11 v12 v13 v14 v15 v16 v17 v18 v6 W) ?h0 ?hs ?hd
    case h0 => exact ⟨undef, undef, undef, undef, undef, undef, undef, undef, undef, undef, undef, undef, .int .i64 0, rfl, ⟨HSW.out.below hM (Below.refl _ wa).drew, nofun, nofun, nofun, nofun, nofun, nofun, nofun, nofun, nofun, nofun, nofun, nofun, nofun⟩⟩
    case hs =>
      rintro D _ W ⟨v7, v8, v9, v10, v11, v12, v13, v14, v15, v16, v17, v18, v6, rfl, hI⟩ i o ho hD hA K hK
      have hi : i < 13 := (Array.getElem?_eq_some_iff.1 ho).1
      have HI := Lib.hid hI
      have HK := Lib.hid hK
      clear hI hK
      obtain rfl | rfl | rfl | rfl | rfl | rfl | rfl | rfl | rfl | rfl | rfl | rfl | rfl : i = 0 ∨ i = 1 ∨ i = 2 ∨ i = 3 ∨ i = 4 ∨ i = 5 ∨ i = 6 ∨ i = 7 ∨ i = 8 ∨ i = 9 ∨ i = 10 ∨ i = 11 ∨ i = 12 := by omega
      all_goals (obtain rfl := Option.some.inj ho; clear ho hi; simp [Region.binds] at hA; unfold sAct)
      · skip
        go_simp
        exact HK.out _ _ ⟨_, _, _, _, _, _, _, _, _, _, _, _, _, rfl, ⟨(HI.out.sw), (fun _ => rfl), (by first | exact fun _ => rfl | simpa using HI.out.s8), (by first | exact fun _ => rfl | simpa using HI.out.s9), (by first | exact fun _ => rfl | simpa using HI.out.s10), (by first | exact fun _ => rfl | simpa using HI.out.s11), (by first | exact fun _ => rfl | simpa using HI.out.s12), (by first | exact fun _ => rfl | simpa using HI.out.s13), (by first | exact fun _ => rfl | simpa using HI.out.s14), (by first | exact fun _ => rfl | simpa using HI.out.s15), (by first | exact fun _ => rfl | simpa using HI.out.s16), (by first | exact fun _ => rfl | simpa using HI.out.s17), (by first | exact fun _ => rfl | simpa using HI.out.s18), (by first | exact fun _ => rfl | simpa using HI.out.s6)⟩⟩
      · have h0 := HI.out.sw.t4.c0
        have h1 := HI.out.sw.t4.c1
        have h2 := HI.out.sw.t4.c2
        go_simp
        exact HK.out _ _ ⟨_, _, _, _, _, _, _, _, _, _, _, _, _, rfl, ⟨(HI.out.sw), (by first | exact fun _ => rfl | simpa using HI.out.s7), (fun _ => rfl), (by first | exact fun _ => rfl | simpa using HI.out.s9), (by first | exact fun _ => rfl | simpa using HI.out.s10), (by first | exact fun _ => rfl | simpa using HI.out.s11), (by first | exact fun _ => rfl | simpa using HI.out.s12), (by first | exact fun _ => rfl | simpa using HI.out.s13), (by first | exact fun _ => rfl | simpa using HI.out.s14), (by first | exact fun _ => rfl | simpa using HI.out.s15), (by first | exact fun _ => rfl | simpa using HI.out.s16), (by first | exact fun _ => rfl | simpa using HI.out.s17), (by first | exact fun _ => rfl | simpa using HI.out.s18), (by first | exact fun _ => rfl | simpa using HI.out.s6)⟩⟩
      · have h0 := HI.out.sw.t5.c0
        have h1 := HI.out.sw.t5.c1
        have h2 := HI.out.sw.t5.c2
        go_simp
        exact HK.out _ _ ⟨_, _, _, _, _, _, _, _, _, _, _, _, _, rfl, ⟨(HI.out.sw), (by first | exact fun _ => rfl | simpa using HI.out.s7), (by first | exact fun _ => rfl | simpa using HI.out.s8), (fun _ => rfl), (by first | exact fun _ => rfl | simpa using HI.out.s10), (by first | exact fun _ => rfl | simpa using HI.out.s11), (by first | exact fun _ => rfl | simpa using HI.out.s12), (by first | exact fun _ => rfl | simpa using HI.out.s13), (by first | exact fun _ => rfl | simpa using HI.out.s14), (by first | exact fun _ => rfl | simpa using HI.out.s15), (by first | exact fun _ => rfl | simpa using HI.out.s16), (by first | exact fun _ => rfl | simpa using HI.out.s17), (by first | exact fun _ => rfl | simpa using HI.out.s18), (by first | exact fun _ => rfl | simpa using HI.out.s6)⟩⟩
      · obtain rfl := HI.out.s8 (by simp_all)
        obtain rfl := HI.out.s9 (by simp_all)
        simp only [rowV]
        go_simp
        refine (HCY.out W).mono ?_
        rintro e w1 ⟨rfl, hb1⟩
        skip
        exact HK.out _ _ ⟨_, _, _, _, _, _, _, _, _, _, _, _, _, rfl, ⟨(HI.out.sw.below hM hb1), (by first | exact fun _ => rfl | simpa using HI.out.s7), (by first | exact fun _ => rfl | simpa using HI.out.s8), (by first | exact fun _ => rfl | simpa using HI.out.s9), (fun _ => rfl), (by first | exact fun _ => rfl | simpa using HI.out.s11), (by first | exact fun _ => rfl | simpa using HI.out.s12), (by first | exact fun _ => rfl | simpa using HI.out.s13), (by first | exact fun _ => rfl | simpa using HI.out.s14), (by first | exact fun _ => rfl | simpa using HI.out.s15), (by first | exact fun _ => rfl | simpa using HI.out.s16), (by first | exact fun _ => rfl | simpa using HI.out.s17), (by first | exact fun _ => rfl | simpa using HI.out.s18), (by first | exact fun _ => rfl | simpa using HI.out.s6)⟩⟩
      · obtain rfl := HI.out.s7 (by simp_all)
        obtain rfl := HI.out.s10 (by simp_all)
        simp only [rowV]
        go_simp
        refine (HPY.out W HI.out.sw.pm).mono ?_
        rintro e w1 ⟨rfl, hpm1, hw1⟩
        skip
        exact HK.out _ _ ⟨_, _, _, _, _, _, _, _, _, _, _, _, _, rfl, ⟨(HI.out.sw.step hM hw1 hpm1), (by first | exact fun _ => rfl | simpa using HI.out.s7), (by first | exact fun _ => rfl | simpa using HI.out.s8), (by first | exact fun _ => rfl | simpa using HI.out.s9), (by first | exact fun _ => rfl | simpa using HI.out.s10), (fun _ => rfl), (by first | exact fun _ => rfl | simpa using HI.out.s12), (by first | exact fun _ => rfl | simpa using HI.out.s13), (by first | exact fun _ => rfl | simpa using HI.out.s14), (by first | exact fun _ => rfl | simpa using HI.out.s15), (by first | exact fun _ => rfl | simpa using HI.out.s16), (by first | exact fun _ => rfl | simpa using HI.out.s17), (by first | exact fun _ => rfl | simpa using HI.out.s18), (by first | exact fun _ => rfl | simpa using HI.out.s6)⟩⟩
      · skip
        go_simp
        exact HK.out _ _ ⟨_, _, _, _, _, _, _, _, _, _, _, _, _, rfl, ⟨(HI.out.sw), (by first | exact fun _ => rfl | simpa using HI.out.s7), (by first | exact fun _ => rfl | simpa using HI.out.s8), (by first | exact fun _ => rfl | simpa using HI.out.s9), (by first | exact fun _ => rfl | simpa using HI.out.s10), (by first | exact fun _ => rfl | simpa using HI.out.s11), (fun _ => rfl), (by first | exact fun _ => rfl | simpa using HI.out.s13), (by first | exact fun _ => rfl | simpa using HI.out.s14), (by first | exact fun _ => rfl | simpa using HI.out.s15), (by first | exact fun _ => rfl | simpa using HI.out.s16), (by first | exact fun _ => rfl | simpa using HI.out.s17), (by first | exact fun _ => rfl | simpa using HI.out.s18), (by first | exact fun _ => rfl | simpa using HI.out.s6)⟩⟩
      · have h0 := HI.out.sw.t4.c0
        have h1 := HI.out.sw.t4.c1
        have h2 := HI.out.sw.t4.c2
        go_simp
        exact HK.out _ _ ⟨_, _, _, _, _, _, _, _, _, _, _, _, _, rfl, ⟨(HI.out.sw), (by first | exact fun _ => rfl | simpa using HI.out.s7), (by first | exact fun _ => rfl | simpa using HI.out.s8), (by first | exact fun _ => rfl | simpa using HI.out.s9), (by first | exact fun _ => rfl | simpa using HI.out.s10), (by first | exact fun _ => rfl | simpa using HI.out.s11), (by first | exact fun _ => rfl | simpa using HI.out.s12), (fun _ => rfl), (by first | exact fun _ => rfl | simpa using HI.out.s14), (by first | exact fun _ => rfl | simpa using HI.out.s15), (by first | exact fun _ => rfl | simpa using HI.out.s16), (by first | exact fun _ => rfl | simpa using HI.out.s17), (by first | exact fun _ => rfl | simpa using HI.out.s18), (by first | exact fun _ => rfl | simpa using HI.out.s6)⟩⟩
      · have h0 := HI.out.sw.t5.c0
        have h1 := HI.out.sw.t5.c1
        have h2 := HI.out.sw.t5.c2
        go_simp
        exact HK.out _ _ ⟨_, _, _, _, _, _, _, _, _, _, _, _, _, rfl, ⟨(HI.out.sw), (by first | exact fun _ => rfl | simpa using HI.out.s7), (by first | exact fun _ => rfl | simpa using HI.out.s8), (by first | exact fun _ => rfl | simpa using HI.out.s9), (by first | exact fun _ => rfl | simpa using HI.out.s10), (by first | exact fun _ => rfl | simpa using HI.out.s11), (by first | exact fun _ => rfl | simpa using HI.out.s12), (by first | exact fun _ => rfl | simpa using HI.out.s13), (fun _ => rfl), (by first | exact fun _ => rfl | simpa using HI.out.s15), (by first | exact fun _ => rfl | simpa using HI.out.s16), (by first | exact fun _ => rfl | simpa using HI.out.s17), (by first | exact fun _ => rfl | simpa using HI.out.s18), (by first | exact fun _ => rfl | simpa using HI.out.s6)⟩⟩
      · obtain rfl := HI.out.s13 (by simp_all)
        obtain rfl := HI.out.s14 (by simp_all)
        simp only [rowV]
        go_simp
        refine (HCN.out W).mono ?_
        rintro e w1 ⟨rfl, hb1⟩
        skip
        exact HK.out _ _ ⟨_, _, _, _, _, _, _, _, _, _, _, _, _, rfl, ⟨(HI.out.sw.below hM hb1), (by first | exact fun _ => rfl | simpa using HI.out.s7), (by first | exact fun _ => rfl | simpa using HI.out.s8), (by first | exact fun _ => rfl | simpa using HI.out.s9), (by first | exact fun _ => rfl | simpa using HI.out.s10), (by first | exact fun _ => rfl | simpa using HI.out.s11), (by first | exact fun _ => rfl | simpa using HI.out.s12), (by first | exact fun _ => rfl | simpa using HI.out.s13), (by first | exact fun _ => rfl | simpa using HI.out.s14), (fun _ => rfl), (by first | exact fun _ => rfl | simpa using HI.out.s16), (by first | exact fun _ => rfl | simpa using HI.out.s17), (by first | exact fun _ => rfl | simpa using HI.out.s18), (by first | exact fun _ => rfl | simpa using HI.out.s6)⟩⟩
      · obtain rfl := HI.out.s12 (by simp_all)
        obtain rfl := HI.out.s15 (by simp_all)
        simp only [rowV]
        go_simp
        refine (HPN.out W HI.out.sw.pm).mono ?_
        rintro e w1 ⟨rfl, hpm1, hw1⟩
        skip
        exact HK.out _ _ ⟨_, _, _, _, _, _, _, _, _, _, _, _, _, rfl, ⟨(HI.out.sw.step hM hw1 hpm1), (by first | exact fun _ => rfl | simpa using HI.out.s7), (by first | exact fun _ => rfl | simpa using HI.out.s8), (by first | exact fun _ => rfl | simpa using HI.out.s9), (by first | exact fun _ => rfl | simpa using HI.out.s10), (by first | exact fun _ => rfl | simpa using HI.out.s11), (by first | exact fun _ => rfl | simpa using HI.out.s12), (by first | exact fun _ => rfl | simpa using HI.out.s13), (by first | exact fun _ => rfl | simpa using HI.out.s14), (by first | exact fun _ => rfl | simpa using HI.out.s15), (fun _ => rfl), (by first | exact fun _ => rfl | simpa using HI.out.s17), (by first | exact fun _ => rfl | simpa using HI.out.s18), (by first | exact fun _ => rfl | simpa using HI.out.s6)⟩⟩
      · obtain rfl := HI.out.s11 (by simp_all)
        obtain rfl := HI.out.s16 (by simp_all)
        go_simp
        try simp only [if_neg hle]
        skip
        exact HK.out _ _ ⟨_, _, _, _, _, _, _, _, _, _, _, _, _, rfl, ⟨(HI.out.sw), (by first | exact fun _ => rfl | simpa using HI.out.s7), (by first | exact fun _ => rfl | simpa using HI.out.s8), (by first | exact fun _ => rfl | simpa using HI.out.s9), (by first | exact fun _ => rfl | simpa using HI.out.s10), (by first | exact fun _ => rfl | simpa using HI.out.s11), (by first | exact fun _ => rfl | simpa using HI.out.s12), (by first | exact fun _ => rfl | simpa using HI.out.s13), (by first | exact fun _ => rfl | simpa using HI.out.s14), (by first | exact fun _ => rfl | simpa using HI.out.s15), (by first | exact fun _ => rfl | simpa using HI.out.s16), (fun _ => rfl), (by first | exact fun _ => rfl | simpa using HI.out.s18), (by first | exact fun _ => rfl | simpa using HI.out.s6)⟩⟩
      · obtain rfl := HI.out.s17 (by simp_all)
        go_simp
        skip
        exact HK.out _ _ ⟨_, _, _, _, _, _, _, _, _, _, _, _, _, rfl, ⟨(HI.out.sw), (by first | exact fun _ => rfl | simpa using HI.out.s7), (by first | exact fun _ => rfl | simpa using HI.out.s8), (by first | exact fun _ => rfl | simpa using HI.out.s9), (by first | exact fun _ => rfl | simpa using HI.out.s10), (by first | exact fun _ => rfl | simpa using HI.out.s11), (by first | exact fun _ => rfl | simpa using HI.out.s12), (by first | exact fun _ => rfl | simpa using HI.out.s13), (by first | exact fun _ => rfl | simpa using HI.out.s14), (by first | exact fun _ => rfl | simpa using HI.out.s15), (by first | exact fun _ => rfl | simpa using HI.out.s16), (by first | exact fun _ => rfl | simpa using HI.out.s17), (fun _ => rfl), (by first | exact fun _ => rfl | simpa using HI.out.s6)⟩⟩
      · obtain rfl := HI.out.s18 (by simp_all)
        go_simp
        skip
        exact HK.out _ _ ⟨_, _, _, _, _, _, _, _, _, _, _, _, _, rfl, ⟨(HI.out.sw), (by first | exact fun _ => rfl | simpa using HI.out.s7), (by first | exact fun _ => rfl | simpa using HI.out.s8), (by first | exact fun _ => rfl | simpa using HI.out.s9), (by first | exact fun _ => rfl | simpa using HI.out.s10), (by first | exact fun _ => rfl | simpa using HI.out.s11), (by first | exact fun _ => rfl | simpa using HI.out.s12), (by first | exact fun _ => rfl | simpa using HI.out.s13), (by first | exact fun _ => rfl | simpa using HI.out.s14), (by first | exact fun _ => rfl | simpa using HI.out.s15), (by first | exact fun _ => rfl | simpa using HI.out.s16), (by first | exact fun _ => rfl | simpa using HI.out.s17), (by first | exact fun _ => rfl | simpa using HI.out.s18), (fun _ => rfl)⟩⟩
    case hd =>
      rintro D _ W ⟨v7, v8, v9, v10, v11, v12, v13, v14, v15, v16, v17, v18, v6, rfl, hI⟩ hall
      have hall : ∀ i, i < 13 → D i = true := hall
      obtain rfl := hI.s6 (hall 12 (by omega))
      have HS := Lib.hid hI.sw
      clear hI hall
      simp only [sAct, rowV]
      refine NoPanic.normal ?_
      go_wp2
      go_ret
      exact ⟨rfl, HS.out.pm, HS.out.wi⟩
  · go_enter Try.func56, Try.ntmps56
    go_upto_region 1 with fail
    generalize (w.alloc (.cells #[.int .i64 (r.1 : Int), .int .i64 (r.2.1 : Int), .int .i64 (r.2.2 : Int)] 70)).alloc (.cells #[.int .i64 (s.1 : Int), .int .i64 (s.2.1 : Int), .int .i64 (s.2.2 : Int)] 70) = wa at HSW ⊢
    refine wp_region_noPanic ?_
    refine wp_region_inv (by kernel_rfl) (by kernel_rfl) (fun D A W => ∃ v7 v8 v9 v10 v11 v12 v13 v14 v15 v16 v17 v18 v6, A = sAct w.heap.size M r s v7 v8 v9 v10 v11 v12 v13 v14 v15 v16 v17 v18 v6 ∧ SInv w M r s ny x x y D v7 v8 v9 v10 v11 v12 v13 v14 v15 v16 v17 v18 v6 W) ?h0 ?hs ?hd
    case h0 => exact ⟨undef, undef, undef, undef, undef, undef, undef, undef, undef, undef, undef, undef, .int .i64 0, rfl, ⟨HSW.out.below hM (Below.refl _ wa).drew, nofun, nofun, nofun, nofun, nofun, nofun, nofun, nofun, nofun, nofun, nofun, nofun, nofun⟩⟩
    case hs =>
      rintro D _ W ⟨v7, v8, v9, v10, v11, v12, v13, v14, v15, v16, v17, v18, v6, rfl, hI⟩ i o ho hD hA K hK
      have hi : i < 13 := (Array.getElem?_eq_some_iff.1 ho).1
      have HI := Lib.hid hI
      have HK := Lib.hid hK
      clear hI hK
      obtain rfl | rfl | rfl | rfl | rfl | rfl | rfl | rfl | rfl | rfl | rfl | rfl | rfl : i = 0 ∨ i = 1 ∨ i = 2 ∨ i = 3 ∨ i = 4 ∨ i = 5 ∨ i = 6 ∨ i = 7 ∨ i = 8 ∨ i = 9 ∨ i = 10 ∨ i = 11 ∨ i = 12 := by omega
      all_goals (obtain rfl := Option.some.inj ho; clear ho hi; simp [Region.binds] at hA; unfold sAct)
      · skip
        go_simp
        exact HK.out _ _ ⟨_, _, _, _, _, _, _, _, _, _, _, _, _, rfl, ⟨(HI.out.sw), (fun _ => rfl), (by first | exact fun _ => rfl | simpa using HI.out.s8), (by first | exact fun _ => rfl | simpa using HI.out.s9), (by first | exact fun _ => rfl | simpa using HI.out.s10), (by first | exact fun _ => rfl | simpa using HI.out.s11), (by first | exact fun _ => rfl | simpa using HI.out.s12), (by first | exact fun _ => rfl | simpa using HI.out.s13), (by first | exact fun _ => rfl | simpa using HI.out.s14), (by first | exact fun _ => rfl | simpa using HI.out.s15), (by first | exact fun _ => rfl | simpa using HI.out.s16), (by first | exact fun _ => rfl | simpa using HI.out.s17), (by first | exact fun _ => rfl | simpa using HI.out.s18), (by first | exact fun _ => rfl | simpa using HI.out.s6)⟩⟩
      · have h0 := HI.out.sw.t4.c0
        have h1 := HI.out.sw.t4.c1
        have h2 := HI.out.sw.t4.c2
        go_simp
        exact HK.out _ _ ⟨_, _, _, _, _, _, _, _, _, _, _, _, _, rfl, ⟨(HI.out.sw), (by first | exact fun _ => rfl | simpa using HI.out.s7), (fun _ => rfl), (by first | exact fun _ => rfl | simpa using HI.out.s9), (by first | exact fun _ => rfl | simpa using HI.out.s10), (by first | exact fun _ => rfl | simpa using HI.out.s11), (by first | exact fun _ => rfl | simpa using HI.out.s12), (by first | exact fun _ => rfl | simpa using HI.out.s13), (by first | exact fun _ => rfl | simpa using HI.out.s14), (by first | exact fun _ => rfl | simpa using HI.out.s15), (by first | exact fun _ => rfl | simpa using HI.out.s16), (by first | exact fun _ => rfl | simpa using HI.out.s17), (by first | exact fun _ => rfl | simpa using HI.out.s18), (by first | exact fun _ => rfl | simpa using HI.out.s6)⟩⟩
      · have h0 := HI.out.sw.t5.c0
        have h1 := HI.out.sw.t5.c1
        have h2 := HI.out.sw.t5.c2
        go_simp
        exact HK.out _ _ ⟨_, _, _, _, _, _, _, _, _, _, _, _, _, rfl, ⟨(HI.out.sw), (by first | exact fun _ => rfl | simpa using HI.out.s7), (by first | exact fun _ => rfl | simpa using HI.out.s8), (fun _ => rfl), (by first | exact fun _ => rfl | simpa using HI.out.s10), (by first | exact fun _ => rfl | simpa using HI.out.s11), (by first | exact fun _ => rfl | simpa using HI.out.s12), (by first | exact fun _ => rfl | simpa using HI.out.s13), (by first | exact fun _ => rfl | simpa using HI.out.s14), (by first | exact fun _ => rfl | simpa using HI.out.s15), (by first | exact fun _ => rfl | simpa using HI.out.s16), (by first | exact fun _ => rfl | simpa using HI.out.s17), (by first | exact fun _ => rfl | simpa using HI.out.s18), (by first | exact fun _ => rfl | simpa using HI.out.s6)⟩⟩
      · obtain rfl := HI.out.s8 (by simp_all)
        obtain rfl := HI.out.s9 (by simp_all)
        simp only [rowV]
        go_simp
        refine (HCY.out W).mono ?_
        rintro e w1 ⟨rfl, hb1⟩
        skip
        exact HK.out _ _ ⟨_, _, _, _, _, _, _, _, _, _, _, _, _, rfl, ⟨(HI.out.sw.below hM hb1), (by first | exact fun _ => rfl | simpa using HI.out.s7), (by first | exact fun _ => rfl | simpa using HI.out.s8), (by first | exact fun _ => rfl | simpa using HI.out.s9), (fun _ => rfl), (by first | exact fun _ => rfl | simpa using HI.out.s11), (by first | exact fun _ => rfl | simpa using HI.out.s12), (by first | exact fun _ => rfl | simpa using HI.out.s13), (by first | exact fun _ => rfl | simpa using HI.out.s14), (by first | exact fun _ => rfl | simpa using HI.out.s15), (by first | exact fun _ => rfl | simpa using HI.out.s16), (by first | exact fun _ => rfl | simpa using HI.out.s17), (by first | exact fun _ => rfl | simpa using HI.out.s18), (by first | exact fun _ => rfl | simpa using HI.out.s6)⟩⟩
      · obtain rfl := HI.out.s7 (by simp_all)
        obtain rfl := HI.out.s10 (by simp_all)
        simp only [rowV]
        go_simp
        refine (HPY.out W HI.out.sw.pm).mono ?_
        rintro e w1 ⟨rfl, hpm1, hw1⟩
        skip
        exact HK.out _ _ ⟨_, _, _, _, _, _, _, _, _, _, _, _, _, rfl, ⟨(HI.out.sw.step hM hw1 hpm1), (by first | exact fun _ => rfl | simpa using HI.out.s7), (by first | exact fun _ => rfl | simpa using HI.out.s8), (by first | exact fun _ => rfl | simpa using HI.out.s9), (by first | exact fun _ => rfl | simpa using HI.out.s10), (fun _ => rfl), (by first | exact fun _ => rfl | simpa using HI.out.s12), (by first | exact fun _ => rfl | simpa using HI.out.s13), (by first | exact fun _ => rfl | simpa using HI.out.s14), (by first | exact fun _ => rfl | simpa using HI.out.s15), (by first | exact fun _ => rfl | simpa using HI.out.s16), (by first | exact fun _ => rfl | simpa using HI.out.s17), (by first | exact fun _ => rfl | simpa using HI.out.s18), (by first | exact fun _ => rfl | simpa using HI.out.s6)⟩⟩
      · skip
        go_simp
        exact HK.out _ _ ⟨_, _, _, _, _, _, _, _, _, _, _, _, _, rfl, ⟨(HI.out.sw), (by first | exact fun _ => rfl | simpa using HI.out.s7), (by first | exact fun _ => rfl | simpa using HI.out.s8), (by first | exact fun _ => rfl | simpa using HI.out.s9), (by first | exact fun _ => rfl | simpa using HI.out.s10), (by first | exact fun _ => rfl | simpa using HI.out.s11), (fun _ => rfl), (by first | exact fun _ => rfl | simpa using HI.out.s13), (by first | exact fun _ => rfl | simpa using HI.out.s14), (by first | exact fun _ => rfl | simpa using HI.out.s15), (by first | exact fun _ => rfl | simpa using HI.out.s16), (by first | exact fun _ => rfl | simpa using HI.out.s17), (by first | exact fun _ => rfl | simpa using HI.out.s18), (by first | exact fun _ => rfl | simpa using HI.out.s6)⟩⟩
      · have h0 := HI.out.sw.t4.c0
        have h1 := HI.out.sw.t4.c1
        have h2 := HI.out.sw.t4.c2
        go_simp
        exact HK.out _ _ ⟨_, _, _, _, _, _, _, _, _, _, _, _, _, rfl, ⟨(HI.out.sw), (by first | exact fun _ => rfl | simpa using HI.out.s7), (by first | exact fun _ => rfl | simpa using HI.out.s8), (by first | exact fun _ => rfl | simpa using HI.out.s9), (by first | exact fun _ => rfl | simpa using HI.out.s10), (by first | exact fun _ => rfl | simpa using HI.out.s11), (by first | exact fun _ => rfl | simpa using HI.out.s12), (fun _ => rfl), (by first | exact fun _ => rfl | simpa using HI.out.s14), (by first | exact fun _ => rfl | simpa using HI.out.s15), (by first | exact fun _ => rfl | simpa using HI.out.s16), (by first | exact fun _ => rfl | simpa using HI.out.s17), (by first | exact fun _ => rfl | simpa using HI.out.s18), (by first | exact fun _ => rfl | simpa using HI.out.s6)⟩⟩
      · have h0 := HI.out.sw.t5.c0
        have h1 := HI.out.sw.t5.c1
        have h2 := HI.out.sw.t5.c2
        go_simp
        exact HK.out _ _ ⟨_, _, _, _, _, _, _, _, _, _, _, _, _, rfl, ⟨(HI.out.sw), (by first | exact fun _ => rfl | simpa using HI.out.s7), (by first | exact fun _ => rfl | simpa using HI.out.s8), (by first | exact fun _ => rfl | simpa using HI.out.s9), (by first | exact fun _ => rfl | simpa using HI.out.s10), (by first | exact fun _ => rfl | simpa using HI.out.s11), (by first | exact fun _ => rfl | simpa using HI.out.s12), (by first | exact fun _ => rfl | simpa using HI.out.s13), (fun _ => rfl), (by first | exact fun _ => rfl | simpa using HI.out.s15), (by first | exact fun _ => rfl | simpa using HI.out.s16), (by first | exact fun _ => rfl | simpa using HI.out.s17), (by first | exact fun _ => rfl | simpa using HI.out.s18), (by first | exact fun _ => rfl | simpa using HI.out.s6)⟩⟩
      · obtain rfl := HI.out.s13 (by simp_all)
        obtain rfl := HI.out.s14 (by simp_all)
        simp only [rowV]
        go_simp
        refine (HCN.out W).mono ?_
        rintro e w1 ⟨rfl, hb1⟩
        skip
        exact HK.out _ _ ⟨_, _, _, _, _, _, _, _, _, _, _, _, _, rfl, ⟨(HI.out.sw.below hM hb1), (by first | exact fun _ => rfl | simpa using HI.out.s7), (by first | exact fun _ => rfl | simpa using HI.out.s8), (by first | exact fun _ => rfl | simpa using HI.out.s9), (by first | exact fun _ => rfl | simpa using HI.out.s10), (by first | exact fun _ => rfl | simpa using HI.out.s11), (by first | exact fun _ => rfl | simpa using HI.out.s12), (by first | exact fun _ => rfl | simpa using HI.out.s13), (by first | exact fun _ => rfl | simpa using HI.out.s14), (fun _ => rfl), (by first | exact fun _ => rfl | simpa using HI.out.s16), (by first | exact fun _ => rfl | simpa using HI.out.s17), (by first | exact fun _ => rfl | simpa using HI.out.s18), (by first | exact fun _ => rfl | simpa using HI.out.s6)⟩⟩
      · obtain rfl := HI.out.s12 (by simp_all)
        obtain rfl := HI.out.s15 (by simp_all)
        simp only [rowV]
        go_simp
        refine (HPN.out W HI.out.sw.pm).mono ?_
        rintro e w1 ⟨rfl, hpm1, hw1⟩
        skip
        exact HK.out _ _ ⟨_, _, _, _, _, _, _, _, _, _, _, _, _, rfl, ⟨(HI.out.sw.step hM hw1 hpm1), (by first | exact fun _ => rfl | simpa using HI.out.s7), (by first | exact fun _ => rfl | simpa using HI.out.s8), (by first | exact fun _ => rfl | simpa using HI.out.s9), (by first | exact fun _ => rfl | simpa using HI.out.s10), (by first | exact fun _ => rfl | simpa using HI.out.s11), (by first | exact fun _ => rfl | simpa using HI.out.s12), (by first | exact fun _ => rfl | simpa using HI.out.s13), (by first | exact fun _ => rfl | simpa using HI.out.s14), (by first | exact fun _ => rfl | simpa using HI.out.s15), (fun _ => rfl), (by first | exact fun _ => rfl | simpa using HI.out.s17), (by first | exact fun _ => rfl | simpa using HI.out.s18), (by first | exact fun _ => rfl | simpa using HI.out.s6)⟩⟩
      · obtain rfl := HI.out.s11 (by simp_all)
        obtain rfl := HI.out.s16 (by simp_all)
        go_simp
        try simp only [if_neg hle]
        skip
        exact HK.out _ _ ⟨_, _, _, _, _, _, _, _, _, _, _, _, _, rfl, ⟨(HI.out.sw), (by first | exact fun _ => rfl | simpa using HI.out.s7), (by first | exact fun _ => rfl | simpa using HI.out.s8), (by first | exact fun _ => rfl | simpa using HI.out.s9), (by first | exact fun _ => rfl | simpa using HI.out.s10), (by first | exact fun _ => rfl | simpa using HI.out.s11), (by first | exact fun _ => rfl | simpa using HI.out.s12), (by first | exact fun _ => rfl | simpa using HI.out.s13), (by first | exact fun _ => rfl | simpa using HI.out.s14), (by first | exact fun _ => rfl | simpa using HI.out.s15), (by first | exact fun _ => rfl | simpa using HI.out.s16), (fun _ => rfl), (by first | exact fun _ => rfl | simpa using HI.out.s18), (by first | exact fun _ => rfl | simpa using HI.out.s6)⟩⟩
      · obtain rfl := HI.out.s17 (by simp_all)
        go_simp
        skip
        exact HK.out _ _ ⟨_, _, _, _, _, _, _, _, _, _, _, _, _, rfl, ⟨(HI.out.sw), (by first | exact fun _ => rfl | simpa using HI.out.s7), (by first | exact fun _ => rfl | simpa using HI.out.s8), (by first | exact fun _ => rfl | simpa using HI.out.s9), (by first | exact fun _ => rfl | simpa using HI.out.s10), (by first | exact fun _ => rfl | simpa using HI.out.s11), (by first | exact fun _ => rfl | simpa using HI.out.s12), (by first | exact fun _ => rfl | simpa using HI.out.s13), (by first | exact fun _ => rfl | simpa using HI.out.s14), (by first | exact fun _ => rfl | simpa using HI.out.s15), (by first | exact fun _ => rfl | simpa using HI.out.s16), (by first | exact fun _ => rfl | simpa using HI.out.s17), (fun _ => rfl), (by first | exact fun _ => rfl | simpa using HI.out.s6)⟩⟩
      · obtain rfl := HI.out.s18 (by simp_all)
        go_simp
        skip
        exact HK.out _ _ ⟨_, _, _, _, _, _, _, _, _, _, _, _, _, rfl, ⟨(HI.out.sw), (by first | exact fun _ => rfl | simpa using HI.out.s7), (by first | exact fun _ => rfl | simpa using HI.out.s8), (by first | exact fun _ => rfl | simpa using HI.out.s9), (by first | exact fun _ => rfl | simpa using HI.out.s10), (by first | exact fun _ => rfl | simpa using HI.out.s11), (by first | exact fun _ => rfl | simpa using HI.out.s12), (by first | exact fun _ => rfl | simpa using HI.out.s13), (by first | exact fun _ => rfl | simpa using HI.out.s14), (by first | exact fun _ => rfl | simpa using HI.out.s15), (by first | exact fun _ => rfl | simpa using HI.out.s16), (by first | exact fun _ => rfl | simpa using HI.out.s17), (by first | exact fun _ => rfl | simpa using HI.out.s18), (fun _ => rfl)⟩⟩
    case hd =>
      rintro D _ W ⟨v7, v8, v9, v10, v11, v12, v13, v14, v15, v16, v17, v18, v6, rfl, hI⟩ hall
      have hall : ∀ i, i < 13 → D i = true := hall
      obtain rfl := hI.s6 (hall 12 (by omega))
      have HS := Lib.hid hI.sw
      clear hI hall
      simp only [sAct, rowV]
      refine NoPanic.normal ?_
      go_wp2
      go_ret
      exact ⟨rfl, HS.out.pm, HS.out.wi⟩
end Go.Proofs.Ythpnkeecpaflfaa
