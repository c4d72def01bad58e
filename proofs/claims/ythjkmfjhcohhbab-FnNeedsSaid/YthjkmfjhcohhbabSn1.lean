/- splitNeed over planOf of less. -/
import Derived.Test.YthjkmfjhcohhbabPlans
namespace Go.Proofs.Ythjkmfjhcohhbab
open Go.RowKit Go.ChangeShapes Go.WideShapes
set_option linter.unusedVariables false

/-- planOf of counts of less than so much. -/
def PlanLess (m : Nat) : Prop := ∀ (r : Row), massR r < m → rsum r ≤ 8 → ∀ (w : World) (M : Nat), PlanM w M →
  Calls Try.prog 184 #[.map (some M), .agg #[.int .i64 (r.1 : Int), .int .i64 (r.2.1 : Int), .int .i64 (r.2.2 : Int)]] w fun e w' => e = .returned (planV (planR r)) ∧ PlanM w' M ∧ Within M (M + 1) w w'
structure SW (w0 : World) (M : Nat) (r s : Row) (W : World) : Prop where
  pm : PlanM W M
  t4 : Three W w0.heap.size (.int .i64 (r.1 : Int)) (.int .i64 (r.2.1 : Int)) (.int .i64 (r.2.2 : Int))
  t5 : Three W (w0.heap.size + 1) (.int .i64 (s.1 : Int)) (.int .i64 (s.2.1 : Int)) (.int .i64 (s.2.2 : Int))
  wi : Within M (M + 1) w0 W
theorem SW.step {w0 W W' : World} {M : Nat} {r s : Row} (h : SW w0 M r s W) (hM : M < w0.heap.size) (hw : Within M (M + 1) W W') (pm : PlanM W' M) : SW w0 M r s W' :=
  ⟨pm, h.t4.within hw (.inr (by omega)), h.t5.within hw (.inr (by omega)), h.wi.trans hw⟩
theorem SW.below {w0 W W' : World} {M : Nat} {r s : Row} (h : SW w0 M r s W) (hM : M < w0.heap.size) (hb : Below W.heap.size W W') : SW w0 M r s W' := h.step hM (Within.of_below hb) (h.pm.step hb)
theorem within_far {lo hi g : Nat} {a w : World} (h : Within lo hi a w) (hg : a.heap.size ≤ g) (i : Nat) (u : Value) : Within lo hi a (w.setCell ⟨g, i, none⟩ u) :=
  ⟨h.os, h.tape, h.output, by simpa [World.setCell] using h.size, fun j hj hn => (Below.heap_setCell w ⟨g, i, none⟩ u j (fun e => by have e' : j = g := e; omega)).trans (h.block j hj hn)⟩
theorem within_far5 {lo hi g : Nat} {a w : World} (h : Within lo hi a w) (hg : a.heap.size ≤ g) (y0 y1 y2 y3 y4 : Value) : Within lo hi a (set5 w g y0 y1 y2 y3 y4) :=
  within_far (within_far (within_far (within_far (within_far h hg _ _) hg _ _) hg _ _) hg _ _) hg _ _
theorem SW.far {w0 W : World} {M g : Nat} {r s : Row} (h : SW w0 M r s W) (hM : M < w0.heap.size) (hg : w0.heap.size + 1 < g) (y0 y1 y2 y3 y4 : Value) : SW w0 M r s (set5 W g y0 y1 y2 y3 y4) :=
  ⟨h.pm.heap (block_set5 (by omega) _ _ _ _ _), ⟨(block_set5 (by omega) _ _ _ _ _).trans h.t4.row⟩, ⟨(block_set5 (by omega) _ _ _ _ _).trans h.t5.row⟩, within_far5 h.wi (by omega) _ _ _ _ _⟩
theorem Five.within {w w' : World} {b lo hi : Nat} {x0 x1 x2 x3 x4 : Value} (h : Five w b x0 x1 x2 x3 x4) (hb : Within lo hi w w') (hd : b < lo ∨ hi ≤ b) : Five w' b x0 x1 x2 x3 x4 := ⟨(hb.block b h.lt hd).trans h.row⟩
theorem Five.far5 {w : World} {b g : Nat} {x0 x1 x2 x3 x4 : Value} (h : Five w b x0 x1 x2 x3 x4) (hne : b ≠ g) (y0 y1 y2 y3 y4 : Value) : Five (set5 w g y0 y1 y2 y3 y4) b x0 x1 x2 x3 x4 := ⟨(block_set5 hne _ _ _ _ _).trans h.row⟩
def sAct (n M : Nat) (r s : Row) (v7 v8 v9 v10 v11 v12 v13 v14 v15 v16 v17 v18 : Value) : Act :=
  { tmps := #[.map (some M), rowV r, rowV s, undef, .pointer (some ⟨n, 0, none⟩), .pointer (some ⟨n + 1, 0, none⟩), .int .i64 0, v7, v8, v9, v10, v11, v12, v13, v14, v15, v16, v17, v18, undef, undef, undef, undef, undef, undef], defers := [] }
structure SInv (w0 : World) (M tp : Nat) (r s : Row) (D : Nat → Bool) (v7 v8 v9 v10 v11 v12 v13 v14 v15 v16 v17 v18 : Value) (W : World) : Prop where
  sw : SW w0 M r s W
  top : tp ≤ W.heap.size
  s9 : D 0 = true → v9 = .map (some M)
  s10 : D 1 = true → v10 = rowV r
  s11 : D 2 = true → v11 = rowV s
  s12 : D 3 = true → v12 = rowV (yesR r s)
  s13 : D 4 = true → v13 = planV (planR (yesR r s))
  s14 : D 5 = true → v14 = .map (some M)
  s15 : D 6 = true → v15 = rowV r
  s16 : D 7 = true → v16 = rowV s
  s17 : D 8 = true → v17 = rowV (noR r s)
  s18 : D 9 = true → v18 = planV (planR (noR r s))
  s7 : D 10 = true → ∃ b7, v7 = .pointer (some ⟨b7, 0, none⟩) ∧ tp ≤ b7 ∧ Five W b7 (.int .i64 (if D 12 = true then ((planR (yesR r s)).need : Int) else 0)) (.int .i64 (if D 12 = true then ((planR (yesR r s)).first.1 : Int) else 0)) (.int .i64 (if D 12 = true then ((planR (yesR r s)).first.2.1 : Int) else 0)) (.int .i64 (if D 12 = true then ((planR (yesR r s)).first.2.2 : Int) else 0)) (.int .i64 (if D 12 = true then ((planR (yesR r s)).many : Int) else 0))
  s8 : D 11 = true → ∃ b8, v8 = .pointer (some ⟨b8, 0, none⟩) ∧ tp ≤ b8 ∧ Five W b8 (.int .i64 (if D 13 = true then ((planR (noR r s)).need : Int) else 0)) (.int .i64 (if D 13 = true then ((planR (noR r s)).first.1 : Int) else 0)) (.int .i64 (if D 13 = true then ((planR (noR r s)).first.2.1 : Int) else 0)) (.int .i64 (if D 13 = true then ((planR (noR r s)).first.2.2 : Int) else 0)) (.int .i64 (if D 13 = true then ((planR (noR r s)).many : Int) else 0))
  ne : D 10 = true → D 11 = true → v7 ≠ v8
  o12 : D 12 = true → D 10 = true
  o13 : D 13 = true → D 11 = true
set_option maxRecDepth 100000 in
set_option maxHeartbeats 8000000 in
theorem splitNeed_of (m : Nat) (HP : PlanLess m) (r s : Row) (w : World) (M : Nat) (h8 : rsum r ≤ 8) (hf : Fits s r) (hy : massR (yesR r s) < m) (hn : massR (noR r s) < m) (hpm : PlanM w M) :
    Calls Try.prog 173 #[.map (some M), .agg #[.int .i64 (r.1 : Int), .int .i64 (r.2.1 : Int), .int .i64 (r.2.2 : Int)], .agg #[.int .i64 (s.1 : Int), .int .i64 (s.2.1 : Int), .int .i64 (s.2.2 : Int)]] w fun e w' => e = .returned (.int .i64 ((valR r s : Nat) : Int)) ∧ PlanM w' M ∧ Within M (M + 1) w w' := by
  have hM := hpm.lt
  have h8s := yes_sum h8 hf
  have B1 := (Below.refl w.heap.size w).alloc (Nat.le_refl _) (.cells #[.int .i64 (r.1 : Int), .int .i64 (r.2.1 : Int), .int .i64 (r.2.2 : Int)] 111)
  have T1 := Three.new w (.int .i64 (r.1 : Int)) (.int .i64 (r.2.1 : Int)) (.int .i64 (r.2.2 : Int)) w.heap.size rfl
  have HB := Lib.hid (B1.alloc B1.size (.cells #[.int .i64 (s.1 : Int), .int .i64 (s.2.1 : Int), .int .i64 (s.2.2 : Int)] 111))
  have HT2 := Lib.hid (Three.new (w.alloc (.cells #[.int .i64 (r.1 : Int), .int .i64 (r.2.1 : Int), .int .i64 (r.2.2 : Int)] 111)) (.int .i64 (s.1 : Int)) (.int .i64 (s.2.1 : Int)) (.int .i64 (s.2.2 : Int)) (w.heap.size + 1) (by simp))
  have HT1 := Lib.hid (T1.step ((Below.refl _ (w.alloc (.cells #[.int .i64 (r.1 : Int), .int .i64 (r.2.1 : Int), .int .i64 (r.2.2 : Int)] 111))).alloc (Nat.le_refl _) (.cells #[.int .i64 (s.1 : Int), .int .i64 (s.2.1 : Int), .int .i64 (s.2.2 : Int)] 111)))
  have HCY := Lib.hid (fun W => yesRow_any r s W h8 hf)
  have HCN := Lib.hid (fun W => noRow_any r s W h8 hf)
  have HPY := Lib.hid (fun W h => HP (yesR r s) hy h8s.1 W M h)
  have HPN := Lib.hid (fun W h => HP (noR r s) hn h8s.2 W M h)
  have HNY := Lib.hid (plan_need h8s.1)
  have HNN := Lib.hid (plan_need h8s.2)
  have hny := need_le h8s.1
  have hnn := need_le h8s.2
  have HSW : Hid (SW w M r s ((w.alloc (.cells #[.int .i64 (r.1 : Int), .int .i64 (r.2.1 : Int), .int .i64 (r.2.2 : Int)] 111)).alloc (.cells #[.int .i64 (s.1 : Int), .int .i64 (s.2.1 : Int), .int .i64 (s.2.2 : Int)] 111))) := Lib.hid ⟨hpm.below HB.out hM, HT1.out, HT2.out, Within.of_below HB.out⟩
  clear B1 T1 HB HT1 HT2 hpm HP
  go_enter Try.func173, Try.ntmps173
  go_upto_region 1 with fail
  generalize (w.alloc (.cells #[.int .i64 (r.1 : Int), .int .i64 (r.2.1 : Int), .int .i64 (r.2.2 : Int)] 111)).alloc (.cells #[.int .i64 (s.1 : Int), .int .i64 (s.2.1 : Int), .int .i64 (s.2.2 : Int)] 111) = wa at HSW ⊢
  have htop : w.heap.size + 1 < wa.heap.size := HSW.out.t5.lt
  go_cut [7, 8] from 9 to 18 (fun p7 p8 wx => ∃ (b7 b8 : Nat), p7 = .pointer (some ⟨b7, 0, none⟩) ∧ p8 = .pointer (some ⟨b8, 0, none⟩) ∧ Hid (Five wx b7 (.int .i64 ((planR (yesR r s)).need : Int)) (.int .i64 ((planR (yesR r s)).first.1 : Int)) (.int .i64 ((planR (yesR r s)).first.2.1 : Int)) (.int .i64 ((planR (yesR r s)).first.2.2 : Int)) (.int .i64 ((planR (yesR r s)).many : Int))) ∧ Hid (Five wx b8 (.int .i64 ((planR (noR r s)).need : Int)) (.int .i64 ((planR (noR r s)).first.1 : Int)) (.int .i64 ((planR (noR r s)).first.2.1 : Int)) (.int .i64 ((planR (noR r s)).first.2.2 : Int)) (.int .i64 ((planR (noR r s)).many : Int))) ∧ Hid (SW w M r s wx))
  case first =>
    refine wp_region_noPanic ?_
    refine wp_region_inv (by kernel_rfl) (by kernel_rfl) (fun D A W => ∃ v7 v8 v9 v10 v11 v12 v13 v14 v15 v16 v17 v18, A = sAct w.heap.size M r s v7 v8 v9 v10 v11 v12 v13 v14 v15 v16 v17 v18 ∧ SInv w M wa.heap.size r s D v7 v8 v9 v10 v11 v12 v13 v14 v15 v16 v17 v18 W) ?h0 ?hs ?hd
    case h0 => exact ⟨undef, undef, undef, undef, undef, undef, undef, undef, undef, undef, undef, undef, rfl, ⟨HSW.out.below hM (Below.refl _ wa).drew, Nat.le_refl _, nofun, nofun, nofun, nofun, nofun, nofun, nofun, nofun, nofun, nofun, nofun, nofun, nofun, nofun, nofun⟩⟩
    case hs =>
      rintro D _ W ⟨v7, v8, v9, v10, v11, v12, v13, v14, v15, v16, v17, v18, rfl, hI⟩ i o ho hD hA K hK
      have hi : i < 14 := (Array.getElem?_eq_some_iff.1 ho).1
      have HI := Lib.hid hI
      have HK := Lib.hid hK
      clear hI hK
      obtain rfl | rfl | rfl | rfl | rfl | rfl | rfl | rfl | rfl | rfl | rfl | rfl | rfl | rfl : i = 0 ∨ i = 1 ∨ i = 2 ∨ i = 3 ∨ i = 4 ∨ i = 5 ∨ i = 6 ∨ i = 7 ∨ i = 8 ∨ i = 9 ∨ i = 10 ∨ i = 11 ∨ i = 12 ∨ i = 13 := by omega
      all_goals (obtain rfl := Option.some.inj ho; clear ho hi; simp [Region.binds] at hA; unfold sAct)
      · go_simp
        exact HK.out _ _ ⟨_, _, _, _, _, _, _, _, _, _, _, _, rfl, ⟨(HI.out.sw), (HI.out.top), (fun _ => rfl), (by first | exact fun _ => rfl | simpa using HI.out.s10), (by first | exact fun _ => rfl | simpa using HI.out.s11), (by first | exact fun _ => rfl | simpa using HI.out.s12), (by first | exact fun _ => rfl | simpa using HI.out.s13), (by first | exact fun _ => rfl | simpa using HI.out.s14), (by first | exact fun _ => rfl | simpa using HI.out.s15), (by first | exact fun _ => rfl | simpa using HI.out.s16), (by first | exact fun _ => rfl | simpa using HI.out.s17), (by first | exact fun _ => rfl | simpa using HI.out.s18), (by simpa using HI.out.s7), (by simpa using HI.out.s8), (by simpa using HI.out.ne), (by simpa using HI.out.o12), (by simpa using HI.out.o13)⟩⟩
      · have h0 := HI.out.sw.t4.c0
        have h1 := HI.out.sw.t4.c1
        have h2 := HI.out.sw.t4.c2
        go_simp
        exact HK.out _ _ ⟨_, _, _, _, _, _, _, _, _, _, _, _, rfl, ⟨(HI.out.sw), (HI.out.top), (by first | exact fun _ => rfl | simpa using HI.out.s9), (fun _ => rfl), (by first | exact fun _ => rfl | simpa using HI.out.s11), (by first | exact fun _ => rfl | simpa using HI.out.s12), (by first | exact fun _ => rfl | simpa using HI.out.s13), (by first | exact fun _ => rfl | simpa using HI.out.s14), (by first | exact fun _ => rfl | simpa using HI.out.s15), (by first | exact fun _ => rfl | simpa using HI.out.s16), (by first | exact fun _ => rfl | simpa using HI.out.s17), (by first | exact fun _ => rfl | simpa using HI.out.s18), (by simpa using HI.out.s7), (by simpa using HI.out.s8), (by simpa using HI.out.ne), (by simpa using HI.out.o12), (by simpa using HI.out.o13)⟩⟩
      · have h0 := HI.out.sw.t5.c0
        have h1 := HI.out.sw.t5.c1
        have h2 := HI.out.sw.t5.c2
        go_simp
        exact HK.out _ _ ⟨_, _, _, _, _, _, _, _, _, _, _, _, rfl, ⟨(HI.out.sw), (HI.out.top), (by first | exact fun _ => rfl | simpa using HI.out.s9), (by first | exact fun _ => rfl | simpa using HI.out.s10), (fun _ => rfl), (by first | exact fun _ => rfl | simpa using HI.out.s12), (by first | exact fun _ => rfl | simpa using HI.out.s13), (by first | exact fun _ => rfl | simpa using HI.out.s14), (by first | exact fun _ => rfl | simpa using HI.out.s15), (by first | exact fun _ => rfl | simpa using HI.out.s16), (by first | exact fun _ => rfl | simpa using HI.out.s17), (by first | exact fun _ => rfl | simpa using HI.out.s18), (by simpa using HI.out.s7), (by simpa using HI.out.s8), (by simpa using HI.out.ne), (by simpa using HI.out.o12), (by simpa using HI.out.o13)⟩⟩
      · obtain rfl := HI.out.s10 hA.1; obtain rfl := HI.out.s11 hA.2
        simp only [rowV]
        go_simp
        refine (HCY.out W).mono ?_
        rintro e w1 ⟨rfl, hb1⟩
        exact HK.out _ _ ⟨_, _, _, _, _, _, _, _, _, _, _, _, rfl, ⟨(HI.out.sw.below hM hb1), (Nat.le_trans HI.out.top hb1.size), (by first | exact fun _ => rfl | simpa using HI.out.s9), (by first | exact fun _ => rfl | simpa using HI.out.s10), (by first | exact fun _ => rfl | simpa using HI.out.s11), (fun _ => rfl), (by first | exact fun _ => rfl | simpa using HI.out.s13), (by first | exact fun _ => rfl | simpa using HI.out.s14), (by first | exact fun _ => rfl | simpa using HI.out.s15), (by first | exact fun _ => rfl | simpa using HI.out.s16), (by first | exact fun _ => rfl | simpa using HI.out.s17), (by first | exact fun _ => rfl | simpa using HI.out.s18), (fun h => by obtain ⟨b7, e, h1, h2⟩ := HI.out.s7 (by simpa using h); exact ⟨b7, e, h1, by simpa using h2.step hb1⟩), (fun h => by obtain ⟨b8, e, h1, h2⟩ := HI.out.s8 (by simpa using h); exact ⟨b8, e, h1, by simpa using h2.step hb1⟩), (by simpa using HI.out.ne), (by simpa using HI.out.o12), (by simpa using HI.out.o13)⟩⟩
      · obtain rfl := HI.out.s9 (by simp_all); obtain rfl := HI.out.s12 (by simp_all)
        simp only [rowV]
        go_simp
        refine (HPY.out W HI.out.sw.pm).mono ?_
        rintro e w1 ⟨rfl, hpm1, hw1⟩
        exact HK.out _ _ ⟨_, _, _, _, _, _, _, _, _, _, _, _, rfl, ⟨(HI.out.sw.step hM hw1 hpm1), (Nat.le_trans HI.out.top hw1.size), (by first | exact fun _ => rfl | simpa using HI.out.s9), (by first | exact fun _ => rfl | simpa using HI.out.s10), (by first | exact fun _ => rfl | simpa using HI.out.s11), (by first | exact fun _ => rfl | simpa using HI.out.s12), (fun _ => rfl), (by first | exact fun _ => rfl | simpa using HI.out.s14), (by first | exact fun _ => rfl | simpa using HI.out.s15), (by first | exact fun _ => rfl | simpa using HI.out.s16), (by first | exact fun _ => rfl | simpa using HI.out.s17), (by first | exact fun _ => rfl | simpa using HI.out.s18), (fun h => by obtain ⟨b7, e, h1, h2⟩ := HI.out.s7 (by simpa using h); exact ⟨b7, e, h1, by simpa using h2.within hw1 (.inr (by omega))⟩), (fun h => by obtain ⟨b8, e, h1, h2⟩ := HI.out.s8 (by simpa using h); exact ⟨b8, e, h1, by simpa using h2.within hw1 (.inr (by omega))⟩), (by simpa using HI.out.ne), (by simpa using HI.out.o12), (by simpa using HI.out.o13)⟩⟩
      · go_simp
        exact HK.out _ _ ⟨_, _, _, _, _, _, _, _, _, _, _, _, rfl, ⟨(HI.out.sw), (HI.out.top), (by first | exact fun _ => rfl | simpa using HI.out.s9), (by first | exact fun _ => rfl | simpa using HI.out.s10), (by first | exact fun _ => rfl | simpa using HI.out.s11), (by first | exact fun _ => rfl | simpa using HI.out.s12), (by first | exact fun _ => rfl | simpa using HI.out.s13), (fun _ => rfl), (by first | exact fun _ => rfl | simpa using HI.out.s15), (by first | exact fun _ => rfl | simpa using HI.out.s16), (by first | exact fun _ => rfl | simpa using HI.out.s17), (by first | exact fun _ => rfl | simpa using HI.out.s18), (by simpa using HI.out.s7), (by simpa using HI.out.s8), (by simpa using HI.out.ne), (by simpa using HI.out.o12), (by simpa using HI.out.o13)⟩⟩
      · have h0 := HI.out.sw.t4.c0
        have h1 := HI.out.sw.t4.c1
        have h2 := HI.out.sw.t4.c2
        go_simp
        exact HK.out _ _ ⟨_, _, _, _, _, _, _, _, _, _, _, _, rfl, ⟨(HI.out.sw), (HI.out.top), (by first | exact fun _ => rfl | simpa using HI.out.s9), (by first | exact fun _ => rfl | simpa using HI.out.s10), (by first | exact fun _ => rfl | simpa using HI.out.s11), (by first | exact fun _ => rfl | simpa using HI.out.s12), (by first | exact fun _ => rfl | simpa using HI.out.s13), (by first | exact fun _ => rfl | simpa using HI.out.s14), (fun _ => rfl), (by first | exact fun _ => rfl | simpa using HI.out.s16), (by first | exact fun _ => rfl | simpa using HI.out.s17), (by first | exact fun _ => rfl | simpa using HI.out.s18), (by simpa using HI.out.s7), (by simpa using HI.out.s8), (by simpa using HI.out.ne), (by simpa using HI.out.o12), (by simpa using HI.out.o13)⟩⟩
      · have h0 := HI.out.sw.t5.c0
        have h1 := HI.out.sw.t5.c1
        have h2 := HI.out.sw.t5.c2
        go_simp
        exact HK.out _ _ ⟨_, _, _, _, _, _, _, _, _, _, _, _, rfl, ⟨(HI.out.sw), (HI.out.top), (by first | exact fun _ => rfl | simpa using HI.out.s9), (by first | exact fun _ => rfl | simpa using HI.out.s10), (by first | exact fun _ => rfl | simpa using HI.out.s11), (by first | exact fun _ => rfl | simpa using HI.out.s12), (by first | exact fun _ => rfl | simpa using HI.out.s13), (by first | exact fun _ => rfl | simpa using HI.out.s14), (by first | exact fun _ => rfl | simpa using HI.out.s15), (fun _ => rfl), (by first | exact fun _ => rfl | simpa using HI.out.s17), (by first | exact fun _ => rfl | simpa using HI.out.s18), (by simpa using HI.out.s7), (by simpa using HI.out.s8), (by simpa using HI.out.ne), (by simpa using HI.out.o12), (by simpa using HI.out.o13)⟩⟩
      · obtain rfl := HI.out.s15 (by simp_all); obtain rfl := HI.out.s16 (by simp_all)
        simp only [rowV]
        go_simp
        refine (HCN.out W).mono ?_
        rintro e w1 ⟨rfl, hb1⟩
        exact HK.out _ _ ⟨_, _, _, _, _, _, _, _, _, _, _, _, rfl, ⟨(HI.out.sw.below hM hb1), (Nat.le_trans HI.out.top hb1.size), (by first | exact fun _ => rfl | simpa using HI.out.s9), (by first | exact fun _ => rfl | simpa using HI.out.s10), (by first | exact fun _ => rfl | simpa using HI.out.s11), (by first | exact fun _ => rfl | simpa using HI.out.s12), (by first | exact fun _ => rfl | simpa using HI.out.s13), (by first | exact fun _ => rfl | simpa using HI.out.s14), (by first | exact fun _ => rfl | simpa using HI.out.s15), (by first | exact fun _ => rfl | simpa using HI.out.s16), (fun _ => rfl), (by first | exact fun _ => rfl | simpa using HI.out.s18), (fun h => by obtain ⟨b7, e, h1, h2⟩ := HI.out.s7 (by simpa using h); exact ⟨b7, e, h1, by simpa using h2.step hb1⟩), (fun h => by obtain ⟨b8, e, h1, h2⟩ := HI.out.s8 (by simpa using h); exact ⟨b8, e, h1, by simpa using h2.step hb1⟩), (by simpa using HI.out.ne), (by simpa using HI.out.o12), (by simpa using HI.out.o13)⟩⟩
      · obtain rfl := HI.out.s14 (by simp_all); obtain rfl := HI.out.s17 (by simp_all)
        simp only [rowV]
        go_simp
        refine (HPN.out W HI.out.sw.pm).mono ?_
        rintro e w1 ⟨rfl, hpm1, hw1⟩
        exact HK.out _ _ ⟨_, _, _, _, _, _, _, _, _, _, _, _, rfl, ⟨(HI.out.sw.step hM hw1 hpm1), (Nat.le_trans HI.out.top hw1.size), (by first | exact fun _ => rfl | simpa using HI.out.s9), (by first | exact fun _ => rfl | simpa using HI.out.s10), (by first | exact fun _ => rfl | simpa using HI.out.s11), (by first | exact fun _ => rfl | simpa using HI.out.s12), (by first | exact fun _ => rfl | simpa using HI.out.s13), (by first | exact fun _ => rfl | simpa using HI.out.s14), (by first | exact fun _ => rfl | simpa using HI.out.s15), (by first | exact fun _ => rfl | simpa using HI.out.s16), (by first | exact fun _ => rfl | simpa using HI.out.s17), (fun _ => rfl), (fun h => by obtain ⟨b7, e, h1, h2⟩ := HI.out.s7 (by simpa using h); exact ⟨b7, e, h1, by simpa using h2.within hw1 (.inr (by omega))⟩), (fun h => by obtain ⟨b8, e, h1, h2⟩ := HI.out.s8 (by simpa using h); exact ⟨b8, e, h1, by simpa using h2.within hw1 (.inr (by omega))⟩), (by simpa using HI.out.ne), (by simpa using HI.out.o12), (by simpa using HI.out.o13)⟩⟩
      · have hA1 := ((Below.refl _ W).alloc (Nat.le_refl _) (.cells #[.int .i64 0, .int .i64 0, .int .i64 0, .int .i64 0, .int .i64 0] 123))
        have hnn12 : D 12 = false := by
          rcases Bool.eq_false_or_eq_true (D 12) with h | h
          · rw [HI.out.o12 h] at hD; cases hD
          · exact h
        go_simp
        exact HK.out _ _ ⟨_, _, _, _, _, _, _, _, _, _, _, _, rfl, ⟨(HI.out.sw.below hM hA1), (Nat.le_trans HI.out.top hA1.size), (by first | exact fun _ => rfl | simpa using HI.out.s9), (by first | exact fun _ => rfl | simpa using HI.out.s10), (by first | exact fun _ => rfl | simpa using HI.out.s11), (by first | exact fun _ => rfl | simpa using HI.out.s12), (by first | exact fun _ => rfl | simpa using HI.out.s13), (by first | exact fun _ => rfl | simpa using HI.out.s14), (by first | exact fun _ => rfl | simpa using HI.out.s15), (by first | exact fun _ => rfl | simpa using HI.out.s16), (by first | exact fun _ => rfl | simpa using HI.out.s17), (by first | exact fun _ => rfl | simpa using HI.out.s18), ((fun _ => ⟨W.heap.size, rfl, HI.out.top, by simpa [hnn12] using Five.new W (.int .i64 0) (.int .i64 0) (.int .i64 0) (.int .i64 0) (.int .i64 0) W.heap.size rfl⟩)), (fun h => by obtain ⟨b8, e, h1, h2⟩ := HI.out.s8 (by simpa using h); exact ⟨b8, e, h1, by simpa using h2.step hA1⟩), (fun _ h5 e => by obtain ⟨b6, e6, h1, h2⟩ := HI.out.s8 (by simpa using h5); have := h2.lt; rw [e6] at e; injection e with e; injection e with e; injection e with e; omega), (fun _ => by simp), (by simpa using HI.out.o13)⟩⟩
      · have hA1 := ((Below.refl _ W).alloc (Nat.le_refl _) (.cells #[.int .i64 0, .int .i64 0, .int .i64 0, .int .i64 0, .int .i64 0] 123))
        have hnn13 : D 13 = false := by
          rcases Bool.eq_false_or_eq_true (D 13) with h | h
          · rw [HI.out.o13 h] at hD; cases hD
          · exact h
        go_simp
        exact HK.out _ _ ⟨_, _, _, _, _, _, _, _, _, _, _, _, rfl, ⟨(HI.out.sw.below hM hA1), (Nat.le_trans HI.out.top hA1.size), (by first | exact fun _ => rfl | simpa using HI.out.s9), (by first | exact fun _ => rfl | simpa using HI.out.s10), (by first | exact fun _ => rfl | simpa using HI.out.s11), (by first | exact fun _ => rfl | simpa using HI.out.s12), (by first | exact fun _ => rfl | simpa using HI.out.s13), (by first | exact fun _ => rfl | simpa using HI.out.s14), (by first | exact fun _ => rfl | simpa using HI.out.s15), (by first | exact fun _ => rfl | simpa using HI.out.s16), (by first | exact fun _ => rfl | simpa using HI.out.s17), (by first | exact fun _ => rfl | simpa using HI.out.s18), (fun h => by obtain ⟨b7, e, h1, h2⟩ := HI.out.s7 (by simpa using h); exact ⟨b7, e, h1, by simpa using h2.step hA1⟩), ((fun _ => ⟨W.heap.size, rfl, HI.out.top, by simpa [hnn13] using Five.new W (.int .i64 0) (.int .i64 0) (.int .i64 0) (.int .i64 0) (.int .i64 0) W.heap.size rfl⟩)), (fun h4 _ e => by obtain ⟨b5, e5, h1, h2⟩ := HI.out.s7 (by simpa using h4); have := h2.lt; rw [e5] at e; injection e with e; injection e with e; injection e with e; omega), (by simpa using HI.out.o12), (fun _ => by simp)⟩⟩
      · obtain ⟨b7, rfl, hb5, hT⟩ := HI.out.s7 (by simp_all)
        obtain rfl := HI.out.s13 (by simp_all)
        rw [hD] at hT
        simp only [Bool.false_eq_true, if_false] at hT
        have c0 := hT.c0
        have f0 := hT.f 0
        have c1 := hT.c1
        have f1 := hT.f 1
        have c2 := hT.c2
        have f2 := hT.f 2
        have c3 := hT.c3
        have f3 := hT.f 3
        have c4 := hT.c4
        have f4 := hT.f 4
        have HT := Lib.hid hT
        clear hT
        simp only [planV]
        go_simp
        exact HK.out _ (set5 W b7 (.int .i64 ((planR (yesR r s)).need : Int)) (.int .i64 ((planR (yesR r s)).first.1 : Int)) (.int .i64 ((planR (yesR r s)).first.2.1 : Int)) (.int .i64 ((planR (yesR r s)).first.2.2 : Int)) (.int .i64 ((planR (yesR r s)).many : Int))) ⟨_, _, _, _, _, _, _, _, _, _, _, _, rfl, ⟨(HI.out.sw.far hM (by omega) _ _ _ _ _), (by simpa [set5, World.setCell] using HI.out.top), (by first | exact fun _ => rfl | simpa using HI.out.s9), (by first | exact fun _ => rfl | simpa using HI.out.s10), (by first | exact fun _ => rfl | simpa using HI.out.s11), (by first | exact fun _ => rfl | simpa using HI.out.s12), (by first | exact fun _ => rfl | simpa using HI.out.s13), (by first | exact fun _ => rfl | simpa using HI.out.s14), (by first | exact fun _ => rfl | simpa using HI.out.s15), (by first | exact fun _ => rfl | simpa using HI.out.s16), (by first | exact fun _ => rfl | simpa using HI.out.s17), (by first | exact fun _ => rfl | simpa using HI.out.s18), ((fun _ => ⟨b7, rfl, hb5, by simpa using HT.out.set (.int .i64 ((planR (yesR r s)).need : Int)) (.int .i64 ((planR (yesR r s)).first.1 : Int)) (.int .i64 ((planR (yesR r s)).first.2.1 : Int)) (.int .i64 ((planR (yesR r s)).first.2.2 : Int)) (.int .i64 ((planR (yesR r s)).many : Int))⟩)), (fun h => by obtain ⟨b8, e, h1, h2⟩ := HI.out.s8 (by simpa using h); have hne := HI.out.ne (by simp_all) (by simpa using h); exact ⟨b8, e, h1, by simpa using h2.far5 (fun hh => hne (by rw [e, hh])) (.int .i64 ((planR (yesR r s)).need : Int)) (.int .i64 ((planR (yesR r s)).first.1 : Int)) (.int .i64 ((planR (yesR r s)).first.2.1 : Int)) (.int .i64 ((planR (yesR r s)).first.2.2 : Int)) (.int .i64 ((planR (yesR r s)).many : Int))⟩), (by simpa using HI.out.ne), (fun _ => by simp_all), (by simpa using HI.out.o13)⟩⟩
      · obtain ⟨b8, rfl, hb5, hT⟩ := HI.out.s8 (by simp_all)
        obtain rfl := HI.out.s18 (by simp_all)
        rw [hD] at hT
        simp only [Bool.false_eq_true, if_false] at hT
        have c0 := hT.c0
        have f0 := hT.f 0
        have c1 := hT.c1
        have f1 := hT.f 1
        have c2 := hT.c2
        have f2 := hT.f 2
        have c3 := hT.c3
        have f3 := hT.f 3
        have c4 := hT.c4
        have f4 := hT.f 4
        have HT := Lib.hid hT
        clear hT
        simp only [planV]
        go_simp
        exact HK.out _ (set5 W b8 (.int .i64 ((planR (noR r s)).need : Int)) (.int .i64 ((planR (noR r s)).first.1 : Int)) (.int .i64 ((planR (noR r s)).first.2.1 : Int)) (.int .i64 ((planR (noR r s)).first.2.2 : Int)) (.int .i64 ((planR (noR r s)).many : Int))) ⟨_, _, _, _, _, _, _, _, _, _, _, _, rfl, ⟨(HI.out.sw.far hM (by omega) _ _ _ _ _), (by simpa [set5, World.setCell] using HI.out.top), (by first | exact fun _ => rfl | simpa using HI.out.s9), (by first | exact fun _ => rfl | simpa using HI.out.s10), (by first | exact fun _ => rfl | simpa using HI.out.s11), (by first | exact fun _ => rfl | simpa using HI.out.s12), (by first | exact fun _ => rfl | simpa using HI.out.s13), (by first | exact fun _ => rfl | simpa using HI.out.s14), (by first | exact fun _ => rfl | simpa using HI.out.s15), (by first | exact fun _ => rfl | simpa using HI.out.s16), (by first | exact fun _ => rfl | simpa using HI.out.s17), (by first | exact fun _ => rfl | simpa using HI.out.s18), (fun h => by obtain ⟨b7, e, h1, h2⟩ := HI.out.s7 (by simpa using h); have hne := HI.out.ne (by simpa using h) (by simp_all); exact ⟨b7, e, h1, by simpa using h2.far5 (fun hh => hne (by rw [e, hh])) (.int .i64 ((planR (noR r s)).need : Int)) (.int .i64 ((planR (noR r s)).first.1 : Int)) (.int .i64 ((planR (noR r s)).first.2.1 : Int)) (.int .i64 ((planR (noR r s)).first.2.2 : Int)) (.int .i64 ((planR (noR r s)).many : Int))⟩), ((fun _ => ⟨b8, rfl, hb5, by simpa using HT.out.set (.int .i64 ((planR (noR r s)).need : Int)) (.int .i64 ((planR (noR r s)).first.1 : Int)) (.int .i64 ((planR (noR r s)).first.2.1 : Int)) (.int .i64 ((planR (noR r s)).first.2.2 : Int)) (.int .i64 ((planR (noR r s)).many : Int))⟩)), (by simpa using HI.out.ne), (by simpa using HI.out.o12), (fun _ => by simp_all)⟩⟩
    case hd =>
      rintro D _ W ⟨v7, v8, v9, v10, v11, v12, v13, v14, v15, v16, v17, v18, rfl, hI⟩ hall
      have hall : ∀ i, i < 14 → D i = true := hall
      obtain ⟨b7, rfl, hb7, hT7⟩ := hI.s7 (hall 10 (by omega))
      obtain ⟨b8, rfl, hb8, hT8⟩ := hI.s8 (hall 11 (by omega))
      rw [hall 12 (by omega)] at hT7
      rw [hall 13 (by omega)] at hT8
      simp only [if_true] at hT7 hT8
      have HS2 := Lib.hid hI.sw
      have HT7 := Lib.hid hT7
      have HT8 := Lib.hid hT8
      clear hI hall hT7 hT8
      simp only [sAct, rowV]
      refine NoPanic.normal ?_
      go_wp2_with fail
      go_meet
      case rel => exact ⟨b7, b8, rfl, rfl, HT7, HT8, HS2⟩
  case rest =>
    obtain ⟨b7, b8, rfl, rfl, HT7, HT8, HS⟩ := hcut
    have p0 := HT7.out.c0
    have q0 := HT8.out.c0
    rw [HNY.out] at p0
    rw [HNN.out] at q0
    have HV : Hid (valR r s = 1 + max (needR (yesR r s)) (needR (noR r s))) := Lib.hid rfl
    clear HCY HCN HPY HPN HSW HNY HNN HT7 HT8
    generalize needR (yesR r s) = ny at p0 hny HV
    generalize needR (noR r s) = nn at q0 hnn HV
    by_cases hle : nn ≤ ny
    · have E : Hid (valR r s = 1 + ny) := Lib.hid (by rw [HV.out]; omega)
      have hleI : (nn : Int) ≤ (ny : Int) := by omega
      go_wp2
      all_goals
        go_ret
        exact ⟨by rw [E.out]; first | rfl | (simp; omega) | simp, HS.out.pm, HS.out.wi⟩
    · have E : Hid (valR r s = 1 + nn) := Lib.hid (by rw [HV.out]; omega)
      have hleI : (ny : Int) < (nn : Int) := by omega
      go_wp2
      all_goals
        go_ret
        exact ⟨by rw [E.out]; first | rfl | (simp; omega) | simp, HS.out.pm, HS.out.wi⟩
end Go.Proofs.Ythjkmfjhcohhbab
