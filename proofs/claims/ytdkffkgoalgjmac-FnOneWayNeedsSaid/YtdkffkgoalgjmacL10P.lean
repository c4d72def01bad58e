/- planBy over planOf of less. -/
import Derived.Test.YtdkffkgoalgjmacL10M
import Derived.Test.YtdkffkgoalgjmacRInv
import Derived.Test.YtdkffkgoalgjmacSp4a
namespace Go.Proofs.Ytdkffkgoalgjmac
open Go.RowKit Go.ChangeShapes Go.WideShapes Go.Maps
set_option linter.unusedVariables false

/-- planOf of counts of less than so much. -/
def PlanLessO (m : Nat) : Prop := ∀ (r : Row), massR r < m → rsum r ≤ 8 → ∀ (w : World) (M : Nat), PlanMO w M →
  Calls Try.prog 141 #[.map (some M), .agg #[.int .i64 (r.1 : Int), .int .i64 (r.2.1 : Int), .int .i64 (r.2.2 : Int)]] w fun e w' => e = .returned (planVO (planO r)) ∧ PlanMO w' M ∧ Within M (M + 1) w w'
structure SWO (w0 : World) (M : Nat) (r s : Row) (W : World) : Prop where
  pm : PlanMO W M
  t4 : Three W w0.heap.size (.int .i64 (r.1 : Int)) (.int .i64 (r.2.1 : Int)) (.int .i64 (r.2.2 : Int))
  t5 : Three W (w0.heap.size + 1) (.int .i64 (s.1 : Int)) (.int .i64 (s.2.1 : Int)) (.int .i64 (s.2.2 : Int))
  t6 : FiveO W (w0.heap.size + 1 + 1) (.int .i64 0) (.int .i64 0) (.int .i64 0) (.int .i64 0) (.int .i64 0)
  wi : Within M (M + 1) w0 W
theorem SWO.step {w0 W W' : World} {M : Nat} {r s : Row} (h : SWO w0 M r s W) (hM : M < w0.heap.size) (hw : Within M (M + 1) W W') (pm : PlanMO W' M) : SWO w0 M r s W' :=
  ⟨pm, h.t4.within hw (.inr (by omega)), h.t5.within hw (.inr (by omega)), h.t6.within hw (.inr (by omega)), h.wi.trans hw⟩
theorem SWO.below {w0 W W' : World} {M : Nat} {r s : Row} (h : SWO w0 M r s W) (hM : M < w0.heap.size) (hb : Below W.heap.size W W') : SWO w0 M r s W' := h.step hM (Within.of_below hb) (h.pm.step hb)
theorem SWO.far {w0 W : World} {M g : Nat} {r s : Row} (h : SWO w0 M r s W) (hM : M < w0.heap.size) (hg : w0.heap.size + 1 + 1 < g) (y0 y1 y2 y3 y4 : Value) : SWO w0 M r s (set5 W g y0 y1 y2 y3 y4) :=
  ⟨h.pm.heap (block_set5 (by omega) _ _ _ _ _), h.t4.farO5 (by omega) _ _ _ _ _, h.t5.farO5 (by omega) _ _ _ _ _, h.t6.far5 (by omega) _ _ _ _ _, within_farO5 h.wi (by omega) _ _ _ _ _⟩
def oAct (n M : Nat) (r s : Row) (v7 v8 v9 v10 v11 v12 v13 v14 v15 v16 : Value) : Act :=
  { tmps := #[.map (some M), rowV r, rowV s, undef, .pointer (some ⟨n, 0, none⟩), .pointer (some ⟨n + 1, 0, none⟩), .pointer (some ⟨n + 1 + 1, 0, none⟩), v7, v8, v9, v10, v11, v12, v13, v14, v15, v16, undef, undef, undef, undef, undef, undef, undef, undef, undef, undef, undef, undef, undef, undef], defers := [] }
structure OInv (w0 : World) (M tp : Nat) (r s : Row) (D : Nat → Bool) (v7 v8 v9 v10 v11 v12 v13 v14 v15 v16 : Value) (W : World) : Prop where
  sw : SWO w0 M r s W
  top : tp ≤ W.heap.size
  s9 : D 0 = true → v9 = .map (some M)
  s10 : D 1 = true → v10 = rowV s
  s11 : D 2 = true → v11 = planVO (planO s)
  s12 : D 3 = true → v12 = .map (some M)
  s13 : D 4 = true → v13 = rowV r
  s14 : D 5 = true → v14 = rowV s
  s15 : D 6 = true → v15 = rowV (noR r s)
  s16 : D 7 = true → v16 = planVO (planO (noR r s))
  s7 : D 8 = true → ∃ b7, v7 = .pointer (some ⟨b7, 0, none⟩) ∧ tp ≤ b7 ∧ FiveO W b7 (.int .i64 (if D 10 = true then ((planO s).need : Int) else 0)) (.int .i64 (if D 10 = true then ((planO s).few : Int) else 0)) (.int .i64 (if D 10 = true then ((planO s).first.1 : Int) else 0)) (.int .i64 (if D 10 = true then ((planO s).first.2.1 : Int) else 0)) (.int .i64 (if D 10 = true then ((planO s).first.2.2 : Int) else 0))
  s8 : D 9 = true → ∃ b8, v8 = .pointer (some ⟨b8, 0, none⟩) ∧ tp ≤ b8 ∧ FiveO W b8 (.int .i64 (if D 11 = true then ((planO (noR r s)).need : Int) else 0)) (.int .i64 (if D 11 = true then ((planO (noR r s)).few : Int) else 0)) (.int .i64 (if D 11 = true then ((planO (noR r s)).first.1 : Int) else 0)) (.int .i64 (if D 11 = true then ((planO (noR r s)).first.2.1 : Int) else 0)) (.int .i64 (if D 11 = true then ((planO (noR r s)).first.2.2 : Int) else 0))
  ne : D 8 = true → D 9 = true → v7 ≠ v8
  o10 : D 10 = true → D 8 = true
  o11 : D 11 = true → D 9 = true
set_option maxRecDepth 100000 in
set_option maxHeartbeats 8000000 in
theorem planBy_of (m : Nat) (HP : PlanLessO m) (r s : Row) (w : World) (M : Nat) (h8 : rsum r ≤ 8) (hf : Fits s r) (hy : massR s < m) (hn : massR (noR r s) < m) (hpm : PlanMO w M) :
    Calls Try.prog 161 #[.map (some M), .agg #[.int .i64 (r.1 : Int), .int .i64 (r.2.1 : Int), .int .i64 (r.2.2 : Int)], .agg #[.int .i64 (s.1 : Int), .int .i64 (s.2.1 : Int), .int .i64 (s.2.2 : Int)]] w fun e w' => e = .returned (planVO (byO r s)) ∧ PlanMO w' M ∧ Within M (M + 1) w w' := by
  have hM := hpm.lt
  have h8s := fit_sum h8 hf
  have h8n := (yes_sum h8 hf).2
  have B1 := (Below.refl w.heap.size w).alloc (Nat.le_refl _) (.cells #[.int .i64 (r.1 : Int), .int .i64 (r.2.1 : Int), .int .i64 (r.2.2 : Int)] 102)
  have T1 := Three.new w (.int .i64 (r.1 : Int)) (.int .i64 (r.2.1 : Int)) (.int .i64 (r.2.2 : Int)) w.heap.size rfl
  have B2 := B1.alloc B1.size (.cells #[.int .i64 (s.1 : Int), .int .i64 (s.2.1 : Int), .int .i64 (s.2.2 : Int)] 102)
  have T2 := Three.new (w.alloc (.cells #[.int .i64 (r.1 : Int), .int .i64 (r.2.1 : Int), .int .i64 (r.2.2 : Int)] 102)) (.int .i64 (s.1 : Int)) (.int .i64 (s.2.1 : Int)) (.int .i64 (s.2.2 : Int)) (w.heap.size + 1) (by simp)
  have T1' := T1.step ((Below.refl _ (w.alloc (.cells #[.int .i64 (r.1 : Int), .int .i64 (r.2.1 : Int), .int .i64 (r.2.2 : Int)] 102))).alloc (Nat.le_refl _) (.cells #[.int .i64 (s.1 : Int), .int .i64 (s.2.1 : Int), .int .i64 (s.2.2 : Int)] 102))
  have HB := Lib.hid (B2.alloc B2.size (.cells #[.int .i64 0, .int .i64 0, .int .i64 0, .int .i64 0, .int .i64 0] 104))
  have HT3 := Lib.hid (FiveO.new ((w.alloc (.cells #[.int .i64 (r.1 : Int), .int .i64 (r.2.1 : Int), .int .i64 (r.2.2 : Int)] 102)).alloc (.cells #[.int .i64 (s.1 : Int), .int .i64 (s.2.1 : Int), .int .i64 (s.2.2 : Int)] 102)) (.int .i64 0) (.int .i64 0) (.int .i64 0) (.int .i64 0) (.int .i64 0) (w.heap.size + 1 + 1) (by simp))
  have HT2 := Lib.hid (T2.step ((Below.refl _ ((w.alloc (.cells #[.int .i64 (r.1 : Int), .int .i64 (r.2.1 : Int), .int .i64 (r.2.2 : Int)] 102)).alloc (.cells #[.int .i64 (s.1 : Int), .int .i64 (s.2.1 : Int), .int .i64 (s.2.2 : Int)] 102))).alloc (Nat.le_refl _) (.cells #[.int .i64 0, .int .i64 0, .int .i64 0, .int .i64 0, .int .i64 0] 104)))
  have HT1 := Lib.hid (T1'.step ((Below.refl _ ((w.alloc (.cells #[.int .i64 (r.1 : Int), .int .i64 (r.2.1 : Int), .int .i64 (r.2.2 : Int)] 102)).alloc (.cells #[.int .i64 (s.1 : Int), .int .i64 (s.2.1 : Int), .int .i64 (s.2.2 : Int)] 102))).alloc (Nat.le_refl _) (.cells #[.int .i64 0, .int .i64 0, .int .i64 0, .int .i64 0, .int .i64 0] 104)))
  have HCN := Lib.hid (fun W => noRow_any r s W h8 hf)
  have HPY := Lib.hid (fun W h => HP s hy h8s W M h)
  have HPN := Lib.hid (fun W h => HP (noR r s) hn h8n W M h)
  have HSW : Hid (SWO w M r s (((w.alloc (.cells #[.int .i64 (r.1 : Int), .int .i64 (r.2.1 : Int), .int .i64 (r.2.2 : Int)] 102)).alloc (.cells #[.int .i64 (s.1 : Int), .int .i64 (s.2.1 : Int), .int .i64 (s.2.2 : Int)] 102)).alloc (.cells #[.int .i64 0, .int .i64 0, .int .i64 0, .int .i64 0, .int .i64 0] 104))) := Lib.hid ⟨hpm.below HB.out hM, HT1.out, HT2.out, HT3.out, Within.of_below HB.out⟩
  have HN1 := Lib.hid (planO_need h8s)
  have HN2 := Lib.hid (planO_need h8n)
  have HF1 := Lib.hid (planO_few h8s)
  have HF2 := Lib.hid (planO_few h8n)
  have hn1 := needO_le h8s
  have hn2 := needO_le h8n
  have hf1 := fewO_le h8s
  have hf2 := fewO_le h8n
  clear B1 B2 T1 T2 T1' HB HT1 HT2 HT3 hpm HP
  go_enter Try.func161, Try.ntmps161
  go_upto_region 1 with fail
  generalize ((w.alloc (.cells #[.int .i64 (r.1 : Int), .int .i64 (r.2.1 : Int), .int .i64 (r.2.2 : Int)] 102)).alloc (.cells #[.int .i64 (s.1 : Int), .int .i64 (s.2.1 : Int), .int .i64 (s.2.2 : Int)] 102)).alloc (.cells #[.int .i64 0, .int .i64 0, .int .i64 0, .int .i64 0, .int .i64 0] 104) = wa at HSW ⊢
  have htp : w.heap.size + 1 + 1 < wa.heap.size := HSW.out.t6.lt
  have HTP := Lib.hid htp
  have HMT : Hid (M + 1 ≤ wa.heap.size) := Lib.hid (by omega)
  go_cut [7, 8] from 9 to 16 (fun p7 p8 wx => ∃ (b7 b8 : Nat), p7 = .pointer (some ⟨b7, 0, none⟩) ∧ p8 = .pointer (some ⟨b8, 0, none⟩) ∧ w.heap.size + 1 + 1 < b7 ∧ w.heap.size + 1 + 1 < b8 ∧ Hid (FiveO wx b7 (.int .i64 ((planO s).need : Int)) (.int .i64 ((planO s).few : Int)) (.int .i64 ((planO s).first.1 : Int)) (.int .i64 ((planO s).first.2.1 : Int)) (.int .i64 ((planO s).first.2.2 : Int))) ∧ Hid (FiveO wx b8 (.int .i64 ((planO (noR r s)).need : Int)) (.int .i64 ((planO (noR r s)).few : Int)) (.int .i64 ((planO (noR r s)).first.1 : Int)) (.int .i64 ((planO (noR r s)).first.2.1 : Int)) (.int .i64 ((planO (noR r s)).first.2.2 : Int))) ∧ Hid (SWO w M r s wx))
  case first =>
    refine wp_region_noPanic ?_
    refine wp_region_inv (by kernel_rfl) (by kernel_rfl) (fun D A W => ∃ v7 v8 v9 v10 v11 v12 v13 v14 v15 v16, A = oAct w.heap.size M r s v7 v8 v9 v10 v11 v12 v13 v14 v15 v16 ∧ OInv w M wa.heap.size r s D v7 v8 v9 v10 v11 v12 v13 v14 v15 v16 W) ?h0 ?hs ?hd
    case h0 => exact ⟨undef, undef, undef, undef, undef, undef, undef, undef, undef, undef, rfl, ⟨HSW.out.below hM (Below.refl _ wa).drew, Nat.le_refl _, nofun, nofun, nofun, nofun, nofun, nofun, nofun, nofun, nofun, nofun, nofun, nofun, nofun⟩⟩
    case hs =>
      rintro D _ W ⟨v7, v8, v9, v10, v11, v12, v13, v14, v15, v16, rfl, hI⟩ i o ho hD hA K hK
      have hi : i < 12 := (Array.getElem?_eq_some_iff.1 ho).1
      have HI := Lib.hid hI
      have HK := Lib.hid hK
      clear hI hK
      obtain rfl | rfl | rfl | rfl | rfl | rfl | rfl | rfl | rfl | rfl | rfl | rfl : i = 0 ∨ i = 1 ∨ i = 2 ∨ i = 3 ∨ i = 4 ∨ i = 5 ∨ i = 6 ∨ i = 7 ∨ i = 8 ∨ i = 9 ∨ i = 10 ∨ i = 11 := by omega
      all_goals (obtain rfl := Option.some.inj ho; clear ho hi; simp [Region.binds] at hA; unfold oAct)
      · go_simp
        exact HK.out _ _ ⟨_, _, _, _, _, _, _, _, _, _, rfl, ⟨(HI.out.sw), (HI.out.top), (fun _ => rfl), (by first | exact fun _ => rfl | simpa using HI.out.s10), (by first | exact fun _ => rfl | simpa using HI.out.s11), (by first | exact fun _ => rfl | simpa using HI.out.s12), (by first | exact fun _ => rfl | simpa using HI.out.s13), (by first | exact fun _ => rfl | simpa using HI.out.s14), (by first | exact fun _ => rfl | simpa using HI.out.s15), (by first | exact fun _ => rfl | simpa using HI.out.s16), (by simpa using HI.out.s7), (by simpa using HI.out.s8), (by simpa using HI.out.ne), (by simpa using HI.out.o10), (by simpa using HI.out.o11)⟩⟩
      · have h0 := HI.out.sw.t5.c0
        have h1 := HI.out.sw.t5.c1
        have h2 := HI.out.sw.t5.c2
        go_simp
        exact HK.out _ _ ⟨_, _, _, _, _, _, _, _, _, _, rfl, ⟨(HI.out.sw), (HI.out.top), (by first | exact fun _ => rfl | simpa using HI.out.s9), (fun _ => rfl), (by first | exact fun _ => rfl | simpa using HI.out.s11), (by first | exact fun _ => rfl | simpa using HI.out.s12), (by first | exact fun _ => rfl | simpa using HI.out.s13), (by first | exact fun _ => rfl | simpa using HI.out.s14), (by first | exact fun _ => rfl | simpa using HI.out.s15), (by first | exact fun _ => rfl | simpa using HI.out.s16), (by simpa using HI.out.s7), (by simpa using HI.out.s8), (by simpa using HI.out.ne), (by simpa using HI.out.o10), (by simpa using HI.out.o11)⟩⟩
      · obtain rfl := HI.out.s9 (by simp_all)
        obtain rfl := HI.out.s10 (by simp_all)
        simp only [rowV]
        go_simp
        refine (HPY.out W HI.out.sw.pm).mono ?_
        rintro e w1 ⟨rfl, hpm1, hw1⟩
        exact HK.out _ _ ⟨_, _, _, _, _, _, _, _, _, _, rfl, ⟨(HI.out.sw.step hM hw1 hpm1), (Nat.le_trans HI.out.top hw1.size), (by first | exact fun _ => rfl | simpa using HI.out.s9), (by first | exact fun _ => rfl | simpa using HI.out.s10), (fun _ => rfl), (by first | exact fun _ => rfl | simpa using HI.out.s12), (by first | exact fun _ => rfl | simpa using HI.out.s13), (by first | exact fun _ => rfl | simpa using HI.out.s14), (by first | exact fun _ => rfl | simpa using HI.out.s15), (by first | exact fun _ => rfl | simpa using HI.out.s16), (fun h => by obtain ⟨b7, e, h1, h2⟩ := HI.out.s7 (by simpa using h); exact ⟨b7, e, h1, by simpa using h2.within hw1 (.inr (Nat.le_trans HMT.out h1))⟩), (fun h => by obtain ⟨b8, e, h1, h2⟩ := HI.out.s8 (by simpa using h); exact ⟨b8, e, h1, by simpa using h2.within hw1 (.inr (Nat.le_trans HMT.out h1))⟩), (by simpa using HI.out.ne), (by simpa using HI.out.o10), (by simpa using HI.out.o11)⟩⟩
      · go_simp
        exact HK.out _ _ ⟨_, _, _, _, _, _, _, _, _, _, rfl, ⟨(HI.out.sw), (HI.out.top), (by first | exact fun _ => rfl | simpa using HI.out.s9), (by first | exact fun _ => rfl | simpa using HI.out.s10), (by first | exact fun _ => rfl | simpa using HI.out.s11), (fun _ => rfl), (by first | exact fun _ => rfl | simpa using HI.out.s13), (by first | exact fun _ => rfl | simpa using HI.out.s14), (by first | exact fun _ => rfl | simpa using HI.out.s15), (by first | exact fun _ => rfl | simpa using HI.out.s16), (by simpa using HI.out.s7), (by simpa using HI.out.s8), (by simpa using HI.out.ne), (by simpa using HI.out.o10), (by simpa using HI.out.o11)⟩⟩
      · have h0 := HI.out.sw.t4.c0
        have h1 := HI.out.sw.t4.c1
        have h2 := HI.out.sw.t4.c2
        go_simp
        exact HK.out _ _ ⟨_, _, _, _, _, _, _, _, _, _, rfl, ⟨(HI.out.sw), (HI.out.top), (by first | exact fun _ => rfl | simpa using HI.out.s9), (by first | exact fun _ => rfl | simpa using HI.out.s10), (by first | exact fun _ => rfl | simpa using HI.out.s11), (by first | exact fun _ => rfl | simpa using HI.out.s12), (fun _ => rfl), (by first | exact fun _ => rfl | simpa using HI.out.s14), (by first | exact fun _ => rfl | simpa using HI.out.s15), (by first | exact fun _ => rfl | simpa using HI.out.s16), (by simpa using HI.out.s7), (by simpa using HI.out.s8), (by simpa using HI.out.ne), (by simpa using HI.out.o10), (by simpa using HI.out.o11)⟩⟩
      · have h0 := HI.out.sw.t5.c0
        have h1 := HI.out.sw.t5.c1
        have h2 := HI.out.sw.t5.c2
        go_simp
        exact HK.out _ _ ⟨_, _, _, _, _, _, _, _, _, _, rfl, ⟨(HI.out.sw), (HI.out.top), (by first | exact fun _ => rfl | simpa using HI.out.s9), (by first | exact fun _ => rfl | simpa using HI.out.s10), (by first | exact fun _ => rfl | simpa using HI.out.s11), (by first | exact fun _ => rfl | simpa using HI.out.s12), (by first | exact fun _ => rfl | simpa using HI.out.s13), (fun _ => rfl), (by first | exact fun _ => rfl | simpa using HI.out.s15), (by first | exact fun _ => rfl | simpa using HI.out.s16), (by simpa using HI.out.s7), (by simpa using HI.out.s8), (by simpa using HI.out.ne), (by simpa using HI.out.o10), (by simpa using HI.out.o11)⟩⟩
      · obtain rfl := HI.out.s13 (by simp_all)
        obtain rfl := HI.out.s14 (by simp_all)
        simp only [rowV]
        go_simp
        refine (HCN.out W).mono ?_
        rintro e w1 ⟨rfl, hb1⟩
        exact HK.out _ _ ⟨_, _, _, _, _, _, _, _, _, _, rfl, ⟨(HI.out.sw.below hM hb1), (Nat.le_trans HI.out.top hb1.size), (by first | exact fun _ => rfl | simpa using HI.out.s9), (by first | exact fun _ => rfl | simpa using HI.out.s10), (by first | exact fun _ => rfl | simpa using HI.out.s11), (by first | exact fun _ => rfl | simpa using HI.out.s12), (by first | exact fun _ => rfl | simpa using HI.out.s13), (by first | exact fun _ => rfl | simpa using HI.out.s14), (fun _ => rfl), (by first | exact fun _ => rfl | simpa using HI.out.s16), (fun h => by obtain ⟨b7, e, h1, h2⟩ := HI.out.s7 (by simpa using h); exact ⟨b7, e, h1, by simpa using h2.step hb1⟩), (fun h => by obtain ⟨b8, e, h1, h2⟩ := HI.out.s8 (by simpa using h); exact ⟨b8, e, h1, by simpa using h2.step hb1⟩), (by simpa using HI.out.ne), (by simpa using HI.out.o10), (by simpa using HI.out.o11)⟩⟩
      · obtain rfl := HI.out.s12 (by simp_all)
        obtain rfl := HI.out.s15 (by simp_all)
        simp only [rowV]
        go_simp
        refine (HPN.out W HI.out.sw.pm).mono ?_
        rintro e w1 ⟨rfl, hpm1, hw1⟩
        exact HK.out _ _ ⟨_, _, _, _, _, _, _, _, _, _, rfl, ⟨(HI.out.sw.step hM hw1 hpm1), (Nat.le_trans HI.out.top hw1.size), (by first | exact fun _ => rfl | simpa using HI.out.s9), (by first | exact fun _ => rfl | simpa using HI.out.s10), (by first | exact fun _ => rfl | simpa using HI.out.s11), (by first | exact fun _ => rfl | simpa using HI.out.s12), (by first | exact fun _ => rfl | simpa using HI.out.s13), (by first | exact fun _ => rfl | simpa using HI.out.s14), (by first | exact fun _ => rfl | simpa using HI.out.s15), (fun _ => rfl), (fun h => by obtain ⟨b7, e, h1, h2⟩ := HI.out.s7 (by simpa using h); exact ⟨b7, e, h1, by simpa using h2.within hw1 (.inr (Nat.le_trans HMT.out h1))⟩), (fun h => by obtain ⟨b8, e, h1, h2⟩ := HI.out.s8 (by simpa using h); exact ⟨b8, e, h1, by simpa using h2.within hw1 (.inr (Nat.le_trans HMT.out h1))⟩), (by simpa using HI.out.ne), (by simpa using HI.out.o10), (by simpa using HI.out.o11)⟩⟩
      · have hA1 := ((Below.refl _ W).alloc (Nat.le_refl _) (.cells #[.int .i64 0, .int .i64 0, .int .i64 0, .int .i64 0, .int .i64 0] 104))
        have hnn10 : D 10 = false := by
          rcases Bool.eq_false_or_eq_true (D 10) with h | h
          · rw [HI.out.o10 h] at hD; cases hD
          · exact h
        go_simp
        exact HK.out _ _ ⟨_, _, _, _, _, _, _, _, _, _, rfl, ⟨(HI.out.sw.below hM hA1), (Nat.le_trans HI.out.top hA1.size), (by first | exact fun _ => rfl | simpa using HI.out.s9), (by first | exact fun _ => rfl | simpa using HI.out.s10), (by first | exact fun _ => rfl | simpa using HI.out.s11), (by first | exact fun _ => rfl | simpa using HI.out.s12), (by first | exact fun _ => rfl | simpa using HI.out.s13), (by first | exact fun _ => rfl | simpa using HI.out.s14), (by first | exact fun _ => rfl | simpa using HI.out.s15), (by first | exact fun _ => rfl | simpa using HI.out.s16), (fun _ => ⟨W.heap.size, rfl, HI.out.top, by simpa [hnn10] using FiveO.new W (.int .i64 0) (.int .i64 0) (.int .i64 0) (.int .i64 0) (.int .i64 0) W.heap.size rfl⟩), (fun h => by obtain ⟨b8, e, h1, h2⟩ := HI.out.s8 (by simpa using h); exact ⟨b8, e, h1, by simpa using h2.step hA1⟩), (fun _ h5 e => by obtain ⟨b6, e6, h1, h2⟩ := HI.out.s8 (by simpa using h5); have := h2.lt; rw [e6] at e; injection e with e; injection e with e; injection e with e; omega), (fun _ => by simp), (by simpa using HI.out.o11)⟩⟩
      · have hA1 := ((Below.refl _ W).alloc (Nat.le_refl _) (.cells #[.int .i64 0, .int .i64 0, .int .i64 0, .int .i64 0, .int .i64 0] 104))
        have hnn11 : D 11 = false := by
          rcases Bool.eq_false_or_eq_true (D 11) with h | h
          · rw [HI.out.o11 h] at hD; cases hD
          · exact h
        go_simp
        exact HK.out _ _ ⟨_, _, _, _, _, _, _, _, _, _, rfl, ⟨(HI.out.sw.below hM hA1), (Nat.le_trans HI.out.top hA1.size), (by first | exact fun _ => rfl | simpa using HI.out.s9), (by first | exact fun _ => rfl | simpa using HI.out.s10), (by first | exact fun _ => rfl | simpa using HI.out.s11), (by first | exact fun _ => rfl | simpa using HI.out.s12), (by first | exact fun _ => rfl | simpa using HI.out.s13), (by first | exact fun _ => rfl | simpa using HI.out.s14), (by first | exact fun _ => rfl | simpa using HI.out.s15), (by first | exact fun _ => rfl | simpa using HI.out.s16), (fun h => by obtain ⟨b7, e, h1, h2⟩ := HI.out.s7 (by simpa using h); exact ⟨b7, e, h1, by simpa using h2.step hA1⟩), (fun _ => ⟨W.heap.size, rfl, HI.out.top, by simpa [hnn11] using FiveO.new W (.int .i64 0) (.int .i64 0) (.int .i64 0) (.int .i64 0) (.int .i64 0) W.heap.size rfl⟩), (fun h4 _ e => by obtain ⟨b5, e5, h1, h2⟩ := HI.out.s7 (by simpa using h4); have := h2.lt; rw [e5] at e; injection e with e; injection e with e; injection e with e; omega), (by simpa using HI.out.o10), (fun _ => by simp)⟩⟩
      · obtain ⟨b7, rfl, hb5, hT⟩ := HI.out.s7 (by simp_all)
        obtain rfl := HI.out.s11 (by simp_all)
        rw [hD] at hT
        simp only [Bool.false_eq_true, if_false] at hT
        have c0 := hT.c0
        have f0 := hT.f 0
        have c1 := hT.c1
        have f1 := hT.f 1
        have c2 := hT.c2
        have f2 := hT.f 2
        have c3 := hT.c3
        have f3 := hT.f 3
        have c4 := hT.c4
        have f4 := hT.f 4
        have HT := Lib.hid hT
        clear hT
        simp only [planVO]
        go_simp
        exact HK.out _ (set5 W b7 (.int .i64 ((planO s).need : Int)) (.int .i64 ((planO s).few : Int)) (.int .i64 ((planO s).first.1 : Int)) (.int .i64 ((planO s).first.2.1 : Int)) (.int .i64 ((planO s).first.2.2 : Int))) ⟨_, _, _, _, _, _, _, _, _, _, rfl, ⟨(HI.out.sw.far hM (Nat.lt_of_lt_of_le HTP.out hb5) _ _ _ _ _), (by simpa [set5, World.setCell] using HI.out.top), (by first | exact fun _ => rfl | simpa using HI.out.s9), (by first | exact fun _ => rfl | simpa using HI.out.s10), (by first | exact fun _ => rfl | simpa using HI.out.s11), (by first | exact fun _ => rfl | simpa using HI.out.s12), (by first | exact fun _ => rfl | simpa using HI.out.s13), (by first | exact fun _ => rfl | simpa using HI.out.s14), (by first | exact fun _ => rfl | simpa using HI.out.s15), (by first | exact fun _ => rfl | simpa using HI.out.s16), (fun _ => ⟨b7, rfl, hb5, by simpa using HT.out.set (.int .i64 ((planO s).need : Int)) (.int .i64 ((planO s).few : Int)) (.int .i64 ((planO s).first.1 : Int)) (.int .i64 ((planO s).first.2.1 : Int)) (.int .i64 ((planO s).first.2.2 : Int))⟩), (fun h => by obtain ⟨b8, e, h1, h2⟩ := HI.out.s8 (by simpa using h); have hne := HI.out.ne (by simp_all) (by simpa using h); exact ⟨b8, e, h1, by simpa using h2.far5 (fun hh => hne (by rw [e, hh])) (.int .i64 ((planO s).need : Int)) (.int .i64 ((planO s).few : Int)) (.int .i64 ((planO s).first.1 : Int)) (.int .i64 ((planO s).first.2.1 : Int)) (.int .i64 ((planO s).first.2.2 : Int))⟩), (by simpa using HI.out.ne), (fun _ => by simp_all), (by simpa using HI.out.o11)⟩⟩
      · obtain ⟨b8, rfl, hb5, hT⟩ := HI.out.s8 (by simp_all)
        obtain rfl := HI.out.s16 (by simp_all)
        rw [hD] at hT
        simp only [Bool.false_eq_true, if_false] at hT
        have c0 := hT.c0
        have f0 := hT.f 0
        have c1 := hT.c1
        have f1 := hT.f 1
        have c2 := hT.c2
        have f2 := hT.f 2
        have c3 := hT.c3
        have f3 := hT.f 3
        have c4 := hT.c4
        have f4 := hT.f 4
        have HT := Lib.hid hT
        clear hT
        simp only [planVO]
        go_simp
        exact HK.out _ (set5 W b8 (.int .i64 ((planO (noR r s)).need : Int)) (.int .i64 ((planO (noR r s)).few : Int)) (.int .i64 ((planO (noR r s)).first.1 : Int)) (.int .i64 ((planO (noR r s)).first.2.1 : Int)) (.int .i64 ((planO (noR r s)).first.2.2 : Int))) ⟨_, _, _, _, _, _, _, _, _, _, rfl, ⟨(HI.out.sw.far hM (Nat.lt_of_lt_of_le HTP.out hb5) _ _ _ _ _), (by simpa [set5, World.setCell] using HI.out.top), (by first | exact fun _ => rfl | simpa using HI.out.s9), (by first | exact fun _ => rfl | simpa using HI.out.s10), (by first | exact fun _ => rfl | simpa using HI.out.s11), (by first | exact fun _ => rfl | simpa using HI.out.s12), (by first | exact fun _ => rfl | simpa using HI.out.s13), (by first | exact fun _ => rfl | simpa using HI.out.s14), (by first | exact fun _ => rfl | simpa using HI.out.s15), (by first | exact fun _ => rfl | simpa using HI.out.s16), (fun h => by obtain ⟨b7, e, h1, h2⟩ := HI.out.s7 (by simpa using h); have hne := HI.out.ne (by simpa using h) (by simp_all); exact ⟨b7, e, h1, by simpa using h2.far5 (fun hh => hne (by rw [e, hh])) (.int .i64 ((planO (noR r s)).need : Int)) (.int .i64 ((planO (noR r s)).few : Int)) (.int .i64 ((planO (noR r s)).first.1 : Int)) (.int .i64 ((planO (noR r s)).first.2.1 : Int)) (.int .i64 ((planO (noR r s)).first.2.2 : Int))⟩), (fun _ => ⟨b8, rfl, hb5, by simpa using HT.out.set (.int .i64 ((planO (noR r s)).need : Int)) (.int .i64 ((planO (noR r s)).few : Int)) (.int .i64 ((planO (noR r s)).first.1 : Int)) (.int .i64 ((planO (noR r s)).first.2.1 : Int)) (.int .i64 ((planO (noR r s)).first.2.2 : Int))⟩), (by simpa using HI.out.ne), (by simpa using HI.out.o10), (fun _ => by simp_all)⟩⟩
    case hd =>
      rintro D _ W ⟨v7, v8, v9, v10, v11, v12, v13, v14, v15, v16, rfl, hI⟩ hall
      have hall : ∀ i, i < 12 → D i = true := hall
      obtain ⟨b7, rfl, hb7, hT7⟩ := hI.s7 (hall 8 (by omega))
      obtain ⟨b8, rfl, hb8, hT8⟩ := hI.s8 (hall 9 (by omega))
      rw [hall 10 (by omega)] at hT7
      rw [hall 11 (by omega)] at hT8
      simp only [if_true] at hT7 hT8
      have HS2 := Lib.hid hI.sw
      have HT7 := Lib.hid hT7
      have HT8 := Lib.hid hT8
      clear hI hall hT7 hT8
      simp only [oAct, rowV]
      refine NoPanic.normal ?_
      go_wp2_with fail
      go_meet
      case rel => exact ⟨b7, b8, rfl, rfl, by omega, by omega, HT7, HT8, HS2⟩
  case rest =>
    obtain ⟨b7, b8, rfl, rfl, hb7, hb8, HT7, HT8, HS⟩ := hcut
    rename World => wx
    have p0 := HT7.out.c0
    have p1 := HT7.out.c1
    have q0 := HT8.out.c0
    have q1 := HT8.out.c1
    rw [HN1.out] at p0
    rw [HF1.out] at p1
    rw [HN2.out] at q0
    rw [HF2.out] at q1
    have s0 := HS.out.t5.c0
    have s1 := HS.out.t5.c1
    have s2 := HS.out.t5.c2
    have z0 := HS.out.t6.c0
    have z1 := HS.out.t6.c1
    have z2 := HS.out.t6.c2
    have z3 := HS.out.t6.c3
    have z4 := HS.out.t6.c4
    have g0 := HS.out.t6.f 0
    have g1 := HS.out.t6.f 1
    have g2 := HS.out.t6.f 2
    have g3 := HS.out.t6.f 3
    have g4 := HS.out.t6.f 4
    have hV : valO r s = 1 + max (needO s) (needO (noR r s)) := rfl
    have hF : fvO r s = 1 + min (fewO s) (fewO (noR r s)) := rfl
    have HE : Hid (planVO (byO r s) = .agg #[.int .i64 ((valO r s : Nat) : Int), .int .i64 ((fvO r s : Nat) : Int), .int .i64 (s.1 : Int), .int .i64 (s.2.1 : Int), .int .i64 (s.2.2 : Int)]) := Lib.hid rfl
    clear HN1 HN2 HF1 HF2 HT7 HT8 HCN HPY HPN HSW
    generalize valO r s = V at hV HE
    generalize fvO r s = F at hF HE
    generalize needO s = ny at hV p0 hn1
    generalize needO (noR r s) = nn at hV q0 hn2
    generalize fewO s = fy at hF p1 hf1
    generalize fewO (noR r s) = fn at hF q1 hf2
    have hV6 : IntKind.i64.wrap (V : Int) = (V : Int) := IntWalk.i64_in _ (by omega)
    have hF6 : IntKind.i64.wrap (F : Int) = (F : Int) := IntWalk.i64_in _ (by omega)
    have cV : (¬ ny < nn ∧ 1 + (ny : Int) = (V : Int)) ∨ (ny < nn ∧ 1 + (nn : Int) = (V : Int)) := by omega
    have cF : (fy < fn ∧ ¬ fn < fy ∧ 1 + (fy : Int) = (F : Int)) ∨ (fn < fy ∧ ¬ fy < fn ∧ 1 + (fn : Int) = (F : Int)) ∨ (fy = fn ∧ 1 + (fn : Int) = (F : Int)) := by omega
    clear hV hF
    rcases cV with ⟨hc, hV1⟩ | ⟨hc, hV1⟩
    all_goals
      rcases cF with ⟨hd1, hd2, hF1⟩ | ⟨hd1, hd2, hF1⟩ | ⟨rfl, hF1⟩
      all_goals
        go_wp2
        have HFn := HS.out.t6.set (.int .i64 (V : Int)) (.int .i64 (F : Int)) (.int .i64 (s.1 : Int)) (.int .i64 (s.2.1 : Int)) (.int .i64 (s.2.2 : Int))
        have HPf : PlanMO (set5 wx (w.heap.size + 1 + 1) (.int .i64 (V : Int)) (.int .i64 (F : Int)) (.int .i64 (s.1 : Int)) (.int .i64 (s.2.1 : Int)) (.int .i64 (s.2.2 : Int))) M := HS.out.pm.heap (block_set5 (by omega) _ _ _ _ _)
        have HWf := within_farO5 HS.out.wi (Nat.le_trans (Nat.le_succ _) (Nat.le_succ _) : w.heap.size ≤ w.heap.size + 1 + 1) (.int .i64 (V : Int)) (.int .i64 (F : Int)) (.int .i64 (s.1 : Int)) (.int .i64 (s.2.1 : Int)) (.int .i64 (s.2.2 : Int))
        unfold set5 at HFn HPf HWf
        generalize (((((wx.setCell ⟨w.heap.size + 1 + 1, 0, none⟩ (.int .i64 (V : Int))).setCell ⟨w.heap.size + 1 + 1, 1, none⟩ (.int .i64 (F : Int))).setCell ⟨w.heap.size + 1 + 1, 2, none⟩ (.int .i64 (s.1 : Int))).setCell ⟨w.heap.size + 1 + 1, 3, none⟩ (.int .i64 (s.2.1 : Int))).setCell ⟨w.heap.size + 1 + 1, 4, none⟩ (.int .i64 (s.2.2 : Int))) = wf at HFn HPf HWf ⊢
        have e0 := HFn.c0
        have e1 := HFn.c1
        have e2 := HFn.c2
        have e3 := HFn.c3
        have e4 := HFn.c4
        refine bodyPost_ret (v := .agg #[.int .i64 (V : Int), .int .i64 (F : Int), .int .i64 (s.1 : Int), .int .i64 (s.2.1 : Int), .int .i64 (s.2.2 : Int)]) (by simp [results, go_sem, e0, e1, e2, e3, e4]) rfl ?_
        exact ⟨by rw [HE.out], HPf, HWf⟩
end Go.Proofs.Ytdkffkgoalgjmac
