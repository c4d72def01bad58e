/- planOf. -/
import Derived.Test.YtdkffkgoalgjmabL6i
import Derived.Test.YtdkffkgoalgjmabL6e
namespace Go.Proofs.Ytdkffkgoalgjmab
open Go.RowKit Go.ChangeShapes Go.WideShapes Go.Maps
set_option linter.unusedVariables false

/-- What the walk of the comparisons stands on. -/
structure LW6 (w0 : World) (B b9 : Nat) (A : Option Addr) (c lo hi : Nat) (zs : List Int) (M : Nat) (U : Option Addr) (lo2 hi2 : Nat) (p : Nat × Nat) (W : World) : Prop where
  pm : LPlanM W B
  t3 : Two W w0.heap.size (.slice A zs.length c) (.int .i64 (M : Int)) 36
  t4 : Two W (w0.heap.size + 1) (.int .i64 0) (.int .i64 0) 111
  t9 : Two W b9 (.int .i64 (p.1 : Int)) (.int .i64 (p.2 : Int)) 111
  us : Ins W lo2 hi2 U (uTo zs (usesL zs))
  si : Ins W lo hi A zs
  wi : Within B (B + 1) w0 W
section
variable {w0 W W' : World} {B b9 : Nat} {A : Option Addr} {c lo hi : Nat} {zs : List Int} {M : Nat} {U : Option Addr} {lo2 hi2 : Nat} {p : Nat × Nat}
theorem LW6.step (h : LW6 w0 B b9 A c lo hi zs M U lo2 hi2 p W) (hB : B < w0.heap.size) (h9 : w0.heap.size + 1 < b9) (hu : b9 < lo2) (hd : hi ≤ B ∨ B < lo) (hw : Within B (B + 1) W W') (pm : LPlanM W' B) : LW6 w0 B b9 A c lo hi zs M U lo2 hi2 p W' :=
  ⟨pm, h.t3.within hw (.inr (by omega)), h.t4.within hw (.inr (by omega)), h.t9.within hw (.inr (by omega)), h.us.within hw (.inr (by omega)), h.si.within hw (by omega), h.wi.trans hw⟩
theorem LW6.below (h : LW6 w0 B b9 A c lo hi zs M U lo2 hi2 p W) (hb : Below W.heap.size W W') : LW6 w0 B b9 A c lo hi zs M U lo2 hi2 p W' :=
  ⟨h.pm.step hb, h.t3.step hb, h.t4.step hb, h.t9.step hb, h.us.step hb, h.si.step hb, within_below6 h.wi hb⟩
theorem LW6.set (h : LW6 w0 B b9 A c lo hi zs M U lo2 hi2 p W) (hB : B < w0.heap.size) (h9 : w0.heap.size + 1 < b9) (hu : b9 < lo2) (hh : hi ≤ w0.heap.size) (q : Nat × Nat) : LW6 w0 B b9 A c lo hi zs M U lo2 hi2 q ((W.setCell ⟨b9, 0, none⟩ (.int .i64 (q.1 : Int))).setCell ⟨b9, 1, none⟩ (.int .i64 (q.2 : Int))) := by
  obtain ⟨hs, hw⟩ := stored2 h.t9.row (.int .i64 (q.1 : Int)) (.int .i64 (q.2 : Int))
  exact ⟨h.pm.within hw (.inl (by omega)), h.t3.within hw (.inl (by omega)), h.t4.within hw (.inl (by omega)), ⟨hs⟩, h.us.within hw (.inr (by omega)), h.si.within hw (.inl (by omega)), within_new6 h.wi hw (by omega)⟩
end
theorem uTo_get (zs : List Int) : ∀ {n j : Nat} (h : j < (uTo zs n).length), (uTo zs n)[j] = ((lowN zs + 1 + j : Nat) : Int)
  | 0, j, h => by simp [uTo] at h
  | n + 1, j, h => by
    have hl := uTo_len zs n
    have hl2 := uTo_len zs (n + 1)
    by_cases hj : j < n
    · have : (uTo zs (n + 1))[j]? = (uTo zs n)[j]? := by rw [uTo, List.getElem?_append_left (by omega)]
      have hj' : j < (uTo zs n).length := by omega
      exact (Option.some.inj ((List.getElem?_eq_getElem h).symm.trans (this.trans (List.getElem?_eq_getElem hj')))).trans (uTo_get zs hj')
    · obtain rfl : j = n := by omega
      have : (uTo zs (j + 1))[j]? = some ((lowN zs + 1 + j : Nat) : Int) := by rw [uTo, List.getElem?_append_right (by omega), hl]; simp
      rw [List.getElem?_eq_getElem h] at this
      exact Option.some.inj this
def pAct6 (B n b7 b9 N k j : Nat) (st us pt : Value) (tx : ByteArray) (v38 v39 v40 v41 v42 v43 v44 u45 : Value) : Act :=
  { tmps := #[.map (some B), st, undef, .pointer (some ⟨n, 0, none⟩), .pointer (some ⟨n + 1, 0, none⟩), .string tx, .bool true, .pointer (some ⟨b7, 0, none⟩), .bool false, .pointer (some ⟨b9, 0, none⟩), us, .bool true, undef, .int .i64 (k : Int), .tuple #[.string tx, .bool true], st, .tuple #[.string tx, .bool true], .string tx, .bool true, .tuple #[.agg #[.int .i64 0, .int .i64 0], .bool false], .map (some B), .string tx, .tuple #[.agg #[.int .i64 0, .int .i64 0], .bool false], .agg #[.int .i64 0, .int .i64 0], .bool false, .bool false, undef, .tuple #[us, .bool true], st, .tuple #[us, .bool true], us, .bool true, us, .int .i64 (N : Int), .int .i64 (j : Int), .bool true, pt, .int .i64 (k : Int), v38, v39, v40, v41, v42, v43, v44, u45, undef, undef, undef, undef], defers := [] }
structure PInv6 (w0 : World) (B b9 : Nat) (A : Option Addr) (c lo hi : Nat) (zs : List Int) (M : Nat) (U : Option Addr) (lo2 hi2 : Nat) (p q : Nat × Nat) (st : Value) (k nf : Nat) (D : Nat → Bool) (v38 v39 v40 v41 v42 v43 v44 : Value) (W : World) : Prop where
  lw : LW6 w0 B b9 A c lo hi zs M U lo2 hi2 (if D 7 = true then q else p) W
  s38 : D 0 = true → v38 = .agg #[.int .i64 (p.1 : Int), .int .i64 (p.2 : Int)]
  s39 : D 1 = true → v39 = .int .i64 (k : Int)
  s40 : D 2 = true → v40 = .map (some B)
  s41 : D 3 = true → v41 = st
  s42 : D 4 = true → v42 = .int .i64 (k : Int)
  s43 : D 5 = true → v43 = .int .i64 (nf : Int)
  s44 : D 6 = true → v44 = .agg #[.int .i64 (q.1 : Int), .int .i64 (q.2 : Int)]
  o7 : D 7 = true → D 0 = true ∧ D 6 = true
theorem within_put6 {w w' : World} {M : Nat} (h : w.grownBy w' (some M)) : Within M (M + 1) w w' := ⟨h.os, h.tape, h.output, h.size, fun i hi hd => h.block i hi (fun e => by injection e with e; omega)⟩
theorem lpV_eq (p : Nat × Nat) : lpV p = .agg #[.int .i64 (p.1 : Int), .int .i64 (p.2 : Int)] := rfl

set_option maxRecDepth 100000 in
set_option maxHeartbeats 16000000 in
theorem planOf6_step (m : Nat) (HP : LLess m) (M : Nat) (zs : List Int) (hs : Short M zs) (hm : massL M zs < m + 1) (A : Option Addr) (c lo hi : Nat) (w : World) (B : Nat) (hpm : LPlanM w B) (hS : Ins w lo hi A zs) (hd : hi ≤ B ∨ B < lo) :
    Calls Try.prog 124 #[.map (some B), .agg #[.slice A zs.length c, .int .i64 (M : Int)]] w fun e w' => e = .returned (lpV (planS M zs)) ∧ LPlanM w' B ∧ Within B (B + 1) w w' := by
  have hB := hpm.lt
  have hl5 := hs.len
  have hsp := span_bd hs
  have hhi := hS.top
  have HT3 := Lib.hid (Two.new w (.slice A zs.length c) (.int .i64 (M : Int)) 36 w.heap.size rfl)
  have hb1 := (Below.refl w.heap.size w).alloc (Nat.le_refl _) (.cells #[.slice A zs.length c, .int .i64 (M : Int)] 36)
  have HT4 := Lib.hid (Two.new (w.alloc (.cells #[.slice A zs.length c, .int .i64 (M : Int)] 36)) (.int .i64 0) (.int .i64 0) 111 (w.heap.size + 1) (by simp))
  have hb2 := (Below.refl _ (w.alloc (.cells #[.slice A zs.length c, .int .i64 (M : Int)] 36))).alloc (Nat.le_refl _) (.cells #[.int .i64 0, .int .i64 0] 111)
  replace HT3 := Lib.hid (HT3.out.step hb2)
  have HB := Lib.hid (below_trans hb1 hb2)
  have HPM := Lib.hid (hpm.step HB.out)
  have HI := Lib.hid (hS.step HB.out)
  have HX : Hid (∀ (W : World), Ins W lo hi A zs → Calls Try.prog 135 #[.agg #[.slice A zs.length c, .int .i64 (M : Int)]] W fun e w' => e = .returned (.tuple #[.string (txV M zs), .bool true]) ∧ Below W.heap.size W w') := Lib.hid (fun W h => stateText_impl A c lo hi zs (M : Int) W h (by omega) (by have := hs.m; omega) (fun j hj => by have := hs.fit zs[j] (List.getElem_mem hj); have := hs.m; omega) hs.valid)
  have HU := Lib.hid (fun W h => usefulLess_impl A c lo hi zs M W h hs)
  have HNB := Lib.hid (fun k W h1 h2 h3 h4 => needBehind_any m HP A c lo hi zs M k W B h1 h2 hs hm h3 h4)
  have HSH := Lib.hid hs
  have HUS : Hid (usesL zs = highN zs - lowN zs) := Lib.hid rfl
  have HBD := Lib.hid (fun i (h : i ≤ 5) => planTo_bd hs h)
  clear hS hpm hb1 hb2 HP
  go_enter Try.func124, Try.ntmps124
  go_wp2_with fail
  generalize (w.alloc (.cells #[.slice A zs.length c, .int .i64 (M : Int)] 36)).alloc (.cells #[.int .i64 0, .int .i64 0] 111) = wa at HT3 HT4 HB HPM HI ⊢
  refine (HX.out wa HI.out).mono ?_
  rintro e w1 ⟨rfl, hb⟩
  replace HT3 := Lib.hid (HT3.out.step hb)
  replace HT4 := Lib.hid (HT4.out.step hb)
  replace HB := Lib.hid (below_trans HB.out hb)
  replace HPM := Lib.hid (HPM.out.step hb)
  replace HI := Lib.hid (HI.out.step hb)
  clear hb HX
  have x0 := HT3.out.c0
  have x1 := HT3.out.c1
  have y0 := HT4.out.c0
  have y1 := HT4.out.c1
  have y2 := HT4.out.f0
  have y3 := HT4.out.f1
  have hlt4 := HT4.out.lt
  obtain ⟨D, hD⟩ := HPM.out
  have HD := Lib.hid hD
  rcases hD.look HSH.out with ⟨hhas, hlk⟩ | ⟨hhas, hlk⟩
  · clear hD
    unfold lpV at hlk
    have HR := Lib.hid (stored2 HT4.out.row (.int .i64 ((planS M zs).1 : Int)) (.int .i64 ((planS M zs).2 : Int)))
    generalize hp : planS M zs = p at hlk HR
    have HPE := Lib.hid hp
    clear hhas hp
    obtain ⟨a, b⟩ := p
    simp only at hlk HR
    go_wp2
    have hR := HR.out
    have hal : Below ((w1.setCell ⟨w.heap.size + 1, 0, none⟩ (.int .i64 (a : Int))).setCell ⟨w.heap.size + 1, 1, none⟩ (.int .i64 (b : Int))).heap.size ((w1.setCell ⟨w.heap.size + 1, 0, none⟩ (.int .i64 (a : Int))).setCell ⟨w.heap.size + 1, 1, none⟩ (.int .i64 (b : Int))) (((w1.setCell ⟨w.heap.size + 1, 0, none⟩ (.int .i64 (a : Int))).setCell ⟨w.heap.size + 1, 1, none⟩ (.int .i64 (b : Int))).alloc (.cells #[.int .i64 (a : Int), .int .i64 (b : Int)] 111)) := (Below.refl _ _).alloc (Nat.le_refl _) _
    have hrow := (hal.block (w.heap.size + 1) (row_ltI hR.1)).trans hR.1
    have hpm2 := (HPM.out.within hR.2 (.inl (by omega))).step hal
    have hwi2 := within_below6 (within_new6 (Within.of_below HB.out : Within B (B + 1) w w1) hR.2 (Nat.le_succ _)) hal
    generalize ((w1.setCell ⟨w.heap.size + 1, 0, none⟩ (.int .i64 (a : Int))).setCell ⟨w.heap.size + 1, 1, none⟩ (.int .i64 (b : Int))).alloc (.cells #[.int .i64 (a : Int), .int .i64 (b : Int)] 111) = wf at hrow hpm2 hwi2 ⊢
    have e0 := two0 hrow
    have e1 := two1 hrow
    refine bodyPost_ret (v := .agg #[.int .i64 (a : Int), .int .i64 (b : Int)]) (by simp [results, go_sem, e0, e1]) rfl ?_
    exact ⟨by rw [HPE.out]; rfl, hpm2, hwi2⟩
  · clear hD
    unfold zeroLP at hlk
    clear hhas
    have hb1 := (Below.refl w1.heap.size w1).alloc (Nat.le_refl _) (.cells #[.int .i64 0, .int .i64 0] 111)
    have HT9 := Lib.hid (Two.new (w1.alloc (.cells #[.int .i64 0, .int .i64 0] 111)) (.int .i64 0) (.int .i64 0) 111 (w1.heap.size + 1) (by simp))
    have hb2 := (Below.refl _ (w1.alloc (.cells #[.int .i64 0, .int .i64 0] 111))).alloc (Nat.le_refl _) (.cells #[.int .i64 0, .int .i64 0] 111)
    have hb3 := below_trans hb1 hb2
    replace HT3 := Lib.hid (HT3.out.step hb3)
    replace HT4 := Lib.hid (HT4.out.step hb3)
    replace HB := Lib.hid (below_trans HB.out hb3)
    replace HPM := Lib.hid (HPM.out.step hb3)
    replace HI := Lib.hid (HI.out.step hb3)
    have z0 := HT3.out.c0
    have z1 := HT3.out.c1
    clear hb1 hb2 hb3 HD
    go_wp2_with fail
    generalize (w1.alloc (.cells #[.int .i64 0, .int .i64 0] 111)).alloc (.cells #[.int .i64 0, .int .i64 0] 111) = w2 at HT3 HT4 HT9 HB HPM HI z0 z1 ⊢
    refine (HU.out w2 HI.out).mono ?_
    rintro e w3 ⟨v, rfl, ho, hb⟩
    obtain ⟨U, cU, rfl, _, hr⟩ := own_res ho rfl
    have hlt9 := HT9.out.lt
    have HL0 : Hid (LW6 w B (w1.heap.size + 1) A c lo hi zs M U (w2.heap.size + 1) w3.heap.size (planTo M zs 0) w3) := Lib.hid ⟨HPM.out.step hb, HT3.out.step hb, HT4.out.step hb, HT9.out.step hb, hr.ins, HI.out.step hb, within_below6 (Within.of_below HB.out) hb⟩
    have hUL := Lib.hid (uTo_len zs (usesL zs))
    rw [hUL.out]
    clear ho hb hr HT3 HT4 HT9 HB HPM HI z0 z1 x0 x1 y0 y1 y2 y3 hlk HU
    have hb9 : w.heap.size + 1 < w1.heap.size + 1 := by omega
    generalize w1.heap.size + 1 = b9 at HL0 hlt9 hb9 ⊢
    have hn5 : usesL zs ≤ 4 := by rw [HUS.out]; omega
    go_wp2_with fail
    go_loopw [34] (fun i wr => ∃ (j : Nat), j ≤ usesL zs ∧ i = .int .i64 (j : Int) ∧ Hid (LW6 w B b9 A c lo hi zs M U (w2.heap.size + 1) w3.heap.size (planTo M zs j) wr)) (fun i _ => usesL zs - (intOf i).toNat)
    case atStart => exact ⟨0, Nat.zero_le _, rfl, HL0⟩
    case round =>
      clear HL0
      obtain ⟨j, hj, rfl, HL⟩ := hrel
      rename World => w4
      by_cases hlt : j < usesL zs
      · obtain ⟨bu, ou, hUe, _, hbu, hcu⟩ := HL.out.us.ints.at_ (k := j) (by rw [hUL.out]; exact hlt)
        rw [uTo_get zs (by rw [hUL.out]; exact hlt)] at hcu
        subst hUe
        have hbtop := HL.out.us.top
        have hj1 : lowN zs + 1 + j ≤ highN zs := by have := HUS.out; omega
        have HNk := Lib.hid (fun W h1 h2 => HNB.out (lowN zs + 1 + j) W h1 h2 (by omega) hj1)
        have hbd := HBD.out j (by omega)
        have HQ : Hid (planTo M zs (j + 1) = orP ((planTo M zs j).1, (planTo M zs j).2) (lowN zs + 1 + j) (nofL M zs (lowN zs + 1 + j))) := Lib.hid rfl
        have HOA := Lib.hid (fun W => orAsks_any (planTo M zs j).1 (planTo M zs j).2 (lowN zs + 1 + j) (nofL M zs (lowN zs + 1 + j)) W)
        rw [← HQ.out] at HOA
        have hjI : (j : Int) < ((usesL zs : Nat) : Int) := by omega
        have hk20 : lowN zs + 1 + j ≤ 20 := by omega
        generalize hqe : planTo M zs (j + 1) = q at HQ HOA
        have HQe := Lib.hid hqe
        clear hqe
        generalize planTo M zs j = p at HL hbd HQ HOA
        generalize lowN zs + 1 + j = k at hcu HNk HOA HQ hk20
        generalize nofL M zs k = nf at HNk HOA HQ
        unfold lpV at HOA
        go_wp2_with fail
        refine wp_region_noPanic ?_
        refine wp_region_inv5 (by kernel_rfl) (by kernel_rfl) (fun D' A' W => ∃ v38 v39 v40 v41 v42 v43 v44, A' = pAct6 B w.heap.size w1.heap.size b9 (usesL zs) k j (.agg #[.slice A zs.length c, .int .i64 (M : Int)]) (.slice (some ⟨bu, ou, none⟩) (usesL zs) cU) (.pointer (some ⟨bu, ou + j, none⟩)) (txV M zs) v38 v39 v40 v41 v42 v43 v44 u45 ∧ PInv6 w B b9 A c lo hi zs M (some ⟨bu, ou, none⟩) (w2.heap.size + 1) w3.heap.size p q (.agg #[.slice A zs.length c, .int .i64 (M : Int)]) k nf D' v38 v39 v40 v41 v42 v43 v44 W) ?h0 ?hs ?hd
        case h0 => exact ⟨u38, u39, u40, u41, u42, u43, u44, rfl, ⟨HL.out.below (Below.refl _ _).drew, nofun, nofun, nofun, nofun, nofun, nofun, nofun, nofun⟩⟩
        case hs =>
          rintro D' _ W ⟨v38, v39, v40, v41, v42, v43, v44, rfl, hI⟩ i o ho hD hA K hK
          have hi' : i < 8 := (Array.getElem?_eq_some_iff.1 ho).1
          have HI := Lib.hid hI
          have HK := Lib.hid hK
          clear hI hK HL HNB HBD hcu
          obtain rfl | rfl | rfl | rfl | rfl | rfl | rfl | rfl : i = 0 ∨ i = 1 ∨ i = 2 ∨ i = 3 ∨ i = 4 ∨ i = 5 ∨ i = 6 ∨ i = 7 := by omega
          all_goals (obtain rfl := Option.some.inj ho; clear ho hi'; simp [Region.binds] at hA; unfold pAct6)
          · have h7 := notD (fun h => (HI.out.o7 h).1) hD
            have hlw := HI.out.lw
            rw [h7] at hlw
            simp only [Bool.false_eq_true, if_false] at hlw
            have k0 := hlw.t9.c0
            have k1 := hlw.t9.c1
            clear hlw
            go_simp
            exact HK.out _ _ ⟨_, _, _, _, _, _, _, rfl, ⟨(by simpa using HI.out.lw), (fun _ => rfl), (by simpa using HI.out.s39), (by simpa using HI.out.s40), (by simpa using HI.out.s41), (by simpa using HI.out.s42), (by simpa using HI.out.s43), (by simpa using HI.out.s44), (fun h => by have h2 := HI.out.o7 (by simpa using h); simp [h2.1, h2.2])⟩⟩
          · go_simp
            exact HK.out _ _ ⟨_, _, _, _, _, _, _, rfl, ⟨(by simpa using HI.out.lw), (by simpa using HI.out.s38), (fun _ => rfl), (by simpa using HI.out.s40), (by simpa using HI.out.s41), (by simpa using HI.out.s42), (by simpa using HI.out.s43), (by simpa using HI.out.s44), (fun h => by have h2 := HI.out.o7 (by simpa using h); simp [h2.1, h2.2])⟩⟩
          · go_simp
            exact HK.out _ _ ⟨_, _, _, _, _, _, _, rfl, ⟨(by simpa using HI.out.lw), (by simpa using HI.out.s38), (by simpa using HI.out.s39), (fun _ => rfl), (by simpa using HI.out.s41), (by simpa using HI.out.s42), (by simpa using HI.out.s43), (by simpa using HI.out.s44), (fun h => by have h2 := HI.out.o7 (by simpa using h); simp [h2.1, h2.2])⟩⟩
          · have k0 := HI.out.lw.t3.c0
            have k1 := HI.out.lw.t3.c1
            go_simp
            exact HK.out _ _ ⟨_, _, _, _, _, _, _, rfl, ⟨(by simpa using HI.out.lw), (by simpa using HI.out.s38), (by simpa using HI.out.s39), (by simpa using HI.out.s40), (fun _ => rfl), (by simpa using HI.out.s42), (by simpa using HI.out.s43), (by simpa using HI.out.s44), (fun h => by have h2 := HI.out.o7 (by simpa using h); simp [h2.1, h2.2])⟩⟩
          · go_simp
            exact HK.out _ _ ⟨_, _, _, _, _, _, _, rfl, ⟨(by simpa using HI.out.lw), (by simpa using HI.out.s38), (by simpa using HI.out.s39), (by simpa using HI.out.s40), (by simpa using HI.out.s41), (fun _ => rfl), (by simpa using HI.out.s43), (by simpa using HI.out.s44), (fun h => by have h2 := HI.out.o7 (by simpa using h); simp [h2.1, h2.2])⟩⟩
          · obtain rfl := HI.out.s40 (by simp_all)
            obtain rfl := HI.out.s41 (by simp_all)
            obtain rfl := HI.out.s42 (by simp_all)
            go_simp
            refine (HNk.out W HI.out.lw.pm HI.out.lw.si).mono ?_
            rintro e W' ⟨rfl, hpm', hw'⟩
            exact HK.out _ _ ⟨_, _, _, _, _, _, _, rfl, ⟨(by simpa using HI.out.lw.step hB hb9 (Nat.lt_succ_of_lt hlt9) hd hw' hpm'), (by simpa using HI.out.s38), (by simpa using HI.out.s39), (fun _ => rfl), (fun _ => rfl), (fun _ => rfl), (fun _ => rfl), (by simpa using HI.out.s44), (fun h => by have h2 := HI.out.o7 (by simpa using h); simp [h2.1, h2.2])⟩⟩
          · obtain rfl := HI.out.s38 (by simp_all)
            obtain rfl := HI.out.s39 (by simp_all)
            obtain rfl := HI.out.s43 (by simp_all)
            go_simp
            refine (HOA.out W).mono ?_
            rintro e W' ⟨rfl, hb'⟩
            exact HK.out _ _ ⟨_, _, _, _, _, _, _, rfl, ⟨(by simpa using HI.out.lw.below hb'), (fun _ => rfl), (fun _ => rfl), (by simpa using HI.out.s40), (by simpa using HI.out.s41), (by simpa using HI.out.s42), (fun _ => rfl), (fun _ => rfl), (fun h => by have h7 := HI.out.o7 (by simpa using h); simp [h7.1])⟩⟩
          · obtain rfl := HI.out.s44 (by simp_all)
            have hlw := HI.out.lw
            rw [hD] at hlw
            simp only [Bool.false_eq_true, if_false] at hlw
            have c0 := hlw.t9.c0
            have c1 := hlw.t9.c1
            have g0 := hlw.t9.f0
            have g1 := hlw.t9.f1
            have HLw := Lib.hid (hlw.set hB hb9 (Nat.lt_succ_of_lt hlt9) hhi q)
            clear hlw
            go_simp
            exact HK.out _ _ ⟨_, _, _, _, _, _, _, rfl, ⟨(by simpa using HLw.out), (by simpa using HI.out.s38), (by simpa using HI.out.s39), (by simpa using HI.out.s40), (by simpa using HI.out.s41), (by simpa using HI.out.s42), (by simpa using HI.out.s43), (fun _ => rfl), (fun _ => by simp_all)⟩⟩
        case hd =>
          rintro D' _ W ⟨v38, v39, v40, v41, v42, v43, v44, rfl, hI⟩ hall
          have hlw := hI.lw
          rw [hall 7 (by decide)] at hlw
          simp only [if_true] at hlw
          have HLq := Lib.hid hlw
          clear hI hall hlw HL HNB HBD HNk HOA HQ hcu
          simp only [pAct6]
          refine NoPanic.normal ?_
          go_wp2
          go_roundw
          case rel => exact ⟨j + 1, by omega, by go_num, by rw [HQe.out]; exact HLq⟩
          case measure => simp [intOf]; omega
      · obtain rfl : j = usesL zs := by omega
        have hpl : planTo M zs (usesL zs) = planS M zs := rfl
        rw [hpl] at HL
        clear hpl HNB HBD
        generalize hp : planS M zs = p at HL
        have HPE := Lib.hid hp
        clear hp
        obtain ⟨a, b⟩ := p
        obtain ⟨D', hD'⟩ := HL.out.pm
        have HD' := Lib.hid hD'
        have hsz : Maps.size D' < maxLen := by
          have h1 := hD'.size
          have h2 := cntS_le D'
          unfold maxLen
          omega
        have hown := hD'.owns
        have hkey := keyTxt (M := M) (zs := zs) (by omega)
        have m0 := HL.out.t9.c0
        have m1 := HL.out.t9.c1
        have hlt9w := HL.out.t9.lt
        clear hD'
        go_wp2_with (first
          | (at_mapUpdate; refine wpList_mapUpdate_own _ rfl _ _ _ 113 rfl 9 111 keyedText Try.underlying113 heldP B (Maps.size D') D' rfl hown hsz _ _ (klS M zs) rfl rfl hkey (.held (lpV (a, b))) [] rfl ?_; intro w9 hown9 hg9; have HP9 := Lib.hid (HD'.out.put HSH.out (by rw [HPE.out]; exact hown9)); have HW9 := Lib.hid (within_put6 hg9); have HUV := Lib.hid (HL.out.t4.within HW9.out (.inr (by omega))); have HUW := Lib.hid (HL.out.t9.within HW9.out (.inr (by omega))); clear hown9 hg9 hown m0 m1; have m0 := HUW.out.c0; have m1 := HUW.out.c1; have c0 := HUV.out.c0; have f0 := HUV.out.f0; have c1 := HUV.out.c1; have f1 := HUV.out.f1))
        obtain ⟨hR1, hR2⟩ := stored2 HUV.out.row (.int .i64 (a : Int)) (.int .i64 (b : Int))
        have hpmf := HP9.out.within hR2 (.inl (by omega))
        have hwif := within_new6 (HL.out.wi.trans HW9.out) hR2 (Nat.le_succ _)
        generalize ((w9.setCell ⟨w.heap.size + 1, 0, none⟩ (.int .i64 (a : Int))).setCell ⟨w.heap.size + 1, 1, none⟩ (.int .i64 (b : Int))) = wf at hR1 hpmf hwif ⊢
        have e0 := two0 hR1
        have e1 := two1 hR1
        refine bodyPost_ret (v := .agg #[.int .i64 (a : Int), .int .i64 (b : Int)]) (by simp [results, go_sem, e0, e1]) rfl ?_
        exact ⟨by rw [HPE.out]; rfl, hpmf, hwif⟩
theorem planOf6_less : ∀ m, LLess m
  | 0 => fun M zs hs h => absurd h (by omega)
  | m + 1 => fun M zs hs h A c lo hi w B hp hS hd => planOf6_step m (planOf6_less m) M zs hs h A c lo hi w B hp hS hd
theorem planOf6_any (M : Nat) (zs : List Int) (hs : Short M zs) (A : Option Addr) (c lo hi : Nat) (w : World) (B : Nat) (hp : LPlanM w B) (hS : Ins w lo hi A zs) (hd : hi ≤ B ∨ B < lo) :
    Calls Try.prog 124 #[.map (some B), .agg #[.slice A zs.length c, .int .i64 (M : Int)]] w fun e w' => e = .returned (lpV (planS M zs)) ∧ LPlanM w' B ∧ Within B (B + 1) w w' :=
  planOf6_less (massL M zs + 1) M zs hs (Nat.lt_succ_self _) A c lo hi w B hp hS hd
end Go.Proofs.Ytdkffkgoalgjmab
