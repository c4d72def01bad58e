/- LessPlay: the play of the program. -/
import Derived.Test.YtnomgnjfamideabL6t
import Derived.Test.YtnomgnjfamideabL6A
import Derived.Deep.LoopGhost
namespace Go.Proofs.Ytnomgnjfamideab
open Go.RowKit Go.ChangeShapes Go.WideShapes Go.Maps
set_option linter.unusedVariables false

theorem within_grownA {sz : Nat} {w w' : World} {B n : Nat} {v : Value} {xs : List Value} {e : TypeId} (h : w.ownsRow B e sz v n xs) (hg : w.grownBy w' v.ownBlock) : Within B w.heap.size w w' :=
  ⟨hg.os, hg.tape, hg.output, hg.size, fun i hi hd => hg.block i hi (by
    rcases h.2 with ⟨rfl, _⟩ | ⟨g, cap, cur, rfl, hb, hgr, _⟩
    · intro hk; cases hk
    · intro hk
      have hk : i = g := by injection hk
      omega)⟩
theorem pastGrownA {sz : Nat} {B n : Nat} {w w1 : World} {v : Value} {xs : List Value} {e : TypeId} {o : Obj} (h : w.ownsRow B e sz v n xs) (hg : (w.alloc o).grownBy w1 v.ownBlock) : Past B w w1 :=
  (Past.of_below ((Below.refl _ _).alloc (Nat.le_refl _) o)).trans (Past.of_within (within_grownA (h.alloc o) hg) (Nat.le_refl _))
theorem ownsRow_sliceA {sz : Nat} {w : World} {B n : Nat} {v : Value} {e : TypeId} {xs : List Value} (h : w.ownsRow B e sz v n xs) : ∃ A c, v = .slice A n c := by
  rcases h.2 with ⟨rfl, h0⟩ | ⟨g, cap, cur, rfl, _⟩
  · exact ⟨none, 0, by rw [h0]⟩
  · exact ⟨_, cap, rfl⟩
theorem ownBlock_ltA {sz : Nat} {w : World} {B n : Nat} {v : Value} {e : TypeId} {xs : List Value} (h : w.ownsRow B e sz v n xs) {g : Nat} (hk : some g = v.ownBlock) : g < w.heap.size := by
  rcases h.2 with ⟨rfl, _⟩ | ⟨g', cap, cur, rfl, _, hg, _⟩
  · cases hk
  · have hk : g = g' := by injection hk
    subst hk
    exact row_ltI hg
theorem grown_twoA_ne {w w' : World} {b : Nat} {v x y : Value} {T : TypeId} {o : Obj} (t : Two w b x y T) (hg : (w.alloc o).grownBy w' v.ownBlock) (hne : some b ≠ v.ownBlock) : Two w' b x y T :=
  ⟨((hg.block b (Nat.lt_of_lt_of_le (row_ltI t.row) (Nat.le_of_lt (by simp))) hne).trans (((Below.refl _ w).alloc (Nat.le_refl _) o).block b (row_ltI t.row))).trans t.row⟩
/-- The state at hand: the argument's, or one of the call's own. -/
def SP (n : Nat) (wr : World) (A : Option Addr) (lo hi : Nat) (L : List Int) : Prop :=
  (Ins wr lo hi A L ∧ hi ≤ n) ∨ ∃ g, A = some ⟨g, 0, none⟩ ∧ lo = g ∧ hi = g + 1 ∧ n + 2 < g ∧ Own wr g (g + 1) (some ⟨g, 0, none⟩) L
theorem SP.ins {n : Nat} {wr : World} {A : Option Addr} {lo hi : Nat} {L : List Int} (h : SP n wr A lo hi L) : Ins wr lo hi A L := by
  rcases h with h | ⟨g, rfl, rfl, rfl, _, h⟩
  · exact h.1
  · exact own_insB h
theorem SP.apart {n : Nat} {wr : World} {A : Option Addr} {lo hi : Nat} {L : List Int} (h : SP n wr A lo hi L) : hi ≤ n ∨ n + 2 < lo := by
  rcases h with h | ⟨g, rfl, rfl, rfl, h2, h⟩
  · exact .inl h.2
  · exact .inr h2
theorem SP.step {n : Nat} {wr w' : World} {A : Option Addr} {lo hi : Nat} {L : List Int} (h : SP n wr A lo hi L) (hb : Below wr.heap.size wr w') : SP n w' A lo hi L := by
  rcases h with h | ⟨g, rfl, rfl, rfl, h2, h⟩
  · exact .inl ⟨h.1.step hb, h.2⟩
  · exact .inr ⟨_, rfl, rfl, rfl, h2, own_same h (hb.block _ (own_lt h))⟩
theorem SP.grown {sz : Nat} {n k : Nat} {wr w' : World} {A : Option Addr} {lo hi : Nat} {L : List Int} {v : Value} {e : TypeId} {xs : List Value} {o : Obj} (h : SP n wr A lo hi L) (hr : wr.ownsRow (n + 2) e sz v k xs) (hne : e ≠ 3) (hg : (wr.alloc o).grownBy w' v.ownBlock) : SP n w' A lo hi L := by
  rcases h with h | ⟨g, rfl, rfl, rfl, h2, h⟩
  · exact .inl ⟨h.1.past (pastGrownA hr hg) (by omega), h.2⟩
  · exact .inr ⟨_, rfl, rfl, rfl, h2, grown_ownA hr h hne hg⟩
theorem within_past6 {lo hi C : Nat} {w0 W W' : World} (h : Within lo hi w0 W) (hp : Past C W W') (hC : w0.heap.size ≤ C) : Within lo hi w0 W' :=
  ⟨hp.os.trans h.os, hp.tape.trans h.tape, hp.output.trans h.output, Nat.le_trans h.size hp.size, fun i hi hd => (hp.block i (Nat.lt_of_lt_of_le hi h.size) (by omega)).trans (h.block i hi hd)⟩
structure PR (w : World) (B n : Nat) (M : Nat) (x lie : Int) (zs : List Int) (i : Nat) (A : Option Addr) (c lo hi b6 : Nat) (v : Value) (wr : World) : Prop where
  pm : LPlanM wr B
  bx : Two wr n (.slice A zs.length c) (.int .i64 (M : Int)) 44
  rs : Two wr (n + 1) (.slice none 0 0) (.int .i64 0) 44
  si : SP n wr A lo hi (pSt M x lie zs i)
  t6 : Two wr b6 (.int .i64 ((planS M (pSt M x lie zs i)).1 : Int)) (.int .i64 ((planS M (pSt M x lie zs i)).2 : Int)) 100
  row : wr.ownsRow (n + 2) 72 2 v (pL M x lie zs i).length (cellsA (pL M x lie zs i))
  wi : Within B (B + 1) w wr

set_option maxRecDepth 100000 in
set_option maxHeartbeats 16000000 in
theorem playOf_any (x lie : Int) (A : Option Addr) (c lo hi : Nat) (zs : List Int) (M : Nat) (w : World) (B : Nat) (hp : LPlanM w B) (hS : Ins w lo hi A zs) (hd : hi ≤ B ∨ B < lo) (hs : Short M zs) :
    Calls Try.prog 52 #[.map (some B), .agg #[.slice A zs.length c, .int .i64 (M : Int)], .int .i64 x, .int .i64 lie] w fun e w' => ∃ v A' c' lo' hi', e = .returned (.tuple #[v, .agg #[.slice A' zs.length c', .int .i64 (M : Int)]]) ∧ w'.ownsRow w.heap.size 72 2 v (pL M x lie zs 10).length (cellsA (pL M x lie zs 10)) ∧ Ins w' lo' hi' A' (pSt M x lie zs 10) ∧ Within B (B + 1) w w' := by
  obtain ⟨i0, hi0, hz0, hz1, hz2⟩ := info_parts infoA
  have hl5 := hs.len
  have hB0 := hp.lt
  have hhi := hS.top
  have hb1 := (Below.refl w.heap.size w).alloc (Nat.le_refl _) (.cells #[.slice A zs.length c, .int .i64 (M : Int)] 44)
  have hb2 := (Below.refl _ (w.alloc (.cells #[.slice A zs.length c, .int .i64 (M : Int)] 44))).alloc (Nat.le_refl _) (.cells #[.slice none 0 0, .int .i64 0] 44)
  have hb3 := (Below.refl _ ((w.alloc (.cells #[.slice A zs.length c, .int .i64 (M : Int)] 44)).alloc (.cells #[.slice none 0 0, .int .i64 0] 44))).alloc (Nat.le_refl _) (.cells #[] 72)
  have HBX := Lib.hid (((Two.new w (.slice A zs.length c) (.int .i64 (M : Int)) 44 w.heap.size rfl).step hb2).step hb3)
  have HRS := Lib.hid ((Two.new (w.alloc (.cells #[.slice A zs.length c, .int .i64 (M : Int)] 44)) (.slice none 0 0) (.int .i64 0) 44 (w.heap.size + 1) (by simp)).step hb3)
  have HRw := Lib.hid (A0_any ((w.alloc (.cells #[.slice A zs.length c, .int .i64 (M : Int)] 44)).alloc (.cells #[.slice none 0 0, .int .i64 0] 44)) (w.heap.size + 2) (by simp))
  have hsm : ((w.alloc (.cells #[.slice A zs.length c, .int .i64 (M : Int)] 44)).alloc (.cells #[.slice none 0 0, .int .i64 0] 44)).heap.size = w.heap.size + 2 := by simp
  rw [hsm] at HRw
  have hsz2 : (((w.alloc (.cells #[.slice A zs.length c, .int .i64 (M : Int)] 44)).alloc (.cells #[.slice none 0 0, .int .i64 0] 44)).alloc (.cells #[] 72)).heap.size = w.heap.size + 3 := by simp
  have hbl := below_trans (below_trans hb1 hb2) hb3
  have HPM := Lib.hid (hp.step hbl)
  have HSI := Lib.hid (hS.step hbl)
  have HWi : Hid (Within B (B + 1) w (((w.alloc (.cells #[.slice A zs.length c, .int .i64 (M : Int)] 44)).alloc (.cells #[.slice none 0 0, .int .i64 0] 44)).alloc (.cells #[] 72))) := Lib.hid (Within.of_below hbl)
  have HSH := Lib.hid hs
  have x0 := HBX.out.c0
  have x1 := HBX.out.c1
  clear hb1 hb2 hb3 hbl hsm hS hp
  go_enter Try.func52, Try.ntmps52
  go_wp2_with fail
  generalize (((w.alloc (.cells #[.slice A zs.length c, .int .i64 (M : Int)] 44)).alloc (.cells #[.slice none 0 0, .int .i64 0] 44)).alloc (.cells #[] 72)) = w2 at HBX HRS HRw HPM HSI HWi hsz2 x0 x1 ⊢
  generalize (Value.slice (some ⟨w.heap.size + 2, 0, none⟩) 0 0) = v0 at HRw ⊢
  refine (planOf6_any M zs HSH.out A c lo hi w2 B HPM.out HSI.out hd).mono ?_
  rintro e w3 ⟨rfl, hpm, hw⟩
  have hsz3 := hw.size
  have hba := (Below.refl w3.heap.size w3).alloc (Nat.le_refl _) (.cells #[.int .i64 ((planS M zs).1 : Int), .int .i64 ((planS M zs).2 : Int)] 100)
  have hlt3 : w.heap.size + 2 < w3.heap.size := by omega
  have HW0 : Hid (PR w B w.heap.size M x lie zs 0 A c lo hi w3.heap.size v0 (w3.alloc (.cells #[.int .i64 ((planS M zs).1 : Int), .int .i64 ((planS M zs).2 : Int)] 100))) := Lib.hid ⟨hpm.step hba, (HBX.out.within hw (.inr (by omega))).step hba, (HRS.out.within hw (.inr (by omega))).step hba, (.inl ⟨(HSI.out.within hw hd).step hba, hhi⟩), Two.new w3 _ _ _ _ rfl, pastA (withinA HRw.out hw (by omega)) (Past.of_below hba), HWi.out.trans (hw.trans (Within.of_below hba))⟩
  clear hpm hw hba HPM HSI HRw HWi HBX HRS x0 x1
  unfold lpV
  go_wp2_with fail
  generalize w3.alloc (.cells #[.int .i64 ((planS M zs).1 : Int), .int .i64 ((planS M zs).2 : Int)] 100) = w4 at HW0 ⊢
  have HM10 := mass_ten hs
  have hfd := field_lp
  go_loopg [10, 11] (massL M zs) (fun g v p6 wr => ∃ (i : Nat) (A' : Option Addr) (c' lo' hi' b6 : Nat), g = massL M (pSt M x lie zs i) ∧ i + g ≤ 10 ∧ p6 = .pointer (some ⟨b6, 0, none⟩) ∧ w.heap.size + 2 < b6 ∧ (hi' ≤ B ∨ B < lo') ∧ Hid (PR w B w.heap.size M x lie zs i A' c' lo' hi' b6 v wr))
  case atStart => exact ⟨0, A, c, lo, hi, w3.heap.size, rfl, by omega, rfl, hlt3, hd, HW0⟩
  case round =>
    clear HW0
    obtain ⟨i, A', c', lo', hi', b6, hg, hi10, rfl, hb6, hd', HW⟩ := hrel
    rename World => w5
    have HSi := Lib.hid (pSt_short (x := x) (lie := lie) HSH.out i)
    obtain ⟨pa, pb, hpp⟩ : ∃ a b, planS M (pSt M x lie zs i) = (a, b) := ⟨_, _, rfl⟩
    have HT6 : Hid (Two w5 b6 (.int .i64 (pa : Int)) (.int .i64 (pb : Int)) 100) := Lib.hid (by have := HW.out.t6; rw [hpp] at this; exact this)
    have hb6l := HT6.out.lt
    have q0 := HT6.out.c0
    have q1 := HT6.out.c1
    have HD : Hid ((decide ((pa : Int) = 0) && decide ((pb : Int) = 0)) = doneL (pSt M x lie zs i)) := Lib.hid (by
      rcases done_iff HSi.out.1 with ⟨h, _, h2⟩ | ⟨h, h1, _, h3, h4⟩
      · rw [hpp] at h2
        injection h2 with h2 h3
        rw [h, h2, h3]; rfl
      · have := need_plan HSi.out.1
        rw [hpp] at this
        simp only at this
        rw [h, decide_eq_false (by omega)]; rfl)
    have heq := eq_lp (pa : Int) (pb : Int)
    simp only [HD.out] at heq
    have HPP := Lib.hid hpp
    have HBX := Lib.hid HW.out.bx
    have HRS := Lib.hid HW.out.rs
    have HSI := Lib.hid HW.out.si
    have HRow := Lib.hid HW.out.row
    have HPM := Lib.hid HW.out.pm
    have HWi := Lib.hid HW.out.wi
    have x0 := HBX.out.c0
    have x1 := HBX.out.c1
    have hsz5 := HW.out.wi.size
    clear hpp HW
    cases hdn : doneL (pSt M x lie zs i) with
    | true =>
      obtain ⟨he1, he2⟩ := play_end hdn (show i ≤ 10 by omega)
      rw [he1] at HSI
      rw [he2] at HRow
      rw [hdn] at heq
      have y2 := HRS.out.f0
      have y3 := HRS.out.f1
      have y0 := HRS.out.c0
      have y1 := HRS.out.c1
      obtain ⟨hs1, hw1⟩ := stored2 HRS.out.row (.slice A' zs.length c') (.int .i64 (M : Int))
      have hss := two0 hs1
      have hst := two1 hs1
      have HRf := Lib.hid (baseA (row_twoA HRow.out HRS.out (by decide) hw1) (show w.heap.size ≤ w.heap.size + 2 by omega))
      have hap := HSI.out.apart
      have HIf := Lib.hid (HSI.out.ins.within hw1 (by omega))
      have HWf := Lib.hid (within_new6 HWi.out hw1 (by omega))
      go_wp2_with fail
      go_region_with (fail)
      all_goals
        go_wp2
        refine bodyPost_ret (v := .tuple #[u10, .agg #[.slice A' zs.length c', .int .i64 (M : Int)]]) (by simp [results, go_sem, hss, hst]) rfl ?_
        first
          | exact ⟨_, A', c', lo', hi', rfl, HRf.out, HIf.out, HWf.out⟩
          | exact ⟨_, A', c', lo', hi', rfl, pastA HRf.out (Past.of_below (Below.refl _ _).drew), HIf.out.step (Below.refl _ _).drew, HWf.out.trans (Within.of_below (Below.refl _ _).drew)⟩
    | false =>
      rw [hdn] at heq
      have hpi := plan_in HSi.out.1 hdn
      rw [HPP.out] at hpi
      simp only at hpi
      have hsp := span_bd HSi.out.1
      have hk : pb ≤ (pSt M x lie zs i).length := by omega
      have HAS := fun W y h => answerState_impl A' c' lo' hi' (pSt M x lie zs i) (M : Int) ((2 : Int) ^ pb - 1) y W h HSi.out.1.valid (qOK_cmp HSi.out.1.pos (by have := HSi.out.1.len; omega) hk)
      simp only [afters_cmp (M := M) (show (pSt M x lie zs i).length ≤ 12 by have := HSi.out.1.len; omega) (show pb ≤ 12 by have := HSi.out.1.len; omega)] at HAS
      rw [HSi.out.2] at HAS
      have HLT := Lib.hid (fun W => lessThan_any pb W (by have := HSi.out.1.len; omega))
      have HMS := Lib.hid (pSt_mass (x := x) (lie := lie) HSH.out hdn)
      have HN1 := Lib.hid (pSt_next hdn)
      have HNL := Lib.hid (pL_next hdn)
      have HSn := Lib.hid (pSt_short (x := x) (lie := lie) HSH.out (i + 1))
      have hnl := pL_len M x lie zs i
      have HPn := fun gq cq W h1 h2 h3 => planOf6_any M (pSt M x lie zs (i + 1)) HSn.out.1 (some ⟨gq, 0, none⟩) cq gq (gq + 1) W B h1 h2 h3
      rw [HSn.out.2] at HPn
      unfold lpV at HPn
      have HPn := Lib.hid HPn
      have HY : Hid (yesP M x lie (pSt M x lie zs i) (pL M x lie zs i).length = (decide (x < (pb : Int)) != decide (((pL M x lie zs i).length : Int) = lie))) := Lib.hid (by unfold yesP; rw [HPP.out])
      rw [HPP.out, HY.out] at HN1 HNL
      obtain ⟨Av, cv, rfl⟩ := ownsRow_sliceA HRow.out
      have HAS := Lib.hid HAS
      generalize hq : (2 : Int) ^ pb - 1 = q at HLT HAS HNL
      clear hpi hsp hdn HD hq HY
      generalize hn : (pL M x lie zs i).length = n at HNL HN1 HRow hnl ⊢
      go_upto_region 6 with fail
      have q1 := HT6.out.c1
      have hh5 : w5.heap.size = w5.heap.size := rfl
      go_region_held3 (fun w' => w'.cell? ⟨b6, 1, none⟩ = some (.int .i64 (pb : Int)))
        (first
         | exact (HT6.out.step (Below.refl _ w5).drew).c1
         | exact (HT6.out.step ((Below.refl _ w5).drew.alloc (by simp) _)).c1
         | exact (HT6.out.step (((Below.refl _ w5).drew.alloc (by simp) _).drew)).c1
         | (trace_state; fail))
        ((go_at_call 78; refine (HLT.out _).mono ?_; rintro e v1 ⟨rfl, hww⟩; have hww := hww.symm; subst hww))
      all_goals
        clear HLT q0 q1 x0 x1 heq
        have HYE : (decide (x < (pb : Int)) != decide ((n : Int) = lie)) = (decide (x < (pb : Int)) == ((n : Int) != lie)) := by
          by_cases h1 : (n : Int) = lie
          · subst h1; cases decide (x < (pb : Int)) <;> simp
          · rw [decide_eq_false h1]; cases decide (x < (pb : Int)) <;> simp [h1]
        rw [HYE] at HN1 HNL
        clear HYE
        generalize (decide (x < (pb : Int)) == ((n : Int) != lie)) = y at HN1 HNL ⊢
        have hba := (Below.refl w5.heap.size w5).alloc (Nat.le_refl _) (.cells #[.int .i64 q, .bool y] 72)
        have hbd := below_trans hba (Below.refl _ (w5.alloc (.cells #[.int .i64 q, .bool y] 72))).drew
        have HAQ := Lib.hid ((Two.new w5 (.int .i64 q) (.bool y) 72 w5.heap.size rfl).step (Below.refl _ _).drew)
        generalize Value.slice Av n cv = vv at HRow ⊢
        have HOB := Lib.hid (fun g (hk : some g = vv.ownBlock) => ownBlock_ltA HRow.out hk)
        replace HBX := Lib.hid (HBX.out.step hbd)
        replace HRS := Lib.hid (HRS.out.step hbd)
        replace HT6 := Lib.hid (HT6.out.step hbd)
        replace HSI := Lib.hid (HSI.out.step hbd)
        replace HPM := Lib.hid (HPM.out.step hbd)
        replace HRow := Lib.hid (pastA HRow.out (Past.of_below hbd))
        replace HWi := Lib.hid (HWi.out.trans (Within.of_below hbd))
        have hsz6 := hbd.size
        clear hba hbd
        generalize (w5.alloc (.cells #[.int .i64 q, .bool y] 72)).drew = w6 at HAQ HBX HRS HT6 HSI HPM HRow HWi hsz6 ⊢
        have hown := HRow.out
        have hs25 := HRS.out.lt
        have a0 := HAQ.out.c0
        have a1 := HAQ.out.c1
        go_upto_region 8 with (at_builtin; refine wpList_append_own _ rfl (.tmp 38) (.tmp 40) 41 rfl (w.heap.size + 2) 72 i0 (.agg #[.int .i64 0, .bool false]) 2 16 Try.underlying41 hi0 hz0 hz1 hz2 rfl (by decide) _ _ _ rfl (hown.alloc _) ⟨w6.heap.size, 0, none⟩ 1 1 [.int .i64 q, .bool y] rfl rfl (cell_two_new _ _ _ _) (by simp [Value.oneCell']) (by unfold maxLen; omega) (by omega) (by simp; omega) ?_; intro v' w7 hown' hgrow _)
        have HRow7 := Lib.hid (askd_snoc6 hown' hn.symm)
        have hpst := pastGrownA hown hgrow
        replace HAQ := Lib.hid (grown_twoA_ne HAQ.out hgrow (fun hk => by have := HOB.out _ hk; omega))
        replace HBX := Lib.hid (grown_twoA hown HBX.out (by decide) hgrow)
        replace HRS := Lib.hid (grown_twoA hown HRS.out (by decide) hgrow)
        replace HT6 := Lib.hid (grown_twoA hown HT6.out (by decide) hgrow)
        replace HPM := Lib.hid (HPM.out.heap (hpst.block _ (by omega) (by omega)))
        replace HSI := Lib.hid (HSI.out.grown hown (by decide) hgrow)
        replace HWi := Lib.hid (within_past6 HWi.out hpst (by omega))
        rw [← HNL.out] at HRow7
        have hs67 := hpst.size
        clear hpst hown' hgrow hown HRow a0 a1 HOB
        have a0 := HAQ.out.c0
        have a1 := HAQ.out.c1
        have x0 := HBX.out.c0
        have x1 := HBX.out.c1
        go_wp2_with fail
        refine (HAS.out w7 y HSI.out.ins).mono ?_
        rintro e w8 ⟨g9, rfl, hg9, hr9, hb⟩
        have HO9 := Lib.hid (row_own6 hr9)
        replace HBX := Lib.hid (HBX.out.step hb)
        replace HRS := Lib.hid (HRS.out.step hb)
        replace HT6 := Lib.hid (HT6.out.step hb)
        replace HPM := Lib.hid (HPM.out.step hb)
        replace HRow7 := Lib.hid (pastA HRow7.out (Past.of_below hb))
        replace HWi := Lib.hid (HWi.out.trans (Within.of_below hb))
        have hs78 := hb.size
        clear hb hr9 HAS HSI HAQ a0 a1 x0 x1
        have x0 := HBX.out.c0
        have x1 := HBX.out.c1
        have x2 := HBX.out.f0
        have x3 := HBX.out.f1
        go_upto_region 9 with fail
        obtain ⟨hs1, hw1⟩ := stored2 HBX.out.row (.slice (some ⟨g9, 0, none⟩) zs.length zs.length) (.int .i64 (M : Int))
        replace HRow7 := Lib.hid (row_twoA HRow7.out HBX.out (by decide) hw1)
        replace HBX := Lib.hid (Two.mk hs1)
        replace HRS := Lib.hid (HRS.out.within hw1 (.inr (Nat.le_refl _)))
        replace HT6 := Lib.hid (HT6.out.within hw1 (.inr (by omega)))
        replace HO9 := Lib.hid (own_same HO9.out (hw1.block g9 (own_lt HO9.out) (.inr (by omega))))
        replace HPM := Lib.hid (HPM.out.within hw1 (.inl hB0))
        replace HWi := Lib.hid (within_new6 HWi.out hw1 (Nat.le_refl _))
        have hs89 := hw1.size
        clear hs1 hw1 x0 x1 x2 x3
        generalize ((w8.setCell ⟨w.heap.size, 0, none⟩ (.slice (some ⟨g9, 0, none⟩) zs.length zs.length)).setCell ⟨w.heap.size, 1, none⟩ (.int .i64 (M : Int))) = w9 at HRow7 HBX HRS HT6 HO9 HPM HWi hs89 ⊢
        have HOy : Hid (Own w9 g9 (g9 + 1) (some ⟨g9, 0, none⟩) (pSt M x lie zs (i + 1))) := Lib.hid (by rw [HN1.out]; exact HO9.out)
        have y0 := HT6.out.c0
        have y1 := HT6.out.c1
        have hba := (Below.refl w9.heap.size w9).alloc (Nat.le_refl _) (.cells #[.int .i64 (pa : Int), .int .i64 (pb : Int)] 100)
        have HN6 := Lib.hid (Two.new w9 (.int .i64 (pa : Int)) (.int .i64 (pb : Int)) 100 w9.heap.size rfl)
        replace HRow7 := Lib.hid (pastA HRow7.out (Past.of_below hba))
        replace HBX := Lib.hid (HBX.out.step hba)
        replace HRS := Lib.hid (HRS.out.step hba)
        replace HOy := Lib.hid (own_same HOy.out (hba.block _ (own_lt HOy.out)))
        replace HPM := Lib.hid (HPM.out.step hba)
        replace HWi := Lib.hid (HWi.out.trans (Within.of_below hba))
        have x0 := HBX.out.c0
        have x1 := HBX.out.c1
        clear hba HO9
        go_wp2_with fail
        generalize w9.alloc (.cells #[.int .i64 (pa : Int), .int .i64 (pb : Int)] 100) = w12 at HRow7 HBX HRS HOy HPM HWi HN6 x0 x1 ⊢
        refine (HPn.out g9 zs.length w12 HPM.out (own_insB HOy.out) (.inr (by omega))).mono ?_
        rintro e w13 ⟨rfl, hpm13, hw13⟩
        replace HRow7 := Lib.hid (withinA HRow7.out hw13 (by omega))
        replace HBX := Lib.hid (HBX.out.within hw13 (.inr hB0))
        replace HRS := Lib.hid (HRS.out.within hw13 (.inr (by omega)))
        replace HOy := Lib.hid (own_same HOy.out (hw13.block g9 (own_lt HOy.out) (.inr (by omega))))
        replace HWi := Lib.hid (HWi.out.trans hw13)
        replace HN6 := Lib.hid (HN6.out.within hw13 (.inr (by omega)))
        have hP13 := hpm13
        clear hpm13 hw13 x0 x1 HPM HPn y0 y1
        have z0 := HN6.out.c0
        have z1 := HN6.out.c1
        have z2 := HN6.out.f0
        have z3 := HN6.out.f1
        obtain ⟨hs2, hw2⟩ := stored2 HN6.out.row (.int .i64 ((planS M (pSt M x lie zs (i + 1))).1 : Int)) (.int .i64 ((planS M (pSt M x lie zs (i + 1))).2 : Int))
        have hnW : w.heap.size + 2 < w9.heap.size := by omega
        have HWf : Hid (PR w B w.heap.size M x lie zs (i + 1) (some ⟨g9, 0, none⟩) zs.length g9 (g9 + 1) w9.heap.size v' ((w13.setCell ⟨w9.heap.size, 0, none⟩ (.int .i64 ((planS M (pSt M x lie zs (i + 1))).1 : Int))).setCell ⟨w9.heap.size, 1, none⟩ (.int .i64 ((planS M (pSt M x lie zs (i + 1))).2 : Int)))) := Lib.hid ⟨hP13.within hw2 (.inl (by omega)), HBX.out.within hw2 (.inl (by omega)), HRS.out.within hw2 (.inl (by omega)), .inr ⟨g9, rfl, rfl, rfl, by omega, own_same HOy.out (hw2.block g9 (own_lt HOy.out) (by have := own_lp_ne HOy.out HN6.out; omega))⟩, ⟨hs2⟩, row_twoA HRow7.out HN6.out (by decide) hw2, within_new6 HWi.out hw2 (by omega)⟩
        clear hs2 hw2 hP13 HBX HRS HOy HRow7 HWi HN6 HN1 HNL HSn
        go_wp2
        go_roundg (massL M (pSt M x lie zs (i + 1)))
        case measure => have := HMS.out; omega
        case rel => exact ⟨i + 1, _, _, _, _, w9.heap.size, rfl, by have := HMS.out; omega, rfl, hnW, .inr (by omega), HWf⟩
end Go.Proofs.Ytnomgnjfamideab
