/- FairAnswers: both. -/
import Derived.Test.YtopgccficjkenaaL11S
import Derived.Test.YtopgccficjkenaaL6R
import Derived.Deep.AppendLies
namespace Go.Proofs.Ytopgccficjkenaa
open Go.RowKit Go.ChangeShapes Go.WideShapes Go.Maps
set_option linter.unusedVariables false


theorem ownsRow_grown11 {w0 W W' : World} {base n : Nat} {v : Value} {e : TypeId} {xs : List Value} (h : Below w0.heap.size w0 W) (hr : W.ownsRow base e 1 v n xs) (hg : W.grownBy W' v.ownBlock) (hb : w0.heap.size ≤ base) : Below w0.heap.size w0 W' :=
  h.trans ((within_grown hr hg).below hb h.size)
/-- What stands still while answers are gathered. -/
structure FW11 (n gl : Nat) (A : Option Addr) (c lo hi : Nat) (zs : List Int) (m : Int) (w W : World) : Prop where
  ht : Two W n (.slice A zs.length c) (.int .i64 m) 26
  si : Ins W lo hi A zs
  l0 : CelR W ⟨gl, 0, none⟩ (.bool false)
  l1 : CelR W ⟨gl, 1, none⟩ (.bool true)
  bl : Below w.heap.size w W
section
variable {n gl base k : Nat} {A : Option Addr} {c lo hi : Nat} {zs : List Int} {m : Int} {w W W' : World} {v : Value} {e : TypeId} {xs : List Value}
theorem FW11.step (h : FW11 n gl A c lo hi zs m w W) (hb : Below W.heap.size W W') : FW11 n gl A c lo hi zs m w W' :=
  ⟨h.ht.step hb, h.si.step hb, h.l0.step hb, h.l1.step hb, below_trans h.bl hb⟩
theorem FW11.grown (h : FW11 n gl A c lo hi zs m w W) (hr : W.ownsRow base e 1 v k xs) (hg : W.grownBy W' v.ownBlock) (hne : v.ownBlock ≠ some gl) (hn : n < base) (hh : hi ≤ base) (hw : w.heap.size ≤ base) : FW11 n gl A c lo hi zs m w W' := by
  have hw1 := within_grown hr hg
  have hgl : W'.heap[gl]? = W.heap[gl]? := hg.block gl (lt_of_cellI h.l0.c) (fun e => hne e.symm)
  exact ⟨h.ht.within hw1 (.inl hn), h.si.within hw1 (.inl hh), ⟨(World.cell?_of_block hgl).trans h.l0.c⟩, ⟨(World.cell?_of_block hgl).trans h.l1.c⟩, ownsRow_grown11 h.bl hr hg hw⟩
end
theorem fairTo_yes {zs : List Int} {m q : Int} {k : Nat} {y : Bool} (h : ([false, true] : List Bool)[k]? = some y) (hc : can zs m q y = true) : fairTo zs m q (k + 1) = fairTo zs m q k ++ [y] := by
  have hk : k < ([false, true] : List Bool).length := by
    rcases Nat.lt_or_ge k ([false, true] : List Bool).length with h' | h'
    · exact h'
    · rw [List.getElem?_eq_none h'] at h; cases h
  unfold fairTo
  rw [List.take_succ_eq_append_getElem hk, List.filter_append]
  rw [List.getElem?_eq_getElem hk] at h
  injection h with h
  rw [h]
  simp [hc]
theorem fairTo_no {zs : List Int} {m q : Int} {k : Nat} {y : Bool} (h : ([false, true] : List Bool)[k]? = some y) (hc : can zs m q y = false) : fairTo zs m q (k + 1) = fairTo zs m q k := by
  have hk : k < ([false, true] : List Bool).length := by
    rcases Nat.lt_or_ge k ([false, true] : List Bool).length with h' | h'
    · exact h'
    · rw [List.getElem?_eq_none h'] at h; cases h
  unfold fairTo
  rw [List.take_succ_eq_append_getElem hk, List.filter_append]
  rw [List.getElem?_eq_getElem hk] at h
  injection h with h
  rw [h]
  simp [hc]
theorem fairTo_len (zs : List Int) (m q : Int) (k : Nat) : (fairTo zs m q k).length ≤ 2 := Nat.le_trans (List.length_filter_le _ _) (Nat.le_trans (List.length_take_le' _ _) (by simp))

set_option maxRecDepth 100000 in
set_option maxHeartbeats 8000000 in
theorem fairAnswers_impl_no (A : Option Addr) (c lo hi : Nat) (zs : List Int) (m : Int) (q : Int) (w : World) (hS : Ins w lo hi A zs) (hl : zs.length ≤ 1048576) (hg : (beginB zs m && qOK zs.length q) = false) :
    Calls Try.prog 40 #[.agg #[.slice A zs.length c, .int .i64 m], .int .i64 q] w fun e w' => ∃ B c', e = .returned (.tuple #[.slice B (([] : List Bool)).length c', .bool false]) ∧ BRes w' w.heap.size w'.heap.size B ([]) ∧ Below w.heap.size w w' := by
  have HT := Lib.hid (Two.new w (.slice A zs.length c) (.int .i64 m) 26 w.heap.size rfl)
  have HB := Lib.hid ((Below.refl w.heap.size w).alloc (Nat.le_refl _) (.cells #[.slice A zs.length c, .int .i64 m] 26))
  have HS := Lib.hid (hS.step HB.out)
  have HCb := Lib.hid (fun W h => canBegin_any A c lo hi zs m W h hl)
  have HQk : Hid (∀ W, Calls Try.prog 78 #[.int .i64 (zs.length : Int), .int .i64 q] W fun e w' => e = .returned (.bool (qOK zs.length q)) ∧ w' = W) := Lib.hid (fun W => isQuestion_any zs.length q W)
  clear hS
  cases hbg : beginB zs m
  · rw [hbg] at HCb hg
    clear hbg
    clear hg
    go_enter Try.func40, Try.ntmps40
    go_wp2_with fail
    generalize w.alloc (.cells #[.slice A zs.length c, .int .i64 m] 26) = w0 at HT HB HS ⊢
    have t0 := HT.out.c0
    have t1 := HT.out.c1
    go_wp2_with fail
    with_reducible refine (HCb.out w0 HS.out).mono ?_
    rintro e w1 ⟨rfl, hb⟩
    replace HT := Lib.hid (HT.out.step hb)
    replace HB := Lib.hid (below_trans HB.out hb)
    clear hb t0 t1 HCb HS
    have t0 := HT.out.c0
    have t1 := HT.out.c1
    go_wp2
    have hsz := HB.out.size
    have HX := Lib.hid (show BRes (w1.alloc (.cells #[] 4)) w.heap.size (w1.alloc (.cells #[] 4)).heap.size (some ⟨w1.heap.size, 0, none⟩) [] from BRes.new w1 [] w.heap.size hsz)
    replace HB := Lib.hid (HB.out.alloc hsz (.cells #[] 4))
    go_ret2
    first | exact ⟨_, _, rfl, HX.out, HB.out⟩ | exact ⟨_, ⟨_, rfl⟩, HX.out, HB.out⟩ | exact ⟨⟨_, rfl⟩, HX.out, HB.out⟩ | exact ⟨rfl, HX.out, HB.out⟩ | exact ⟨HX.out, HB.out⟩
  · rw [hbg] at HCb hg
    clear hbg
    rw [Bool.true_and] at hg
    rw [hg] at HQk
    clear hg
    go_enter Try.func40, Try.ntmps40
    go_wp2_with fail
    generalize w.alloc (.cells #[.slice A zs.length c, .int .i64 m] 26) = w0 at HT HB HS ⊢
    have t0 := HT.out.c0
    have t1 := HT.out.c1
    go_wp2_with fail
    with_reducible refine (HCb.out w0 HS.out).mono ?_
    rintro e w1 ⟨rfl, hb⟩
    replace HT := Lib.hid (HT.out.step hb)
    replace HB := Lib.hid (below_trans HB.out hb)
    clear hb t0 t1 HCb HS
    have t0 := HT.out.c0
    have t1 := HT.out.c1
    go_wp2_with (go_at_call 78; (with_reducible refine (HQk.out _).mono ?_); rintro e wX ⟨rfl, hw⟩; have hw := hw.symm; subst hw)
    have hsz := HB.out.size
    have HX := Lib.hid (show BRes (w1.alloc (.cells #[] 4)) w.heap.size (w1.alloc (.cells #[] 4)).heap.size (some ⟨w1.heap.size, 0, none⟩) [] from BRes.new w1 [] w.heap.size hsz)
    replace HB := Lib.hid (HB.out.alloc hsz (.cells #[] 4))
    go_ret2
    first | exact ⟨_, _, rfl, HX.out, HB.out⟩ | exact ⟨_, ⟨_, rfl⟩, HX.out, HB.out⟩ | exact ⟨⟨_, rfl⟩, HX.out, HB.out⟩ | exact ⟨rfl, HX.out, HB.out⟩ | exact ⟨HX.out, HB.out⟩
set_option maxRecDepth 100000 in
set_option maxHeartbeats 8000000 in
theorem fairAnswers_spec_no (A : Option Addr) (c lo hi : Nat) (zs : List Int) (m : Int) (q : Int) (w : World) (hS : Ins w lo hi A zs) (hl : zs.length ≤ 1048576) (hg : (beginB zs m && qOK zs.length q) = false) :
    Calls Try.prog 41 #[.agg #[.slice A zs.length c, .int .i64 m], .int .i64 q] w fun e w' => ∃ B c', e = .returned (.tuple #[.slice B (([] : List Bool)).length c', .bool false]) ∧ BRes w' w.heap.size w'.heap.size B ([]) ∧ Below w.heap.size w w' := by
  have HT := Lib.hid (Two.new w (.slice A zs.length c) (.int .i64 m) 26 w.heap.size rfl)
  have HB := Lib.hid ((Below.refl w.heap.size w).alloc (Nat.le_refl _) (.cells #[.slice A zs.length c, .int .i64 m] 26))
  have HS := Lib.hid (hS.step HB.out)
  have HCb := Lib.hid (fun W h => l11Race_any A c lo hi zs m W h hl)
  have HQk : Hid (∀ W, Calls Try.prog 89 #[.agg #[.slice A zs.length c, .int .i64 m], .int .i64 q] W fun e w' => e = .returned (.bool (qOK zs.length q)) ∧ Below W.heap.size W w') := Lib.hid (fun W => l2Question_any A zs.length c m q W)
  clear hS
  cases hbg : beginB zs m
  · rw [hbg] at HCb hg
    clear hbg
    clear hg
    go_enter Try.func41, Try.ntmps41
    go_wp2_with fail
    generalize w.alloc (.cells #[.slice A zs.length c, .int .i64 m] 26) = w0 at HT HB HS ⊢
    have t0 := HT.out.c0
    have t1 := HT.out.c1
    go_wp2_with fail
    with_reducible refine (HCb.out w0 HS.out).mono ?_
    rintro e w1 ⟨rfl, hb⟩
    replace HT := Lib.hid (HT.out.step hb)
    replace HB := Lib.hid (below_trans HB.out hb)
    clear hb t0 t1 HCb HS
    have t0 := HT.out.c0
    have t1 := HT.out.c1
    go_wp2
    have hsz := HB.out.size
    have HX := Lib.hid (show BRes (w1.alloc (.cells #[] 4)) w.heap.size (w1.alloc (.cells #[] 4)).heap.size (some ⟨w1.heap.size, 0, none⟩) [] from BRes.new w1 [] w.heap.size hsz)
    replace HB := Lib.hid (HB.out.alloc hsz (.cells #[] 4))
    go_ret2
    first | exact ⟨_, _, rfl, HX.out, HB.out⟩ | exact ⟨_, ⟨_, rfl⟩, HX.out, HB.out⟩ | exact ⟨⟨_, rfl⟩, HX.out, HB.out⟩ | exact ⟨rfl, HX.out, HB.out⟩ | exact ⟨HX.out, HB.out⟩
  · rw [hbg] at HCb hg
    clear hbg
    rw [Bool.true_and] at hg
    rw [hg] at HQk
    clear hg
    go_enter Try.func41, Try.ntmps41
    go_wp2_with fail
    generalize w.alloc (.cells #[.slice A zs.length c, .int .i64 m] 26) = w0 at HT HB HS ⊢
    have t0 := HT.out.c0
    have t1 := HT.out.c1
    go_wp2_with fail
    with_reducible refine (HCb.out w0 HS.out).mono ?_
    rintro e w1 ⟨rfl, hb⟩
    replace HT := Lib.hid (HT.out.step hb)
    replace HB := Lib.hid (below_trans HB.out hb)
    clear hb t0 t1 HCb HS
    have t0 := HT.out.c0
    have t1 := HT.out.c1
    go_wp2_with fail
    with_reducible refine (HQk.out w1).mono ?_
    rintro e w2 ⟨rfl, hb⟩
    replace HB := Lib.hid (below_trans HB.out hb)
    clear hb
    go_wp2
    have hsz := HB.out.size
    have HX := Lib.hid (show BRes (w2.alloc (.cells #[] 4)) w.heap.size (w2.alloc (.cells #[] 4)).heap.size (some ⟨w2.heap.size, 0, none⟩) [] from BRes.new w2 [] w.heap.size hsz)
    replace HB := Lib.hid (HB.out.alloc hsz (.cells #[] 4))
    go_ret2
    first | exact ⟨_, _, rfl, HX.out, HB.out⟩ | exact ⟨_, ⟨_, rfl⟩, HX.out, HB.out⟩ | exact ⟨⟨_, rfl⟩, HX.out, HB.out⟩ | exact ⟨rfl, HX.out, HB.out⟩ | exact ⟨HX.out, HB.out⟩
set_option maxRecDepth 100000 in
set_option maxHeartbeats 8000000 in
theorem fairAnswers_spec_yes (A : Option Addr) (c lo hi : Nat) (zs : List Int) (m : Int) (q : Int) (w : World) (hS : Ins w lo hi A zs) (hl : zs.length ≤ 1048576) (hg : (beginB zs m && qOK zs.length q) = true) :
    Calls Try.prog 41 #[.agg #[.slice A zs.length c, .int .i64 m], .int .i64 q] w fun e w' => ∃ B c', e = .returned (.tuple #[.slice B (fairL zs m q).length c', .bool true]) ∧ BRes w' w.heap.size w'.heap.size B (fairL zs m q) ∧ Below w.heap.size w w' := by
  rw [Bool.and_eq_true] at hg
  have hstt : isSt zs m = true := by obtain ⟨M, rfl, hs, _⟩ := begin_short hg.1; exact hs.valid
  have HT := Lib.hid (Two.new w (.slice A zs.length c) (.int .i64 m) 26 w.heap.size rfl)
  have HB := Lib.hid ((Below.refl w.heap.size w).alloc (Nat.le_refl _) (.cells #[.slice A zs.length c, .int .i64 m] 26))
  have HS := Lib.hid (hS.step HB.out)
  have HCb := Lib.hid (fun W h => l11Race_any A c lo hi zs m W h hl)
  rw [hg.1] at HCb
  have HQk := Lib.hid (fun W => l2Question_any A zs.length c m q W)
  rw [hg.2] at HQk
  have HFa := Lib.hid (fun W h => l11Fair_any A c lo hi zs m q W h hstt)
  clear hS hg hstt
  go_enter Try.func41, Try.ntmps41
  go_wp2_with fail
  generalize w.alloc (.cells #[.slice A zs.length c, .int .i64 m] 26) = w0 at HT HB HS ⊢
  have t0 := HT.out.c0
  have t1 := HT.out.c1
  go_wp2_with fail
  with_reducible refine (HCb.out w0 HS.out).mono ?_
  rintro e w1 ⟨rfl, hb⟩
  replace HT := Lib.hid (HT.out.step hb)
  replace HS := Lib.hid (HS.out.step hb)
  replace HB := Lib.hid (below_trans HB.out hb)
  clear hb t0 t1
  have t0 := HT.out.c0
  have t1 := HT.out.c1
  go_wp2_with fail
  with_reducible refine (HQk.out w1).mono ?_
  rintro e w2 ⟨rfl, hb⟩
  replace HT := Lib.hid (HT.out.step hb)
  replace HS := Lib.hid (HS.out.step hb)
  replace HB := Lib.hid (below_trans HB.out hb)
  clear hb t0 t1
  have t0 := HT.out.c0
  have t1 := HT.out.c1
  go_wp2_with fail
  with_reducible refine (HFa.out w2 HS.out).mono ?_
  rintro e w3 ⟨B, c', rfl, _, hr, hb⟩
  have hsz := HB.out.size
  have HX := Lib.hid (bres_wide hr hsz)
  replace HB := Lib.hid (below_trans HB.out hb)
  clear hb hr
  go_wp2
  go_ret2
  first | exact ⟨_, _, rfl, HX.out, HB.out⟩ | exact ⟨_, ⟨_, rfl⟩, HX.out, HB.out⟩ | exact ⟨⟨_, rfl⟩, HX.out, HB.out⟩ | exact ⟨rfl, HX.out, HB.out⟩ | exact ⟨HX.out, HB.out⟩
set_option maxRecDepth 100000 in
set_option maxHeartbeats 8000000 in
theorem fairAnswers_impl_yes (A : Option Addr) (c lo hi : Nat) (zs : List Int) (m : Int) (q : Int) (w : World) (hS : Ins w lo hi A zs) (hl : zs.length ≤ 1048576) (hg : (beginB zs m && qOK zs.length q) = true) :
    Calls Try.prog 40 #[.agg #[.slice A zs.length c, .int .i64 m], .int .i64 q] w fun e w' => ∃ B c', e = .returned (.tuple #[.slice B (fairL zs m q).length c', .bool true]) ∧ BRes w' w.heap.size w'.heap.size B (fairL zs m q) ∧ Below w.heap.size w w' := by
  rw [Bool.and_eq_true] at hg
  have hstt : isSt zs m = true := by obtain ⟨M, rfl, hs, _⟩ := begin_short hg.1; exact hs.valid
  obtain ⟨i0, hi0, hz0, hz1, hz2⟩ := info_parts infoB8
  have hst := hS.top
  have HT := Lib.hid (Two.new w (.slice A zs.length c) (.int .i64 m) 26 w.heap.size rfl)
  have HB := Lib.hid ((Below.refl w.heap.size w).alloc (Nat.le_refl _) (.cells #[.slice A zs.length c, .int .i64 m] 26))
  have HS := Lib.hid (hS.step HB.out)
  have HCb := Lib.hid (fun W h => canBegin_any A c lo hi zs m W h hl)
  rw [hg.1] at HCb
  have HQk := Lib.hid (fun W => isQuestion_any zs.length q W)
  rw [hg.2] at HQk
  have HCn := Lib.hid (fun y W h => canAnswer_impl A c lo hi zs m q y W h hstt hg.2)
  clear hS hg hstt
  go_enter Try.func40, Try.ntmps40
  go_wp2_with fail
  generalize w.alloc (.cells #[.slice A zs.length c, .int .i64 m] 26) = w0 at HT HB HS ⊢
  have t0 := HT.out.c0
  have t1 := HT.out.c1
  go_wp2_with fail
  with_reducible refine (HCb.out w0 HS.out).mono ?_
  rintro e w1 ⟨rfl, hb⟩
  have hlt0 := HT.out.lt
  have hs01 := hb.size
  replace HT := Lib.hid (HT.out.step hb)
  replace HS := Lib.hid (HS.out.step hb)
  replace HB := Lib.hid (below_trans HB.out hb)
  clear hb t0 t1 HCb
  have t0 := HT.out.c0
  have t1 := HT.out.c1
  go_upto_region 4 with (go_at_call 78; (with_reducible refine (HQk.out _).mono ?_); rintro e wX ⟨rfl, hw⟩; have hw := hw.symm; subst hw)
  have O0 := Lib.hid (B0_any11 w1 w1.heap.size (Nat.le_refl _))
  have hb := (Below.refl w1.heap.size w1).alloc (Nat.le_refl _) (.cells #[] 4)
  replace HT := Lib.hid (HT.out.step hb)
  replace HS := Lib.hid (HS.out.step hb)
  replace HB := Lib.hid (below_trans HB.out hb)
  clear hb t0 t1
  have hbase : w.heap.size < w1.heap.size := by omega
  have hz1' : w1.heap.size < (w1.alloc (.cells #[] 4)).heap.size := by simp
  generalize w1.heap.size = g0 at O0 hbase hz1' ⊢
  generalize w1.alloc (.cells #[] 4) = w2 at O0 HT HS HB hz1' ⊢
  have hb := (Below.refl w2.heap.size w2).alloc (Nat.le_refl _) (.cells #[.bool false, .bool true] 4)
  have HL : Hid (Two (w2.alloc (.cells #[.bool false, .bool true] 4)) w2.heap.size (.bool false) (.bool true) 4) := Lib.hid (Two.new w2 _ _ _ _ rfl)
  have HFW : Hid (FW11 w.heap.size w2.heap.size A c lo hi zs m w (w2.alloc (.cells #[.bool false, .bool true] 4))) := Lib.hid ⟨HT.out.step hb, HS.out.step hb, ⟨HL.out.c0⟩, ⟨HL.out.c1⟩, below_trans HB.out hb⟩
  replace O0 := Lib.hid (own_belowR O0.out hb)
  clear hb HT HS HB HL
  obtain ⟨gl, hgl⟩ : ∃ g, g = w2.heap.size := ⟨_, rfl⟩
  rw [← hgl] at HFW hz1'
  go_wp2_with fail
  rw [← hgl]
  generalize w2.alloc (.cells #[.bool false, .bool true] 4) = w3 at O0 HFW ⊢
  clear hgl
  go_loopw [6, 26] (fun out i wr => ∃ (k : Nat), k ≤ 2 ∧ i = .int .i64 (k : Int) ∧ Hid (wr.ownsRow g0 4 1 out (fairTo zs m q k).length ((fairTo zs m q k).map Value.bool)) ∧ Hid (out.ownBlock ≠ some gl) ∧ Hid (FW11 w.heap.size gl A c lo hi zs m w wr)) (fun _ i _ => 2 - (intOf i).toNat)
  case atStart => exact ⟨0, by omega, rfl, O0, Lib.hid (fun e => by have e2 : g0 = gl := (by injection e); omega), HFW⟩
  case round =>
    clear O0 HFW
    obtain ⟨k, hk, rfl, HO, HNE, HFW⟩ := hrel
    rename World => w4
    by_cases hlt : k < 2
    · have hltI : (k : Int) < 2 := by omega
      obtain ⟨y, hy, hcy⟩ : ∃ y, ([false, true] : List Bool)[k]? = some y ∧ w4.cell? ⟨gl, k, none⟩ = some (.bool y) := by
        rcases (show k = 0 ∨ k = 1 by omega) with rfl | rfl
        · exact ⟨false, rfl, HFW.out.l0.c⟩
        · exact ⟨true, rfl, HFW.out.l1.c⟩
      have HY := Lib.hid (fun h => fairTo_yes (zs := zs) (m := m) (q := q) hy h)
      have HN := Lib.hid (fun h => fairTo_no (zs := zs) (m := m) (q := q) hy h)
      have hfl := fairTo_len zs m q k
      have HCy := Lib.hid (fun W h => HCn.out y W h)
      generalize can zs m q y = cy at HY HN HCy
      generalize fairTo zs m q k = fr at HO HY HN hfl
      clear hy
      have t0 := HFW.out.ht.c0
      have t1 := HFW.out.ht.c1
      go_wp2_with fail
      with_reducible refine (HCy.out w4 HFW.out.si).mono ?_
      rintro e w5 ⟨rfl, hb⟩
      replace HFW := Lib.hid (HFW.out.step hb)
      have hsz5 := hb.size
      replace HO := Lib.hid (own_belowR HO.out hb)
      have hglt := lt_of_cellI HFW.out.l0.c
      clear hb hcy t0 t1 HCy
      cases cy with
      | true =>
        have HYr := Lib.hid (HY.out rfl)
        clear HY HN
        go_wp2_with (at_builtin; refine wpList_append_lies _ rfl (.tmp 39) (.tmp 41) 36 rfl g0 4 i0 (.bool false) 1 1 Try.underlying36 hi0 hz0 hz1 hz2 rfl (by decide) _ fr.length (fr.map Value.bool) rfl (HO.out.alloc _) ⟨w5.heap.size, 0, none⟩ 1 1 [.bool y] rfl rfl (cell_one_new _ _ _) (by simp [Value.oneCell']) (by decide) (by unfold maxLen; omega) (by omega) (by simp; omega) _ rfl ?_; intro ga ca wa hown ha hblk hlta)
        have hbo := (Below.refl w5.heap.size w5).alloc (Nat.le_refl _) (.cells #[.bool y] 4)
        have HFW2 := Lib.hid ((HFW.out.step hbo).grown (HO.out.alloc _) ha HNE.out (by omega) (by omega) (by omega))
        have HO2 := Lib.hid (bool_snoc11 hown rfl)
        have HNE2 : Hid ((Value.slice (some ⟨ga, 0, none⟩) (fr.length + 1) ca).ownBlock ≠ some gl) := Lib.hid (fun e => by
          have e2 : ga = gl := by injection e
          subst e2
          rcases hblk with h | h
          · exact HNE.out h
          · simp at h; omega)
        clear hown ha hblk hlta hbo HO HFW HNE
        go_wp2
        go_roundw
        case rel => exact ⟨k + 1, by omega, by go_num, Lib.hid (by rw [HYr.out]; exact HO2.out), HNE2, HFW2⟩
        case measure => simp [intOf]; omega
      | false =>
        have HNr := Lib.hid (HN.out rfl)
        clear HY HN
        go_wp2
        go_roundw
        case rel => exact ⟨k + 1, by omega, by go_num, Lib.hid (by rw [HNr.out]; exact HO.out), HNE, HFW⟩
        case measure => simp [intOf]; omega
    · obtain rfl : k = 2 := by omega
      have hltI : ¬ ((2 : Nat) : Int) < 2 := by omega
      have HFL : Hid (fairTo zs m q 2 = fairL zs m q) := Lib.hid rfl
      rw [HFL.out] at HO
      obtain ⟨B, c', rfl, _, hr⟩ := own_resB11 HO.out rfl
      have HX := Lib.hid (bres_wide hr (show w.heap.size ≤ g0 by omega))
      have HB := Lib.hid HFW.out.bl
      clear hr HO HNE HFW HFL
      go_wp2
      go_ret2
      first | exact ⟨_, _, rfl, HX.out, HB.out⟩ | exact ⟨_, ⟨_, rfl⟩, HX.out, HB.out⟩ | exact ⟨⟨_, rfl⟩, HX.out, HB.out⟩ | exact ⟨rfl, HX.out, HB.out⟩ | exact ⟨HX.out, HB.out⟩
theorem fairAnswers_both (zs : List Int) (m : Int) (h : zs.length ≤ 1048576) (q : Int) : ∃ (r0 : List Bool) (r1 : Bool), r0.length ≤ 1048576 ∧
    (∀ (w : World) (B : Option Addr) (c lo hi : Nat), Ins w lo hi B zs → Calls Try.prog 40 #[.agg #[.slice B zs.length c, .int .i64 m], .int .i64 q] w fun e w' => ∃ B c', e = .returned (.tuple #[.slice B r0.length c', .bool r1]) ∧ BRes w' w.heap.size w'.heap.size B r0 ∧ Below w.heap.size w w') ∧
    (∀ (w : World) (B : Option Addr) (c lo hi : Nat), Ins w lo hi B zs → Calls Try.prog 41 #[.agg #[.slice B zs.length c, .int .i64 m], .int .i64 q] w fun e w' => ∃ B c', e = .returned (.tuple #[.slice B r0.length c', .bool r1]) ∧ BRes w' w.heap.size w'.heap.size B r0 ∧ Below w.heap.size w w') := by
  cases hg : (beginB zs m && qOK zs.length q) with
  | false => exact ⟨[], false, by simp, fun w B c lo hi hS => fairAnswers_impl_no B c lo hi zs m q w hS h hg, fun w B c lo hi hS => fairAnswers_spec_no B c lo hi zs m q w hS h hg⟩
  | true => exact ⟨fairL zs m q, true, Nat.le_trans (List.length_filter_le _ _) (by simp), fun w B c lo hi hS => fairAnswers_impl_yes B c lo hi zs m q w hS h hg, fun w B c lo hi hS => fairAnswers_spec_yes B c lo hi zs m q w hS h hg⟩

end Go.Proofs.Ytopgccficjkenaa
