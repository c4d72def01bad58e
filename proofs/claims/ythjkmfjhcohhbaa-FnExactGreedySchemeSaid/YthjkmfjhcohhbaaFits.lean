/- The numbers within: the range over the map that collects, and the sort. -/
import Derived.Test.YthjkmfjhcohhbaaRng
import Derived.Sort.OwnSorted
namespace Go.Proofs.Ythjkmfjhcohhbaa
open Go.RowKit Go.ChangeShapes Go.WideShapes Go.Maps Go.MapKept Go.ChangeMaps Go.Sort
set_option linter.unusedVariables false

/-- What has been collected of those that have come. -/
structure Coll (qs : List Int) (n x m : Nat) (left : Lit → Bool) (zs : List Int) : Prop where
  nodup : zs.Nodup
  mem : ∀ y, y ∈ zs ↔ ∃ j : Nat, j < n ∧ (came qs left j && decide (apartN (twN qs j) x ≤ m)) = true ∧ y = (j : Int)
theorem Coll.sorted {qs : List Int} {n x m : Nat} {left : Lit → Bool} {zs : List Int} (h : Coll qs n x m left zs) : (zs.mergeSort fun x y => decide (x ≤ y)) = filt (fun j => came qs left j && decide (apartN (twN qs j) x ≤ m)) n := sort_filt h.nodup h.mem
theorem Coll.len {qs : List Int} {n x m : Nat} {left : Lit → Bool} {zs : List Int} (h : Coll qs n x m left zs) : zs.length ≤ n := by
  have h1 := h.sorted
  have h2 := filt_len (fun j => came qs left j && decide (apartN (twN qs j) x ≤ m)) n
  rw [← h1, List.length_mergeSort] at h2
  exact h2
theorem Coll.done {qs : List Int} {n x m : Nat} {left : Lit → Bool} {zs : List Int} (h : Coll qs n x m left zs) (hl : ∀ kl, left kl = false) : (zs.mergeSort fun x y => decide (x ≤ y)) = fitL (twL qs n) x m := by
  rw [h.sorted]
  unfold fitL fitTo
  rw [twL_len]
  refine filt_ext _ fun j hj => ?_
  rw [came_end hl, twL_at hj, Bool.true_and]
theorem Coll.start {w : World} {M base : Nat} {qs : List Int} {n x m : Nat} {D : DataW Value} (h : Hold w M base qs n D) : Coll qs n x m (has D) [] :=
  ⟨List.nodup_nil, fun y => ⟨fun h => absurd h (by simp), fun ⟨j, hj, hc, _⟩ => by rw [came_start h hj] at hc; simp at hc⟩⟩
theorem grp_nodup (qs : List Int) (n v : Nat) : (grp qs n v).Nodup := (filt_asc _ n).imp (fun {a b} h => by omega)
theorem Coll.take {qs : List Int} {n x m v : Nat} {left : Lit → Bool} {zs : List Int} (h : Coll qs n x m left zs) (hl : qs.length ≤ 14) (hv : v < 2 ^ 14) (hlk : left (klW v.testBit) = true) (hm : apartN v x ≤ m) :
    Coll qs n x m (fun z => left z && !z.sameKey (klW v.testBit)) (zs ++ grp qs n v) := by
  refine ⟨List.nodup_append.2 ⟨h.nodup, grp_nodup _ _ _, fun a ha b hb e => ?_⟩, fun y => ?_⟩
  · subst e
    obtain ⟨j, _, hc, e1⟩ := (h.mem a).1 ha
    obtain ⟨i, _, e2, e3⟩ := grp_mem.1 hb
    obtain rfl : i = j := by omega
    unfold came at hc
    rw [e2, hlk] at hc
    simp at hc
  · rw [List.mem_append, h.mem, grp_mem]
    constructor
    · rintro (⟨j, hj, hc, e⟩ | ⟨j, hj, e1, e⟩)
      · refine ⟨j, hj, ?_, e⟩
        rw [came_step hl _ _ hv]
        rw [Bool.and_eq_true] at hc ⊢
        exact ⟨by rw [hc.1]; rfl, hc.2⟩
      · refine ⟨j, hj, ?_, e⟩
        rw [came_step hl _ _ hv, e1]
        simp [hm]
    · rintro ⟨j, hj, hc, e⟩
      rw [came_step hl _ _ hv, Bool.and_eq_true, Bool.or_eq_true, beq_iff_eq] at hc
      rcases hc.1 with h1 | h1
      · exact .inl ⟨j, hj, by rw [h1, hc.2]; rfl, e⟩
      · exact .inr ⟨j, hj, h1, e⟩
theorem Coll.pass {qs : List Int} {n x m v : Nat} {left : Lit → Bool} {zs : List Int} (h : Coll qs n x m left zs) (hl : qs.length ≤ 14) (hv : v < 2 ^ 14) (hm : ¬ apartN v x ≤ m) :
    Coll qs n x m (fun z => left z && !z.sameKey (klW v.testBit)) zs := by
  refine ⟨h.nodup, fun y => ?_⟩
  rw [h.mem]
  constructor
  · rintro ⟨j, hj, hc, e⟩
    refine ⟨j, hj, ?_, e⟩
    rw [came_step hl _ _ hv]
    rw [Bool.and_eq_true] at hc ⊢
    exact ⟨by rw [hc.1]; rfl, hc.2⟩
  · rintro ⟨j, hj, hc, e⟩
    rw [came_step hl _ _ hv, Bool.and_eq_true, Bool.or_eq_true, beq_iff_eq] at hc
    rcases hc.1 with h1 | h1
    · exact ⟨j, hj, by rw [h1, hc.2]; rfl, e⟩
    · rw [h1] at hc
      exact absurd (of_decide_eq_true hc.2) hm
theorem row_news {w : World} {g : Nat} {cur : Array Value} {L : List Int} {t : TypeId} (hb : w.heap[g]? = some (.cells cur t (0, 0))) (ht : cur.toList.take (L.length * 1) = L.map (Value.int .i64)) : ∀ j u, (L.map (Value.int .i64))[j]? = some u → w.cell? ((⟨g, 0, none⟩ : Addr).add j) = some u := fun j u hu => by
  have hadd : (⟨g, 0, none⟩ : Addr).add j = ⟨g, j, none⟩ := by unfold Addr.add; split <;> simp_all
  rw [hadd, row_cellI hb]
  rw [← ht] at hu
  have hj : j < L.length * 1 := by
    rcases Nat.lt_or_ge j (L.length * 1) with h | h
    · exact h
    · rw [List.getElem?_take_eq_none h] at hu; cases hu
  rw [List.getElem?_take_of_lt hj] at hu
  simpa using hu
theorem iter_ne {w : World} {B n r : Nat} {v : Value} {xs : List Value} {e : TypeId} {P : Program} {k : TypeId} {R : Value → Option (DataW Value × List MemPlace)} {b n' cnt : Nat} {D : DataW Value} {left : Lit → Bool} (h : w.ownsRow B e 1 v n xs) (hr : w.ranges P k R b r n' D left cnt) : some r ≠ v.ownBlock := fun he => by
  obtain ⟨_, _, _, _, _, _, _, _, _, hrr, _⟩ := hr
  rcases h.2 with ⟨rfl, _⟩ | ⟨g, cap, cur, rfl, _, hg, _⟩
  · cases he
  · injection he with he
    subst he
    rw [hg] at hrr
    cases hrr

set_option maxRecDepth 100000 in
set_option maxHeartbeats 4000000 in
theorem within_any (M base : Nat) (qs : List Int) (n x m : Nat) (D : DataW Value) (w : World) (hH : Hold w M base qs n D) (hl : qs.length ≤ 14) (hn : n ≤ 12) (hm : m ≤ 14) :
    Calls Try.prog 67 #[.map (some M), .agg (bwv x.testBit), .int .i64 (m : Int)] w fun e w' => ∃ v, e = .returned v ∧ w'.ownsRow w.heap.size 3 1 v (fitL (twL qs n) x m).length ((fitL (twL qs n) x m).map (Value.int .i64)) ∧ Below w.heap.size w w' := by
  obtain ⟨i0, hi0, hz0, hz1, hz2⟩ := info_parts infoI3
  have B0 := (Below.refl w.heap.size w).alloc (Nat.le_refl _) (.cells (bwv x.testBit) 48)
  have B1 := B0.alloc B0.size (.cells #[] 3)
  have HB0 := Lib.hid B1
  have HT0 := Lib.hid ((W14.new w x.testBit w.heap.size rfl).step ((Below.refl _ _).alloc (Nat.le_refl _) (.cells #[] 3)))
  have hs1 : (w.alloc (.cells (bwv x.testBit) 48)).heap.size = w.heap.size + 1 := by simp
  have O0 := O0_any (w.alloc (.cells (bwv x.testBit) 48)) (w.heap.size + 1) (by simp)
  rw [hs1] at O0
  have HO0 := Lib.hid O0
  have hown : ((w.alloc (.cells (bwv x.testBit) 48)).alloc (.cells #[] 3)).ownsMap Try.prog 48 (rowElem w base 3 .i64) M n D := hH.map.kept (grown_none B1) (by simp)
  have hr0 : ((w.alloc (.cells (bwv x.testBit) 48)).alloc (.cells #[] 3)).heap.size = w.heap.size + 1 + 1 := by simp
  have hMlt := hH.lt
  have hKeys := Lib.hid hH.keys
  have hTold := Lib.hid hH.told
  have HA := Lib.hid (fun p q W => apart_any p q W)
  have HS0 : Hid (Coll qs n x m (has D) []) := Lib.hid (Coll.start hH)
  clear B0 B1 hH O0 hs1
  go_enter Try.func67, Try.ntmps67
  go_wp2_with (first
    | (at_range; refine wpList_range_own _ rfl _ 61 rfl 48 22 keyedWord under_holders (rowElem w base 3 .i64) M n D rfl hown ?_; intro w0 hrg0 hg0 hs0))
  go_frame
  rw [hr0] at hrg0 ⊢
  have HR0 := Lib.hid hrg0
  have HT1 := Lib.hid (HT0.out.grown hg0 (by simp))
  have HO1 := Lib.hid (HO0.out.kept hg0 (.inr (by simp [Value.ownBlock])))
  have HB1 := Lib.hid (HB0.out.grown hg0 HB0.out.size (fun j hj => by cases hj))
  clear hrg0 hg0 hs0 hown HT0 HB0 hr0 HO0
  go_loopw [7] (fun v wr => ∃ (zs : List Int) (left : Lit → Bool) (cnt : Nat), Hid (wr.ranges Try.prog 48 (rowElem w base 3 .i64) M (w.heap.size + 1 + 1) n D left cnt) ∧ Hid (wr.ownsRow (w.heap.size + 1) 3 1 v zs.length (zs.map (Value.int .i64))) ∧ Hid (Coll qs n x m left zs) ∧ Hid (W14 wr w.heap.size x.testBit) ∧ Hid (Below w.heap.size w wr) ∧ w.heap.size + 1 + 1 ≤ wr.heap.size) (fun _ wr => wr.rangeLeft M (w.heap.size + 1 + 1))
  case atStart => exact ⟨[], _, _, HR0, HO1, HS0, HT1, HB1, by have := HR0.out.lt; omega⟩
  case round =>
    clear HR0 HS0 HT1 HB1 HO1
    obtain ⟨zs, left, cnt, HR, HO, HS, HT, HB, hsz⟩ := hrel
    rename World => wr
    have hzl := HS.out.len
    go_wp2_with (at_next; refine wpList_next_ranges _ rfl (.tmp 12) rfl 48 keyedWord (rowElem w base 3 .i64) (fun xs : Array Value => Value.agg xs) (fun v : Value => v) (fun key kl h => keyed_agg h) (fun v y h => ⟨v, rfl⟩) M (w.heap.size + 1 + 1) n D left cnt rfl HR.out ?_ ?_)
    · intro _ hl0
      have HD := Lib.hid (HS.out.done hl0)
      have HLen : Hid (zs.length = (fitL (twL qs n) x m).length) := Lib.hid (by rw [← HD.out, List.length_mergeSort])
      rcases HO.out.2 with ⟨rfl, h0⟩ | ⟨g, cap, cur, rfl, hbase, hgb, h1, h2, h3, h4⟩
      · have hz : zs = [] := List.eq_nil_of_length_eq_zero h0
        subst hz
        have HN := Lib.hid (fun W => Try.slices_Sort_int_none none 0 W)
        go_wp2_with fail
        refine (HN.out _).mono ?_
        rintro e w7 ⟨rfl, rfl⟩
        go_wp2
        go_ret
        have e0 : fitL (twL qs n) x m = [] := by rw [← HD.out]; simp
        rw [e0]
        exact ⟨_, rfl, own_base HO.out (by omega), HB.out⟩
      · have hcs := holds_of_blockI (ss := zs) hgb (by simpa using h4)
        have hglt := row_ltI hgb
        have HC := Lib.hid (Try.slices_Sort_int g 0 cap zs wr hcs hglt (by omega))
        have HSd := Lib.hid (fun nn os => ownsRow_sortedI (w := wr) (n := nn) (os := os) (ss := zs) (ts := zs.mergeSort fun x y => decide (x ≤ y)) (by rw [List.length_mergeSort]) hbase hgb h1 h2 h3)
        have HGd := Lib.hid (fun nn os => grownBy_sortedI (w := wr) (g := g) (n := nn) (os := os) (zs.mergeSort fun x y => decide (x ≤ y)).toArray)
        rw [HD.out] at HC HSd HGd
        clear hcs hgb h3 h4 HR HO hl0
        go_wp2_with fail
        refine HC.out.mono ?_
        rintro e w7 ⟨rfl, nn, os, rfl⟩
        have HS7 := Lib.hid (HSd.out nn os)
        have HB7 := Lib.hid (HB.out.grown (HGd.out nn os) HB.out.size (fun j hj => by injection hj; omega))
        generalize grow (putRow (Value.int .i64) (Sort.ahead wr nn) g 0 (fitL (twL qs n) x m).toArray) os = w7 at HS7 HB7 ⊢
        go_wp2
        go_ret
        have hs7 := HS7.out
        rw [HLen.out] at hs7 ⊢
        exact ⟨_, rfl, own_base hs7 (by omega), HB7.out⟩
    · intro xs vv kl yd yp w1 cnt1 hkey hlk hv hat hrg1 hlt hg1 hs1 hen
      obtain ⟨j, hj, rfl⟩ := hKeys.out kl (has_true_of_atKey hat)
      obtain rfl := klW_agg hkey
      obtain ⟨L, hoL, heq⟩ := rowElem_inv hv
      have hLg : L = grp qs n (twN qs j) := by
        have h1 := hat .nil
        rw [hTold.out _ (twN_14 hl j)] at h1
        have h2 : yd = rowDatum .i64 vv L := congrArg Prod.fst heq
        exact gdat_row hoL (h1.trans h2)
      have hLn : 0 < L.length := by
        rw [hLg]
        exact List.length_pos_of_mem (grp_mem.2 ⟨j, hj, rfl, rfl⟩)
      have hLl : L.length ≤ n := by rw [hLg]; exact grp_len _ _ _
      have hrow := hoL.1
      rcases hrow.2 with ⟨rfl, h0⟩ | ⟨gv, capv, curv, rfl, _, hgv, _, _, _, htv⟩
      · omega
      · have hgvl := row_ltI hgv
        have HT1 := Lib.hid (HT.out.grown hg1 (by intro e; injection e; omega))
        have HB1 := Lib.hid (HB.out.grown hg1 HB.out.size (fun i hi => by injection hi; omega))
        have HO1 := Lib.hid (HO.out.kept hg1 (by
          have := iter_ne HO.out HR.out
          cases hv7 : u7.ownBlock with
          | none => exact .inl rfl
          | some q => exact .inr (fun e => this (by rw [hv7, e]))))
        have HZ := Lib.hid (W14.new0 w1)
        have HP := Lib.hid (HZ.out.put (twN qs j).testBit)
        have HBn := Lib.hid (below_new14 w1 (twN qs j).testBit)
        have HT2 := Lib.hid (HT1.out.step HBn.out)
        have HB2 := Lib.hid (below_trans HB1.out HBn.out)
        have HO2 := Lib.hid (HO1.out.kept (grown_none HBn.out) (by cases u7.ownBlock <;> simp))
        have HR2 := Lib.hid (hrg1.kept (grown_none HBn.out) (by simp) (by simp))
        have HLC : Hid (wr.rangeLeft M (w.heap.size + 1 + 1) = cnt) := Lib.hid HR.out.left_eq
        have hsz2 : w.heap.size + 1 + 1 ≤ ((w1.alloc (.cells #[.bool false, .bool false, .bool false, .bool false, .bool false, .bool false, .bool false, .bool false, .bool false, .bool false, .bool false, .bool false, .bool false, .bool false] 48)).setRow w1.heap.size (bwv (twN qs j).testBit)).heap.size := Nat.le_trans hsz (Nat.le_trans hg1.size HBn.out.size)
        have HAk := Lib.hid (fun W => HA.out (twN qs j).testBit x.testBit W)
        rw [show cntB (fun i => (twN qs j).testBit i != x.testBit i) 14 = apartN (twN qs j) x from rfl] at HAk
        have hap := apartN_le (twN qs j) x
        have HTk := Lib.hid (fun h => HS.out.take hl (twN_14 hl j) hlk h)
        have HPs := Lib.hid (fun h => HS.out.pass hl (twN_14 hl j) h)
        rw [← hLg] at HTk
        clear hkey hlk hv hat hrg1 hg1 hs1 HT HB HT1 HB1 HBn HR HS HO HO1 hoL heq hLg hrow
        generalize apartN (twN qs j) x = a at HAk HTk HPs hap
        by_cases hmin : a ≤ m
        · have HS2 := Lib.hid (HTk.out hmin)
          clear HTk HPs
          go_wp2_with (first
            | (with_reducible refine wpList_store14 rfl (.tmp 8) (.tmp 16) rfl w1.heap.size (fun _ => false) (twN qs j).testBit rfl rfl HZ.out ?_)
            | (with_reducible refine wpList_load14 rfl (.tmp 8) rfl w1.heap.size (twN qs j).testBit rfl HP.out ?_)
            | (with_reducible refine wpList_load14 rfl (.tmp 4) rfl w.heap.size x.testBit rfl HT2.out ?_))
          refine (HAk.out _).mono ?_
          rintro e w7 ⟨rfl, hb⟩
          have HT3 := Lib.hid (HT2.out.step hb)
          have HB3 := Lib.hid (below_trans HB2.out hb)
          have HO3 := Lib.hid (HO2.out.kept (grown_none hb) (by cases u7.ownBlock <;> simp))
          have HR3 := Lib.hid (HR2.out.kept (grown_none hb) (by simp) (by simp))
          have hsz3 := Nat.le_trans hsz2 hb.size
          have hgv3 := (HB3.out.block _ hgvl).trans hgv
          have HNw := Lib.hid (row_news hgv3 htv)
          have HIt := Lib.hid (iter_ne HO3.out HR3.out)
          clear hb HT2 HB2 HR2 HO2 HP HZ hen hgv hgv3 htv hsz2
          go_wp2_with (at_builtin; refine wpList_append_lies _ rfl (.tmp 23) (.tmp 24) 22 rfl (w.heap.size + 1) 3 i0 (.int .i64 0) 1 8 Try.underlying22 hi0 hz0 hz1 hz2 rfl (by decide) u7 zs.length (zs.map (Value.int .i64)) rfl HO3.out ⟨gv, 0, none⟩ L.length capv (L.map (Value.int .i64)) rfl (by simp) HNw.out (by simp [Value.oneCell']) hLn (by unfold maxLen; omega) (by omega) (by omega) _ rfl ?_; intro ga ca wf hownA ha hblk hlta; have HO4 : Hid (wf.ownsRow (w.heap.size + 1) 3 1 (.slice (some ⟨ga, 0, none⟩) (zs.length + L.length) ca) (zs ++ L).length ((zs ++ L).map (Value.int .i64))) := Lib.hid (by rw [List.length_append, List.map_append]; exact hownA); have HR4 := Lib.hid (HR3.out.kept ha (by intro e; have := (HO3.out.lt _ e.symm).1; omega) HIt.out); have HT4 := Lib.hid (HT3.out.grown ha (by intro e; have := (HO3.out.lt _ e.symm).1; omega)); have HB4 := Lib.hid (HB3.out.grown ha HB3.out.size (fun i hi => by have := (HO3.out.lt _ hi).1; omega)); have hsz4 := Nat.le_trans hsz3 ha.size; clear hownA ha hblk hlta HO3 HR3 HT3 HB3 hsz3 HNw HIt)
          go_wp2
          go_roundw
          case rel => exact ⟨zs ++ L, _, cnt1, HR4, HO4, HS2, HT4, HB4, hsz4⟩
          case measure => rw [HR4.out.left_eq, HLC.out]; exact hlt
        · have HS2 := Lib.hid (HPs.out hmin)
          clear HTk HPs
          go_wp2_with (first
            | (with_reducible refine wpList_store14 rfl (.tmp 8) (.tmp 16) rfl w1.heap.size (fun _ => false) (twN qs j).testBit rfl rfl HZ.out ?_)
            | (with_reducible refine wpList_load14 rfl (.tmp 8) rfl w1.heap.size (twN qs j).testBit rfl HP.out ?_)
            | (with_reducible refine wpList_load14 rfl (.tmp 4) rfl w.heap.size x.testBit rfl HT2.out ?_))
          refine (HAk.out _).mono ?_
          rintro e w7 ⟨rfl, hb⟩
          have HT3 := Lib.hid (HT2.out.step hb)
          have HB3 := Lib.hid (below_trans HB2.out hb)
          have HO3 := Lib.hid (HO2.out.kept (grown_none hb) (by cases u7.ownBlock <;> simp))
          have HR3 := Lib.hid (HR2.out.kept (grown_none hb) (by simp) (by simp))
          have hsz3 := Nat.le_trans hsz2 hb.size
          clear hb HT2 HB2 HR2 HO2 HP HZ hen hgv htv hsz2
          go_wp2
          go_roundw
          case rel => exact ⟨zs, _, cnt1, HR3, HO3, HS2, HT3, HB3, hsz3⟩
          case measure => rw [HR3.out.left_eq, HLC.out]; exact hlt
end Go.Proofs.Ythjkmfjhcohhbaa
