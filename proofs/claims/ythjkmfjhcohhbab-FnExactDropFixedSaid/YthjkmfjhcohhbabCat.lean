/- Two slices put together by the library; a list without one place. -/
import Derived.Test.YthjkmfjhcohhbabSOf
import Derived.Shelf.Spec.SlicesGrow
import Derived.Deep.RegionWith
import Derived.Deep.RegionHeldLaw
namespace Go.Proofs.Ythjkmfjhcohhbab
open Go.RowKit Go.ChangeShapes Go.WideShapes Go.Shelf
set_option linter.unusedVariables false

def growRen : Go.Shelf.Ren := ⟨fun | 4 => 239 | n => n, fun | 25 => 3 | n => n, fun | n => n⟩
theorem growLays : Lays8.n4 Try.prog growRen := {
  mixed := by kernel_rfl
  f4 := ⟨"slices.Grow[[]int,int]", by decide, Try.func239.trans (congrArg some (by kernel_rfl))⟩
  t0 := Try.underlying0
  a0 := Try.isAgg0
  z0 := Try.sizeOf0
  v0 := Try.zeroValue0
  t3 := Try.underlying3
  a3 := Try.isAgg3
  z3 := Try.sizeOf3
  v3 := Try.zeroValue3
  t4 := Try.underlying4
  a4 := Try.isAgg4
  z4 := Try.sizeOf4
  v4 := Try.zeroValue4
  t9 := Try.underlying9
  a9 := Try.isAgg9
  z9 := Try.sizeOf9
  v9 := Try.zeroValue9
  t20 := Try.underlying20
  a20 := Try.isAgg20
  z20 := Try.sizeOf20
  v20 := Try.zeroValue20
  t22 := Try.underlying22
  a22 := Try.isAgg22
  z22 := Try.sizeOf22
  v22 := Try.zeroValue22 }
theorem grow_nil (n : Nat) (w : World) (hn : n ≤ 1000) :
    Calls Try.prog 239 #[.slice none 0 0, .int .i64 (n : Int)] w fun e w' => ∃ v, e = .returned v ∧ w'.ownsRow w.heap.size 3 1 v 0 [] ∧ Below w.heap.size w w' := by
  by_cases h0 : n = 0
  · subst h0
    refine (Any8.slices_Grow_room growLays none 0 0 0 w (by omega) (by omega) (by omega) (by omega)).mono ?_
    rintro e w' ⟨rfl, rfl⟩
    exact ⟨_, rfl, World.ownsRow_nil _ _ _ _, Below.refl _ _⟩
  · obtain ⟨i0, hi0, hz0, hz1, hz2⟩ := info_parts infoI3
    have hG := grownCap_ge w (0 + n) 0 3
    have hM := grownCap_le_maxLen w (0 + n) 0 3 (by unfold maxLen; omega)
    refine (Any8.slices_Grow_grow growLays i0 (.int .i64 0) hi0 hz0 (by rw [hz1]; omega) none 0 0 n [] w (by omega) (by omega) (by rw [hz2]; omega) (by omega) (by simp) (fun _ => rfl) (fun a h => by cases h)).mono ?_
    rintro e w' ⟨rfl, rfl⟩
    have hM' : grownCap w (0 + n) 0 (growRen.t 25) ≤ maxLen := hM
    have hG' : 0 + n ≤ grownCap w (0 + n) 0 (growRen.t 25) := hG
    generalize grownCap w (0 + n) 0 (growRen.t 25) = G at hM' hG' ⊢
    refine ⟨_, rfl, ⟨rfl, .inr ⟨w.heap.size, G, _, rfl, Nat.le_refl _, alloc_row' _ _ _ _ rfl, by omega, hM', ?_, by simp⟩⟩, (below_drew1 (Below.refl _ _)).alloc (Nat.le_refl _) _⟩
    simp only [Array.size_append, size_zeroCells]
    simp [Value.cells]
    omega

theorem ones_int (l : List Int) : ∀ u ∈ l.map (Value.int .i64), u.oneCell' = true := fun u hu => by
  obtain ⟨x, _, rfl⟩ := List.mem_map.1 hu
  rfl
theorem news_past {B : Nat} {w w' : World} {ad : Addr} {l : List Int} (hp : Past B w w') (hb : ad.block < B) (h : ∀ j u, (l.map (Value.int .i64))[j]? = some u → w.cell? (ad.add j) = some u) : ∀ j u, (l.map (Value.int .i64))[j]? = some u → w'.cell? (ad.add j) = some u := fun j u hu => cell_past hp (h j u hu) (by
  have : (ad.add j).block = ad.block := by unfold Addr.add; split <;> rfl
  omega)
set_option maxRecDepth 100000 in
set_option maxHeartbeats 4000000 in
theorem concat2_any (g : Nat) (p1 p2 : Addr) (c1 c2 : Nat) (l1 l2 : List Int) (w : World) (hg : w.heap[g]? = some (.cells #[.slice (some p1) l1.length c1, .slice (some p2) l2.length c2] 22 (0, 0)))
    (h1 : ∀ j u, (l1.map (Value.int .i64))[j]? = some u → w.cell? (p1.add j) = some u) (h2 : ∀ j u, (l2.map (Value.int .i64))[j]? = some u → w.cell? (p2.add j) = some u)
    (hb1 : p1.block < w.heap.size) (hb2 : p2.block < w.heap.size) (hl1 : l1.length ≤ 100) (hl2 : l2.length ≤ 100) :
    Calls Try.prog 220 #[.slice (some ⟨g, 0, none⟩) 2 2] w fun e w' => ∃ v, e = .returned v ∧ w'.ownsRow w.heap.size 3 1 v (l1 ++ l2).length ((l1 ++ l2).map (Value.int .i64)) ∧ Below w.heap.size w w' := by
  obtain ⟨i0, hi0, hz0, hz1, hz2⟩ := info_parts infoI3
  have hglt := row_ltI hg
  have hc0 := two0 hg
  have hc1 := two1 hg
  have H1 := Lib.hid h1
  have H2 := Lib.hid h2
  have HGr := Lib.hid (fun W => grow_nil (l1.length + l2.length) W (by omega))
  clear h1 h2 hg
  go_enter Try.func220, Try.ntmps220
  go_wp2_with fail
  go_loopw [3, 11] (fun x i wr => ∃ (k s : Nat), k ≤ 2 ∧ i = .int .i64 k ∧ x = .int .i64 (s : Int) ∧ Hid (s = if k = 0 then 0 else if k = 1 then l1.length else l1.length + l2.length) ∧ wr = w) (fun _ i _ => 2 - (intOf i).toNat)
  case atStart => exact ⟨0, 0, Nat.zero_le _, rfl, rfl, Lib.hid rfl, rfl⟩
  case round =>
    obtain ⟨k, s, hk, rfl, rfl, HS, rfl⟩ := hrel
    by_cases k0 : k = 0
    · subst k0
      obtain rfl : s = 0 := HS.out
      go_wp2
      go_roundw
      case rel => exact ⟨1, l1.length, by omega, by go_num, by go_num, Lib.hid rfl, by first | trivial | rfl⟩
      case measure => simp [intOf]
    · by_cases k1 : k = 1
      · subst k1
        obtain rfl : s = l1.length := HS.out
        go_wp2
        go_roundw
        case rel => exact ⟨2, l1.length + l2.length, by omega, by go_num, by push_cast; rfl, Lib.hid rfl, by first | trivial | rfl⟩
        case measure => simp [intOf]
      · obtain rfl : k = 2 := by omega
        obtain rfl : s = l1.length + l2.length := HS.out
        go_wp2_with fail
        refine (HGr.out wr).mono ?_
        rintro e w1 ⟨v, rfl, ho, hb⟩
        have HO := Lib.hid ho
        have HB := Lib.hid hb
        clear ho hb
        go_wp2_with fail
        go_loopw [6, 27] (fun v i wq => ∃ (k : Nat) (l : List Int), k ≤ 2 ∧ i = .int .i64 k ∧ Hid (l = if k = 0 then [] else if k = 1 then l1 else l1 ++ l2) ∧ Hid (wq.ownsRow wr.heap.size 3 1 v l.length (l.map (Value.int .i64))) ∧ Hid (Past wr.heap.size wr wq)) (fun _ i _ => 2 - (intOf i).toNat)
        case atStart => exact ⟨0, [], Nat.zero_le _, rfl, Lib.hid rfl, HO, Past.of_below HB.out⟩
        case round =>
          clear HO HB
          obtain ⟨k, l, hk, rfl, HL, HO, HP⟩ := hrel
          rename World => wq
          have hsz := HP.out.size
          have q0 := cell_past HP.out hc0 hglt
          have q1 := cell_past HP.out hc1 hglt
          by_cases k0 : k = 0
          · subst k0
            obtain rfl : l = [] := HL.out
            have hown := HO.out
            have HN := Lib.hid (news_past HP.out hb1 H1.out)
            go_wp2_with (at_builtin; refine wpList_append_own _ rfl _ _ 22 rfl wr.heap.size 3 i0 (.int .i64 0) 1 8 Try.underlying22 hi0 hz0 hz1 hz2 rfl (by decide) _ _ _ rfl hown p1 l1.length c1 (l1.map (Value.int .i64)) rfl (by simp) HN.out (by simp [Value.oneCell']) (by simp; unfold maxLen; omega) (by simp; omega) hsz ?_; intro v' w2 hown' hgrow _)
            have HO2 : Hid (w2.ownsRow wr.heap.size 3 1 v' l1.length (l1.map (Value.int .i64))) := Lib.hid (by simpa using hown')
            have HP2 := Lib.hid (HP.out.trans (Past.of_within (within_grown hown hgrow) (Nat.le_refl _)))
            clear hown' hgrow hown HO
            go_wp2
            go_roundw
            case rel => exact ⟨1, l1, by omega, by go_num, Lib.hid rfl, HO2, HP2⟩
            case measure => simp [intOf]
          · by_cases k1 : k = 1
            · subst k1
              obtain rfl : l = l1 := HL.out
              have hown := HO.out
              have HN := Lib.hid (news_past HP.out hb2 H2.out)
              go_wp2_with (at_builtin; refine wpList_append_own _ rfl _ _ 22 rfl wr.heap.size 3 i0 (.int .i64 0) 1 8 Try.underlying22 hi0 hz0 hz1 hz2 rfl (by decide) _ _ _ rfl hown p2 l2.length c2 (l2.map (Value.int .i64)) rfl (by simp) HN.out (by simp [Value.oneCell']) (by unfold maxLen; omega) (by omega) hsz ?_; intro v' w2 hown' hgrow _)
              have HO2 : Hid (w2.ownsRow wr.heap.size 3 1 v' (l ++ l2).length ((l ++ l2).map (Value.int .i64))) := Lib.hid (by rw [List.length_append, List.map_append]; exact hown')
              have HP2 := Lib.hid (HP.out.trans (Past.of_within (within_grown hown hgrow) (Nat.le_refl _)))
              clear hown' hgrow hown HO
              go_wp2
              go_roundw
              case rel => exact ⟨2, l ++ l2, by omega, by go_num, Lib.hid rfl, HO2, HP2⟩
              case measure => simp [intOf]
            · obtain rfl : k = 2 := by omega
              obtain rfl : l = l1 ++ l2 := HL.out
              go_wp2
              go_ret
              exact ⟨_, rfl, HO.out, HP.out.below (Nat.le_refl _) (Nat.le_refl _)⟩

/-- The list without its place i. -/
def outL (l : List Int) (i : Nat) : List Int := l.take i ++ l.drop (i + 1)
theorem outL_len {l : List Int} {i : Nat} (h : i < l.length) : (outL l i).length = l.length - 1 := by simp [outL]; omega
theorem take_news {w : World} {b o : Nat} {l : List Int} (h : ∀ (j : Nat) (x : Int), l[j]? = some x → w.cell? ⟨b, o + j, none⟩ = some (.int .i64 x)) (i : Nat) : ∀ j u, ((l.take i).map (Value.int .i64))[j]? = some u → w.cell? ((⟨b, o, none⟩ : Addr).add j) = some u := fun j u hu => by
  have hadd : (⟨b, o, none⟩ : Addr).add j = ⟨b, o + j, none⟩ := by unfold Addr.add; split <;> simp_all
  rw [List.getElem?_map, Option.map_eq_some_iff] at hu
  obtain ⟨x, hx, rfl⟩ := hu
  have hj : j < i := by
    rcases Nat.lt_or_ge j i with h1 | h1
    · exact h1
    · rw [List.getElem?_take_eq_none h1] at hx; cases hx
  rw [List.getElem?_take_of_lt hj] at hx
  rw [hadd]
  exact h j x hx
theorem drop_news {w : World} {b o : Nat} {l : List Int} (h : ∀ (j : Nat) (x : Int), l[j]? = some x → w.cell? ⟨b, o + j, none⟩ = some (.int .i64 x)) (i : Nat) : ∀ j u, ((l.drop i).map (Value.int .i64))[j]? = some u → w.cell? ((⟨b, o + i, none⟩ : Addr).add j) = some u := fun j u hu => by
  have hadd : (⟨b, o + i, none⟩ : Addr).add j = ⟨b, o + (i + j), none⟩ := by
    unfold Addr.add
    split
    · simp_all
    · simp only [Nat.add_assoc]
  rw [List.getElem?_map, Option.map_eq_some_iff] at hu
  obtain ⟨x, hx, rfl⟩ := hu
  rw [List.getElem?_drop] at hx
  rw [hadd]
  exact h (i + j) x hx
set_option maxRecDepth 100000 in
set_option maxHeartbeats 4000000 in
theorem without_any (A : Option Addr) (c lo hi : Nat) (qs : List Int) (i : Nat) (w : World) (hS : Ins w lo hi A qs) (hl : qs.length ≤ 100) (hi_ : i < qs.length) (hc : qs.length ≤ c) (hcm : c ≤ 1048576) :
    Calls Try.prog 133 #[.slice A qs.length c, .int .i64 (i : Int)] w fun e w' => ∃ v, e = .returned v ∧ w'.ownsRow w.heap.size 3 1 v (outL qs i).length ((outL qs i).map (Value.int .i64)) ∧ Below w.heap.size w w' := by
  obtain ⟨b, o, rfl, _, hb, hcs⟩ := hS.ints (by omega)
  have htop := hS.top
  have HC := Lib.hid hcs
  clear hS hcs
  go_enter Try.func133, Try.ntmps133
  go_wp2_with fail
  have hlt1 : (qs.take i).length = i := by simp; omega
  have hlt2 : (qs.drop (i + 1)).length = qs.length - (i + 1) := by simp
  have hA2 : ((i : Int) + 1 ≤ (qs.length : Int)) := by omega
  have hA3 : (0 : Int) ≤ (i : Int) + 1 := by omega
  have hA4 : IntKind.i64.wrap ((i : Int) + 1) = (i : Int) + 1 := IntWalk.i64_in _ (by omega)
  have hA5 : ((i : Int) + 1).toNat = i + 1 := by omega
  by_cases hcap : c = i + 1
  · subst hcap
    have hG : ((w.alloc (.cells #[.slice (some ⟨b, o, none⟩) i (i + 1), .slice (some ⟨b, o, none⟩) 0 0] 22)).drew).heap[w.heap.size]? = some (.cells #[.slice (some ⟨b, o, none⟩) (qs.take i).length (i + 1), .slice (some ⟨b, o, none⟩) (qs.drop (i + 1)).length (0)] 22 (0, 0)) := by
      rw [hlt1, show (qs.drop (i + 1)).length = 0 by simp; omega]
      exact alloc_row' _ _ _ _ rfl
    have hB0 : Below w.heap.size w ((w.alloc (.cells #[.slice (some ⟨b, o, none⟩) i (i + 1), .slice (some ⟨b, o, none⟩) 0 0] 22)).drew) := below_drew1 ((Below.refl _ _).alloc (Nat.le_refl _) _)
    have hc' : ∀ (j : Nat) (x : Int), qs[j]? = some x → ((w.alloc (.cells #[.slice (some ⟨b, o, none⟩) i (i + 1), .slice (some ⟨b, o, none⟩) 0 0] 22)).drew).cell? ⟨b, o + j, none⟩ = some (.int .i64 x) := fun j x hx => (World.cell?_of_block (hB0.block b (by omega))).trans (HC.out j x hx)
    have HX := Lib.hid (concat2_any w.heap.size ⟨b, o, none⟩ ⟨b, o, none⟩ (i + 1) (0) (qs.take i) (qs.drop (i + 1)) _ hG (take_news hc' i) (by rw [List.drop_of_length_le (by omega)]; intro j u hu; simp at hu) (Nat.lt_of_lt_of_le (by show b < w.heap.size; omega) hB0.size) (Nat.lt_of_lt_of_le (by show b < w.heap.size; omega) hB0.size) (by rw [hlt1]; omega) (by rw [hlt2]; omega))
    have HB0 := Lib.hid hB0
    clear hG hc' hB0 hlt1 hlt2
    go_region_with ((go_at_call 220; refine HX.out.mono ?_; rintro e w2 ⟨v, rfl, ho, hb2⟩; have HO := Lib.hid (own_base ho HB0.out.size); have HB := Lib.hid (below_trans HB0.out hb2); clear ho hb2))
    all_goals
      go_wp2
      go_ret
      exact ⟨_, rfl, HO.out, HB.out⟩
  · have hcap1 : i + 1 < c := by omega
    have hcap2 : ¬ c ≤ i + 1 := by omega
    have hcap3 : ¬ i + 1 = c := by omega
    have hG : ((w.alloc (.cells #[.slice (some ⟨b, o, none⟩) i (c), .slice (some ⟨b, o + (i + 1), none⟩) (qs.length - (i + 1)) (c - (i + 1))] 22)).drew).heap[w.heap.size]? = some (.cells #[.slice (some ⟨b, o, none⟩) (qs.take i).length (c), .slice (some ⟨b, o + (i + 1), none⟩) (qs.drop (i + 1)).length (c - (i + 1))] 22 (0, 0)) := by
      rw [hlt1, hlt2]
      exact alloc_row' _ _ _ _ rfl
    have hB0 : Below w.heap.size w ((w.alloc (.cells #[.slice (some ⟨b, o, none⟩) i (c), .slice (some ⟨b, o + (i + 1), none⟩) (qs.length - (i + 1)) (c - (i + 1))] 22)).drew) := below_drew1 ((Below.refl _ _).alloc (Nat.le_refl _) _)
    have hc' : ∀ (j : Nat) (x : Int), qs[j]? = some x → ((w.alloc (.cells #[.slice (some ⟨b, o, none⟩) i (c), .slice (some ⟨b, o + (i + 1), none⟩) (qs.length - (i + 1)) (c - (i + 1))] 22)).drew).cell? ⟨b, o + j, none⟩ = some (.int .i64 x) := fun j x hx => (World.cell?_of_block (hB0.block b (by omega))).trans (HC.out j x hx)
    have HX := Lib.hid (concat2_any w.heap.size ⟨b, o, none⟩ ⟨b, o + (i + 1), none⟩ (c) (c - (i + 1)) (qs.take i) (qs.drop (i + 1)) _ hG (take_news hc' i) (drop_news hc' (i + 1)) (Nat.lt_of_lt_of_le (by show b < w.heap.size; omega) hB0.size) (Nat.lt_of_lt_of_le (by show b < w.heap.size; omega) hB0.size) (by rw [hlt1]; omega) (by rw [hlt2]; omega))
    have HB0 := Lib.hid hB0
    clear hG hc' hB0 hlt1 hlt2
    go_region_with ((go_at_call 220; refine HX.out.mono ?_; rintro e w2 ⟨v, rfl, ho, hb2⟩; have HO := Lib.hid (own_base ho HB0.out.size); have HB := Lib.hid (below_trans HB0.out hb2); clear ho hb2))
    all_goals
      go_wp2
      go_ret
      exact ⟨_, rfl, HO.out, HB.out⟩

set_option maxRecDepth 100000 in
set_option maxHeartbeats 2000000 in
theorem l1Own_any (p : Addr) (c : Nat) (l : List Int) (w : World) (h : ∀ j u, (l.map (Value.int .i64))[j]? = some u → w.cell? (p.add j) = some u) (hb : p.block < w.heap.size) (hl : l.length ≤ 1000) :
    Calls Try.prog 187 #[.slice (some p) l.length c] w fun e w' => ∃ v, e = .returned v ∧ w'.ownsRow w.heap.size 3 1 v l.length (l.map (Value.int .i64)) ∧ Below w.heap.size w w' := by
  obtain ⟨i0, hi0, hz0, hz1, hz2⟩ := info_parts infoI3
  have O0 := O0_any w w.heap.size (Nat.le_refl _)
  have HN := Lib.hid (news_past (Past.of_below ((Below.refl _ _).alloc (Nat.le_refl _) (.cells #[] 3))) hb h)
  have HP := Lib.hid (Past.of_below (B := w.heap.size) ((Below.refl w.heap.size w).alloc (Nat.le_refl _) (.cells #[] 3)))
  clear h
  go_enter Try.func187, Try.ntmps187
  go_wp2_with (at_builtin; refine wpList_append_own _ rfl _ _ 22 rfl w.heap.size 3 i0 (.int .i64 0) 1 8 Try.underlying22 hi0 hz0 hz1 hz2 rfl (by decide) _ _ _ rfl O0 p l.length c (l.map (Value.int .i64)) rfl (by simp) HN.out (by simp [Value.oneCell']) (by unfold maxLen; omega) (by omega) (by simp) ?_; intro v' w2 hown' hgrow _)
  have HO2 : Hid (w2.ownsRow w.heap.size 3 1 v' l.length (l.map (Value.int .i64))) := Lib.hid (by simpa using hown')
  have HP2 := Lib.hid (HP.out.trans (Past.of_within (within_grown O0 hgrow) (Nat.le_refl _)))
  clear hown' hgrow O0
  go_wp2
  go_ret
  exact ⟨_, rfl, HO2.out, HP2.out.below (Nat.le_refl _) (Nat.le_refl _)⟩
set_option maxRecDepth 100000 in
set_option maxHeartbeats 4000000 in
theorem l5Drop_any (A : Option Addr) (c lo hi : Nat) (qs : List Int) (i : Nat) (w : World) (hS : Ins w lo hi A qs) (hl : qs.length ≤ 100) (hi_ : i < qs.length) (hc : qs.length ≤ c) (hcm : c ≤ 1048576) :
    Calls Try.prog 132 #[.slice A qs.length c, .int .i64 (i : Int)] w fun e w' => ∃ v, e = .returned v ∧ w'.ownsRow w.heap.size 3 1 v (outL qs i).length ((outL qs i).map (Value.int .i64)) ∧ Below w.heap.size w w' := by
  obtain ⟨i0, hi0, hz0, hz1, hz2⟩ := info_parts infoI3
  obtain ⟨b, o, rfl, _, hb, hcs⟩ := hS.ints (by omega)
  have htop := hS.top
  have HC := Lib.hid hcs
  clear hS hcs
  go_enter Try.func132, Try.ntmps132
  go_wp2_with fail
  have hlt1 : (qs.take i).length = i := by simp; omega
  have hA2 : ((i : Int) + 1 ≤ (qs.length : Int)) := by omega
  have hA3 : (0 : Int) ≤ (i : Int) + 1 := by omega
  have hA4 : IntKind.i64.wrap ((i : Int) + 1) = (i : Int) + 1 := IntWalk.i64_in _ (by omega)
  have hA5 : ((i : Int) + 1).toNat = i + 1 := by omega
  by_cases hcap : c = i + 1
  · subst hcap
    have hI : ((i : Int) ≤ (i : Int) + 1) := by omega
    have hc' : ∀ (j : Nat) (x : Int), qs[j]? = some x → w.drew.cell? ⟨b, o + j, none⟩ = some (.int .i64 x) := fun j x hx => HC.out j x hx
    have HX := Lib.hid (l1Own_any ⟨b, o, none⟩ (i + 1) (qs.take i) w.drew (take_news hc' i) (by show b < w.heap.size; omega) (by rw [hlt1]; omega))
    rw [hlt1] at HX
    have HN : Hid (∀ j u, ((qs.drop (i + 1)).map (Value.int .i64))[j]? = some u → w.drew.cell? ((⟨b, o, none⟩ : Addr).add j) = some u) := Lib.hid (by rw [List.drop_of_length_le (by omega)]; intro j u hu; simp at hu)
    have HLn : Hid (((qs.drop (i + 1)).map (Value.int .i64)).length = 0 * 1) := Lib.hid (by rw [List.drop_of_length_le (by omega)]; rfl)
    have HLo : Hid (outL qs i = qs.take i ++ qs.drop (i + 1)) := Lib.hid rfl
    have HOl : Hid ((outL qs i).length = i + 0) := Lib.hid (by unfold outL; rw [List.length_append, hlt1]; simp; try omega)
    clear hc' hlt1
    go_region_law (first
      | (go_simp; go_at_call 187; refine HX.out.mono ?_; rintro e w1 ⟨v, rfl, ho, hb1⟩; have HO := Lib.hid ho; have HB := Lib.hid (below_trans (below_drew1 (Below.refl w.heap.size w)) hb1); have HN1 := Lib.hid (news_past (Past.of_below hb1) (by show b < w.heap.size; omega) HN.out); have hsz1 : w.heap.size ≤ w1.heap.size := hb1.size; clear ho hb1)
      | (rw [if_pos (by simp [Region.wanted])]; refine wp_append_own w1 (.tmp 8) (.tmp 12) 22 rfl w.heap.size 3 i0 (.int .i64 0) 1 8 Try.underlying22 hi0 hz0 hz1 hz2 rfl (by decide) v i ((qs.take i).map (Value.int .i64)) rfl HO.out ⟨b, o, none⟩ 0 (0) ((qs.drop (i + 1)).map (Value.int .i64)) rfl HLn.out HN1.out (ones_int _) (by unfold maxLen; omega) (by omega) hsz1 ?_; intro v' w2 hown' hgrow _; have HO2 : Hid (w2.ownsRow w.heap.size 3 1 v' (outL qs i).length ((outL qs i).map (Value.int .i64))) := Lib.hid (by rw [HOl.out, HLo.out, List.map_append]; exact hown'); have HB2 := Lib.hid (HB.out.grown hgrow HB.out.size (fun j hj => (HO.out.lt j hj).1)); clear hown' hgrow HO HB))
    all_goals
      go_wp2
      go_ret
      exact ⟨_, rfl, HO2.out, HB2.out⟩
  · have hI : i ≤ c := by omega
    have hcap1 : i + 1 < c := by omega
    have hcap2 : ¬ c ≤ i + 1 := by omega
    have hcap3 : ¬ i + 1 = c := by omega
    have hc' : ∀ (j : Nat) (x : Int), qs[j]? = some x → w.drew.cell? ⟨b, o + j, none⟩ = some (.int .i64 x) := fun j x hx => HC.out j x hx
    have HX := Lib.hid (l1Own_any ⟨b, o, none⟩ c (qs.take i) w.drew (take_news hc' i) (by show b < w.heap.size; omega) (by rw [hlt1]; omega))
    rw [hlt1] at HX
    have HN : Hid (∀ j u, ((qs.drop (i + 1)).map (Value.int .i64))[j]? = some u → w.drew.cell? ((⟨b, o + (i + 1), none⟩ : Addr).add j) = some u) := Lib.hid (drop_news hc' (i + 1))
    have HLn : Hid (((qs.drop (i + 1)).map (Value.int .i64)).length = (qs.length - (i + 1)) * 1) := Lib.hid (by simp)
    have HLo : Hid (outL qs i = qs.take i ++ qs.drop (i + 1)) := Lib.hid rfl
    have HOl : Hid ((outL qs i).length = i + (qs.length - (i + 1))) := Lib.hid (by unfold outL; rw [List.length_append, hlt1]; simp; try omega)
    clear hc' hlt1
    go_region_law (first
      | (go_simp; go_at_call 187; refine HX.out.mono ?_; rintro e w1 ⟨v, rfl, ho, hb1⟩; have HO := Lib.hid ho; have HB := Lib.hid (below_trans (below_drew1 (Below.refl w.heap.size w)) hb1); have HN1 := Lib.hid (news_past (Past.of_below hb1) (by show b < w.heap.size; omega) HN.out); have hsz1 : w.heap.size ≤ w1.heap.size := hb1.size; clear ho hb1)
      | (rw [if_pos (by simp [Region.wanted])]; refine wp_append_own w1 (.tmp 8) (.tmp 12) 22 rfl w.heap.size 3 i0 (.int .i64 0) 1 8 Try.underlying22 hi0 hz0 hz1 hz2 rfl (by decide) v i ((qs.take i).map (Value.int .i64)) rfl HO.out ⟨b, o + (i + 1), none⟩ (qs.length - (i + 1)) (c - (i + 1)) ((qs.drop (i + 1)).map (Value.int .i64)) rfl HLn.out HN1.out (ones_int _) (by unfold maxLen; omega) (by omega) hsz1 ?_; intro v' w2 hown' hgrow _; have HO2 : Hid (w2.ownsRow w.heap.size 3 1 v' (outL qs i).length ((outL qs i).map (Value.int .i64))) := Lib.hid (by rw [HOl.out, HLo.out, List.map_append]; exact hown'); have HB2 := Lib.hid (HB.out.grown hgrow HB.out.size (fun j hj => (HO.out.lt j hj).1)); clear hown' hgrow HO HB))
    all_goals
      go_wp2
      go_ret
      exact ⟨_, rfl, HO2.out, HB2.out⟩
end Go.Proofs.Ythjkmfjhcohhbab
