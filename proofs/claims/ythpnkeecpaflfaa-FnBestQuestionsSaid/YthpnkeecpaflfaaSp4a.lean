/- The specification's counts: what a split leaves, yes, no, told, key, same. -/
import Derived.Test.YthpnkeecpaflfaaSpl4
import Derived.Test.YthpnkeecpaflfaaCopy
import Derived.Test.YthpnkeecpaflfaaAfter2
import Derived.Deep.AppendLies
namespace Go.Proofs.Ythpnkeecpaflfaa
open Go.RowKit Go.ChangeShapes Go.WideShapes
set_option linter.unusedVariables false

def compR (r : Row) : Nat → Nat
  | 0 => r.1
  | 1 => r.2.1
  | _ => r.2.2
theorem lst_comp {p : Nat} (hp : 1 ≤ p ∧ p ≤ 3) (r : Row) : lstR p r = (List.range p).map fun k => ((compR r (3 - p + k) : Nat) : Int) := by
  obtain rfl | rfl | rfl : p = 1 ∨ p = 2 ∨ p = 3 := by omega
  all_goals rfl
theorem lst_len {p : Nat} (hp : 1 ≤ p ∧ p ≤ 3) (r : Row) : (lstR p r).length = p := by rw [lst_comp hp]; simp
theorem lst_at {p k : Nat} (hp : 1 ≤ p ∧ p ≤ 3) (r : Row) (hk : k < p) (h : k < (lstR p r).length) : (lstR p r)[k] = ((compR r (3 - p + k) : Nat) : Int) := by
  have : (lstR p r)[k]? = some ((compR r (3 - p + k) : Nat) : Int) := by rw [lst_comp hp]; simp [hk]
  rw [List.getElem?_eq_getElem h] at this
  exact Option.some.inj this
theorem comp_le {r : Row} (h8 : rsum r ≤ 8) (i : Nat) : compR r i ≤ 8 := by
  unfold rsum at h8
  match i with
  | 0 => simp only [compR]; omega
  | 1 => simp only [compR]; omega
  | _ + 2 => simp only [compR]; omega
theorem comp_fit {r s : Row} (h : Fits s r) (i : Nat) : compR s i ≤ compR r i := by
  unfold Fits at h
  match i with
  | 0 => simp only [compR]; omega
  | 1 => simp only [compR]; omega
  | _ + 2 => simp only [compR]; omega
theorem comp_left {r s : Row} (i : Nat) : compR (leftR r s) i = compR r i - compR s i := by
  match i with
  | 0 => rfl
  | 1 => rfl
  | _ + 2 => rfl
theorem comp_yes {r s : Row} {i : Nat} (h : i < 2) : compR (yesR r s) (i + 1) = compR s (i + 1) + compR (leftR r s) i := by
  match i with
  | 0 => rfl
  | 1 => rfl
theorem comp_yes0 {r s : Row} : compR (yesR r s) 0 = compR s 0 := rfl
theorem wide_comp {p : Nat} {r : Row} (h : Wide p r) {i : Nat} (hi : i < 3 - p) : compR r i = 0 := by
  rcases h with ⟨h1, h2, h3⟩ | ⟨h1, h2⟩ | h1
  · subst h1
    match i, hi with
    | 0, _ => exact h2
    | 1, _ => exact h3
  · subst h1
    match i, hi with
    | 0, _ => exact h2
  · subst h1; omega
theorem take_snoc {p k : Nat} (hp : 1 ≤ p ∧ p ≤ 3) (r : Row) (hk : k < p) : (lstR p r).take (k + 1) = (lstR p r).take k ++ [((compR r (3 - p + k) : Nat) : Int)] := by
  rw [List.take_succ_eq_append_getElem (by rw [lst_len hp]; exact hk), lst_at hp r hk]

set_option maxRecDepth 100000 in
set_option maxHeartbeats 4000000 in
theorem l4Rest_any (A : Option Addr) (c lo hi : Nat) (A2 : Option Addr) (c2 lo2 hi2 : Nat) (p : Nat) (r s : Row) (w : World) (hS : Ins w lo hi A (lstR p r)) (hS2 : Ins w lo2 hi2 A2 (lstR p s)) (hp : 1 ≤ p ∧ p ≤ 3) (h8 : rsum r ≤ 8) (hf : Fits s r) :
    Calls Try.prog 76 #[.slice A p c, .slice A2 p c2] w fun e w' => ∃ v, e = .returned v ∧ w'.ownsRow w.heap.size 3 1 v p ((lstR p (leftR r s)).map (Value.int .i64)) ∧ Below w.heap.size w w' := by
  obtain ⟨i0, hi0, hz0, hz1, hz2⟩ := info_parts infoI3
  have hB0 := (Below.refl w.heap.size w).alloc (Nat.le_refl _) (.cells #[] 3)
  have HO0 := Lib.hid (O0_any w w.heap.size (Nat.le_refl _))
  have HP0 := Lib.hid (Past.of_below hB0 : Past w.heap.size w (w.alloc (.cells #[] 3)))
  have HS := Lib.hid hS
  have HS2 := Lib.hid hS2
  have htop := hS.top
  have htop2 := hS2.top
  have HT := Lib.hid (fun k (h : k < p) => take_snoc hp (leftR r s) h)
  have HA := Lib.hid (fun k (h : k < p) => lst_at hp r h (by rw [lst_len hp]; exact h))
  have HA2 := Lib.hid (fun k (h : k < p) => lst_at hp s h (by rw [lst_len hp]; exact h))
  have HL := Lib.hid (lst_len hp r)
  have HL2 := Lib.hid (lst_len hp s)
  have HL3 := Lib.hid (lst_len hp (leftR r s))
  have HCL := Lib.hid (fun i => @comp_left r s i)
  have HC8 := Lib.hid (fun i => comp_le h8 i)
  have HCF := Lib.hid (fun i => comp_fit hf i)
  clear hS hS2 hB0
  go_enter Try.func76, Try.ntmps76
  go_wp2_with fail
  generalize w.alloc (.cells #[] 3) = wa at HO0 HP0 ⊢
  generalize (Value.slice (some ⟨w.heap.size, 0, none⟩) 0 0) = v0 at HO0 ⊢
  go_loopw [5, 6] (fun v i wr => ∃ (k : Nat), k ≤ p ∧ i = .int .i64 k ∧ Hid (wr.ownsRow w.heap.size 3 1 v k (((lstR p (leftR r s)).take k).map (Value.int .i64))) ∧ Hid (Past w.heap.size w wr)) (fun _ i _ => p - (intOf i).toNat)
  case atStart => exact ⟨0, Nat.zero_le _, rfl, by simpa using HO0, HP0⟩
  case round =>
    clear HO0 HP0
    obtain ⟨k, hk, rfl, HO, HP⟩ := hrel
    by_cases hlt : k < p
    · obtain ⟨b, o, rfl, _, hb, hc⟩ := (HS.out.past HP.out htop).ints.at_ (k := k) (by rw [HL.out]; exact hlt)
      obtain ⟨b2, o2, rfl, _, hb2, hc2⟩ := (HS2.out.past HP.out htop2).ints.at_ (k := k) (by rw [HL2.out]; exact hlt)
      rw [HA.out k hlt] at hc
      rw [HA2.out k hlt] at hc2
      have h1 := HC8.out (3 - p + k)
      have h2 := HCF.out (3 - p + k)
      have HTk : Hid ((lstR p (leftR r s)).take (k + 1) = (lstR p (leftR r s)).take k ++ [(compR r (3 - p + k) : Int) - (compR s (3 - p + k) : Int)]) := Lib.hid (by
        rw [HT.out k hlt, HCL.out]
        congr 2
        omega)
      generalize compR r (3 - p + k) = x at hc h1 h2 HTk
      generalize compR s (3 - p + k) = y at hc2 h2 HTk
      have HlT : Hid (((lstR p (leftR r s)).take k).length = k) := Lib.hid (by rw [List.length_take, HL3.out]; omega)
      generalize (lstR p (leftR r s)).take k = f at HO HTk HlT
      have hkI : (k : Int) < (p : Int) := by omega
      have hsz := HP.out.size
      go_wp2_with fail
      go_region_law (first
        | (rw [if_pos (by simp [Region.wanted])]; generalize hX : (IntKind.i64.wrap ((x : Int) - (y : Int))) = X; refine wp_append_lies _ (.tmp 14) (.tmp 24) 24 rfl w.heap.size 3 i0 (.int .i64 0) 1 8 Try.underlying24 hi0 hz0 hz1 hz2 rfl (by decide) u5 k (f.map (Value.int .i64)) rfl (HO.out.alloc _) ⟨wr.heap.size, 0, none⟩ 1 1 [.int .i64 X] rfl rfl (cell_one_new _ _ _) (fun u hu => by rw [List.mem_singleton.1 hu]; rfl) (by decide) (by unfold maxLen; omega) (by omega) (Nat.le_trans hsz (Nat.le_of_lt (by simp))) _ rfl ?_; intro g cap w5 hown hgrow hat hlt5; have hXe := hX; rw [IntWalk.i64_in _ (by omega)] at hXe; have HO5 := Lib.hid hown; have hg5 : (wr.alloc (.cells #[.int .i64 X] 3)).grownBy w5 u5.ownBlock := ⟨hgrow.os, hgrow.tape, hgrow.output, hgrow.size, hgrow.block⟩; have HP5 := Lib.hid (HP.out.trans (Past.grown HO.out hg5)); clear hg5; clear hX hown hgrow hat hlt5))
      all_goals
        go_wp2
        go_roundw
        case rel => exact ⟨k + 1, by omega, by go_num, Lib.hid (by rw [HTk.out, List.map_append, hXe]; exact HO5.out), HP5⟩
        case measure => simp [intOf]; omega
    · obtain rfl : k = p := by omega
      have HE : Hid ((lstR k (leftR r s)).take k = lstR k (leftR r s)) := Lib.hid (by rw [List.take_of_length_le (by rw [HL3.out]; exact Nat.le_refl _)])
      rw [HE.out] at HO
      go_wp2
      go_ret
      exact ⟨_, rfl, HO.out, HP.out.below (Nat.le_refl _) (Nat.le_refl _)⟩
end Go.Proofs.Ythpnkeecpaflfaa
