/- l4Splits. -/
import Derived.Test.YthpnkeecpaflfaaSplM
namespace Go.Proofs.Ythpnkeecpaflfaa
open Go.RowKit Go.ChangeShapes Go.WideShapes
set_option linter.unusedVariables false

theorem past_alloc {B : Nat} {a w : World} (h : Past B a w) (o : Obj) : Past B a (w.alloc o) := h.trans (Past.of_below ((Below.refl _ w).alloc (Nat.le_refl _) o))
theorem past_base {B B' : Nat} {a w : World} (h : Past B a w) (hb : B' ≤ B) : Past B' a w := ⟨h.os, h.tape, h.output, h.size, fun i hi hl => h.block i hi (by omega)⟩

set_option maxRecDepth 100000 in
set_option maxHeartbeats 8000000 in
theorem l4Splits_any (A : Option Addr) (c lo hi p : Nat) (r : Row) (w : World) (hS : Ins w lo hi A (lstR p r)) (hw : Wide p r) (h8 : rsum r ≤ 8) :
    Calls Try.prog 50 #[.slice A p c] w fun e w' => ∃ v, e = .returned v ∧ Rows2 w' w.heap.size v (splAll p r) ∧ Below w.heap.size w w' := by
  have hp := hw.le
  obtain ⟨i0, hi0, hz0, hz1, hz2⟩ := info_parts infoI3
  obtain ⟨j0, hj0, hy0, hy1, hy2⟩ := info_parts infoS
  have HS := Lib.hid hS
  have htop := hS.top
  have HL := Lib.hid (lst_len hp r)
  have HA := Lib.hid (fun k (h : k < p) => lst_at hp r h (by rw [lst_len hp]; exact h))
  have HC8 := Lib.hid (fun i => comp_le h8 i)
  have HF := Lib.hid (spl_ok hw h8).1
  have H48 := Lib.hid (spl_ok hw h8).2
  have HE := Lib.hid (fun i l h => @spl_elem p r i l h)
  have hB0 := ((Below.refl w.heap.size w).alloc (Nat.le_refl _) (.cells #[] 3)).alloc (((Below.refl w.heap.size w).alloc (Nat.le_refl _) (.cells #[] 3)).size) (.cells #[.slice (some ⟨w.heap.size, 0, none⟩) 0 0] 24)
  have HR0 : Hid (Rows2 ((w.alloc (.cells #[] 3)).alloc (.cells #[.slice (some ⟨w.heap.size, 0, none⟩) 0 0] 24)) w.heap.size (.slice (some ⟨w.heap.size + 1, 0, none⟩) 1 1) (spl p r 0)) := Lib.hid (by
    refine ⟨[.slice (some ⟨w.heap.size, 0, none⟩) 0 0], ⟨rfl, .inr ⟨w.heap.size + 1, 1, #[.slice (some ⟨w.heap.size, 0, none⟩) 0 0], rfl, Nat.le_succ _, alloc_row' _ _ _ _ (by simp), Nat.le_refl _, by decide, rfl, rfl⟩⟩, fun i hi => ?_⟩
    have hi0 : i = 0 := by simp [spl] at hi; exact hi
    subst hi0
    refine ⟨w.heap.size, 0, rfl, Nat.le_refl _, own_same (w := w.alloc (.cells #[] 3)) ?_ (((Below.refl _ (w.alloc (.cells #[] 3))).alloc (Nat.le_refl _) _).block _ (by simp))⟩
    exact .inr ⟨w.heap.size, #[], rfl, Nat.le_refl _, Nat.lt_succ_self _, alloc_row w _ _, Nat.le_refl _, fun j x hx => by simp [spl] at hx⟩)
  have HP0 := Lib.hid (Past.of_below hB0 : Past w.heap.size w _)
  clear hS hB0
  go_enter Try.func50, Try.ntmps50
  go_wp2_with fail
  generalize (w.alloc (.cells #[] 3)).alloc (.cells #[.slice (some ⟨w.heap.size, 0, none⟩) 0 0] 24) = wa at HR0 HP0 ⊢
  generalize (Value.slice (some ⟨w.heap.size + 1, 0, none⟩) 1 1) = v0 at HR0 ⊢
  go_loopw [3, 4] (fun v i wr => ∃ (n : Nat), n ≤ p ∧ i = .int .i64 n ∧ Hid (Rows2 wr w.heap.size v (spl p r n)) ∧ Hid (Past w.heap.size w wr)) (fun _ i _ => p - (intOf i).toNat)
  case atStart => exact ⟨0, Nat.zero_le _, rfl, HR0, HP0⟩
  case round =>
    clear HR0 HP0
    obtain ⟨n, hn, rfl, HR, HP⟩ := hrel
    rename World => w1
    by_cases hlt : n < p
    · have h48 := H48.out n (by omega)
      have h48b := H48.out (n + 1) (by omega)
      have HEn := Lib.hid (fun l h => HE.out n l h)
      have HSt : Hid (spl p r (n + 1) = splStep (spl p r n) (compR r (3 - p + n))) := Lib.hid rfl
      rw [HSt.out, splStep_len] at h48b
      have hm8 := HC8.out (3 - p + n)
      have hcz := HA.out n hlt
      generalize compR r (3 - p + n) = m at HSt h48b hm8 hcz
      generalize spl p r n = L at HR h48 h48b HEn HSt
      have HN0 := Lib.hid (rows2_nil w1 w1.heap.size (Nat.le_refl _))
      have HQ0 := Lib.hid (Past.of_below ((Below.refl _ w1).alloc (Nat.le_refl _) (.cells #[] 24)) : Past w1.heap.size w1 _)
      have hszr := HP.out.size
      obtain ⟨Ao, co, rfl⟩ := HR.out.slice
      go_wp2_with fail
      generalize w1.alloc (.cells #[] 24) = wb at HN0 HQ0 ⊢
      generalize (Value.slice (some ⟨w1.heap.size, 0, none⟩) 0 0) = nv at HN0 ⊢
      go_loopw [5, 6] (fun v i wq => ∃ (x : Nat), x ≤ L.length ∧ i = .int .i64 x ∧ Hid (Rows2 wq w1.heap.size v (splPart L m x 0)) ∧ Hid (Past w1.heap.size w1 wq)) (fun _ i _ => L.length - (intOf i).toNat)
      case atStart => exact ⟨0, Nat.zero_le _, rfl, by rw [splPart_zero]; exact HN0, HQ0⟩
      case round =>
        clear HN0 HQ0
        obtain ⟨x, hx, rfl, HN, HQ⟩ := hrel
        rename World => w2
        by_cases hxl : x < L.length
        · go_wp2_with fail
          go_loopw [5, 7] (fun v i wq => ∃ (k : Nat), k ≤ m + 1 ∧ i = .int .i64 k ∧ Hid (Rows2 wq w1.heap.size v (splPart L m x k)) ∧ Hid (Past w1.heap.size w1 wq)) (fun _ i _ => m + 1 - (intOf i).toNat)
          case atStart => exact ⟨0, Nat.zero_le _, rfl, HN, HQ⟩
          case round =>
            clear HN HQ
            obtain ⟨k, hk, rfl, HN, HQ⟩ := hrel
            rename World => w3
            obtain ⟨b, o, rfl, _, hb, hc⟩ := ((HS.out.past HP.out htop).past HQ.out (by omega)).ints.at_ (k := n) (by rw [HL.out]; exact hlt)
            rw [hcz] at hc
            by_cases hkm : k ≤ m
            · have HRo := HR.out.past HQ.out
              obtain ⟨gb, cap, ge, ce, hve, hcell, hge, hOw⟩ := HRo.at_ hxl
              have hlx : L[x].length ≤ 12 := by have := HEn.out _ (List.getElem_mem hxl); omega
              injection hve with hA hl hcap
              subst hA hcap
              have HC := Lib.hid (l1OwnS_any ge ce L[x] w3 hOw hlx)
              have HMo := Lib.hid (splPart_more L m x k)
              rw [show L.getD x [] = L[x] by simp [List.getD, hxl]] at HMo
              have hpl := splPart_len (L := L) (m := m) (x := x) (k := k) (by omega)
              have hxm : x * (m + 1) + (m + 1) ≤ L.length * (m + 1) := by
                have := Nat.mul_le_mul_right (m + 1) (show x + 1 ≤ L.length by omega)
                rw [Nat.succ_mul] at this
                exact this
              have hpl2 : (splPart L m x k).length ≤ 60 := by omega
              generalize splPart L m x k = F at HN HMo hpl2
              clear hpl hxm hOw
              obtain ⟨vs, ho, he⟩ := HN.out.ex
              have HO := Lib.hid ho
              have HHe := Lib.hid he
              have hszq := HQ.out.size
              generalize L[x] = l at hcell hlx HC HMo
              clear ho he HN HRo
              go_wp2_with fail
              refine HC.out.mono ?_
              rintro e w4 ⟨v4, rfl, hown4, hb4⟩
              have HP4 := Lib.hid (Past.of_below hb4 : Past w3.heap.size w3 w4)
              have hsz4 := hb4.size
              have HO4 := Lib.hid hown4
              clear hb4 hown4 HC
              go_wp2_with (first
                | (at_builtin; refine wpList_append_own _ rfl (.tmp 36) (.tmp 38) 24 rfl w3.heap.size 3 i0 (.int .i64 0) 1 8 Try.underlying24 hi0 hz0 hz1 hz2 rfl (by decide) v4 l.length (l.map (Value.int .i64)) rfl (HO4.out.alloc _) ⟨w4.heap.size, 0, none⟩ 1 1 [.int .i64 (k : Int)] rfl rfl (cell_one_new _ _ _) (by simp [Value.oneCell']) (by unfold maxLen; omega) (by omega) (by simp; omega) ?_; intro v5 w5 hown5 hg5 hx5; have HP5 := Lib.hid (HP4.out.trans (Past.grown HO4.out hg5)); have hown5b : w5.ownsRow w3.heap.size 3 1 v5 (l.length + 1) ((l ++ [(k : Int)]).map (Value.int .i64)) := (by simpa using hown5); obtain ⟨g5, c5, hv5, hB5, hOw5⟩ := own_rowS hown5b (by simp) (by omega); subst hv5; have HW5 := Lib.hid hOw5; have hsz5 := HP5.out.size; clear hown5 hg5 hx5 hown5b hOw5)
                | (at_builtin; refine wpList_append_own _ rfl (.tmp 31) (.tmp 40) 46 rfl w1.heap.size 24 j0 (.slice none 0 0) 1 24 Try.underlying46 hj0 hy0 hy1 hy2 rfl (by decide) u5 F.length vs rfl (ownsRow_past HO.out (past_alloc HP5.out _)) ⟨w5.heap.size, 0, none⟩ 1 1 [.slice (some ⟨g5, 0, none⟩) (l.length + 1) c5] rfl rfl (cell_one_new _ _ _) (by simp [Value.oneCell']) (by unfold maxLen; omega) (by omega) (by simp; omega) ?_; intro v8 w8 hown8 hg8 hx8; rw [show l.length + 1 = (l ++ [(k : Int)]).length by simp] at hown8 hg8; have HN8 := Lib.hid (Rows2.snoc (ownsRow_past HO.out (past_alloc HP5.out _)) (he_past HHe.out (past_alloc HP5.out _)) hown8 hg8 (by omega) (own_same HW5.out (((Below.refl _ w5).alloc (Nat.le_refl _) _).block _ (own_lt HW5.out)))); have HQ8 := Lib.hid (HQ.out.trans ((past_base (past_alloc HP5.out (.cells #[.slice (some ⟨g5, 0, none⟩) (l ++ [(k : Int)]).length c5] 24)) hszq).trans (Past.of_within (within_grown (ownsRow_past HO.out (past_alloc HP5.out _)) hg8) (Nat.le_refl _)))); clear hown8 hg8 hx8))
              go_wp2
              go_roundw
              case rel => exact ⟨k + 1, by omega, by go_num, by rw [HMo.out]; exact HN8, HQ8⟩
              case measure => simp [intOf]; omega
            · obtain rfl : k = m + 1 := by omega
              rw [splPart_next hxl] at HN
              go_wp2
              go_roundw
              case rel => exact ⟨x + 1, by omega, by go_num, HN, HQ⟩
              case measure => simp [intOf]; omega
        · obtain rfl : x = L.length := by omega
          rw [splPart_all, ← HSt.out] at HN
          go_wp2
          go_roundw
          case rel => exact ⟨n + 1, by omega, by go_num, Lib.hid (HN.out.base hszr), Lib.hid (HP.out.trans (past_base HQ.out hszr))⟩
          case measure => simp [intOf]; omega
    · obtain rfl : n = p := by omega
      rw [HF.out] at HR
      go_wp2
      go_ret
      exact ⟨_, rfl, HR.out, HP.out.below (Nat.le_refl _) (Nat.le_refl _)⟩
end Go.Proofs.Ythpnkeecpaflfaa
