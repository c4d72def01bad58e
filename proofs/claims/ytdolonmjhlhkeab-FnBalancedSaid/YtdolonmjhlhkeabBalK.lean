/- The law FnBalanced: the code that is cut, of whatever code. -/
import Derived.Test.YtdolonmjhlhkeabCutV
import Derived.Test.YtdolonmjhlhkeabCur
namespace Go.Proofs.Ytdolonmjhlhkeab
open Go.RowKit Go.ChangeShapes Go.WideShapes
set_option linter.unusedVariables false

set_option maxRecDepth 100000 in
set_option maxHeartbeats 4000000 in
theorem vCut_none2 (A : Option Addr) (c : Nat) (w : World) (hcm : c ≤ maxLen) (hA : A = none → c = 0) :
    Calls Try.prog 17 #[.slice A 0 c, .int .i64 1] w (Cut1 w) := by
  unfold maxLen at hcm
  obtain ⟨i0, hi0, hy0, hy1, hy2⟩ := info_parts infoB8
  have HY := Lib.hid ((O0B_any w w.heap.size (Nat.le_refl _)).alloc (.cells #[.int .u8 ((0 : UInt8).toNat : Int)] 5))
  have HZ := Lib.hid (cell_one_new (w.alloc (.cells #[] 5)) (.int .u8 ((0 : UInt8).toNat : Int)) 5)
  rw [show (w.alloc (.cells #[] 5)).heap.size = w.heap.size + 1 by simp] at HZ
  cases A with
  | none =>
    obtain rfl := hA rfl
    clear hA
    go_enter Try.func17, Try.ntmps17
    go_wp2_with (at_builtin; refine wpList_append_own ((w.alloc (.cells #[] 5)).alloc (.cells #[.int .u8 ((0 : UInt8).toNat : Int)] 5)) rfl _ _ 22 rfl w.heap.size 5 i0 (.int .u8 0) 1 1 Try.underlying22 hi0 hy0 hy1 hy2 rfl (by decide) (.slice (some ⟨w.heap.size, 0, none⟩) 0 0) 0 [] rfl HY.out ⟨w.heap.size + 1, 0, none⟩ 1 1 [.int .u8 ((0 : UInt8).toNat : Int)] rfl rfl HZ.out (by simp [Value.oneCell']) (by unfold maxLen; omega) (by omega) (by simp; omega) ?_; intro v2 w2 hown2 hgrow2 hnil2)
    obtain ⟨A', c', hv, h1, h2, h3⟩ := cut1_end HY.out hown2 hgrow2
    subst hv
    clear hown2 hgrow2 hnil2 HY HZ
    go_ret
    exact ⟨A', c', rfl, h1, h2, h3⟩
  | some a =>
    obtain ⟨b, o, spot⟩ := a
    clear hA
    go_enter Try.func17, Try.ntmps17
    go_wp2_with (at_builtin; refine wpList_append_own ((w.alloc (.cells #[] 5)).alloc (.cells #[.int .u8 ((0 : UInt8).toNat : Int)] 5)) rfl _ _ 22 rfl w.heap.size 5 i0 (.int .u8 0) 1 1 Try.underlying22 hi0 hy0 hy1 hy2 rfl (by decide) (.slice (some ⟨w.heap.size, 0, none⟩) 0 0) 0 [] rfl HY.out ⟨w.heap.size + 1, 0, none⟩ 1 1 [.int .u8 ((0 : UInt8).toNat : Int)] rfl rfl HZ.out (by simp [Value.oneCell']) (by unfold maxLen; omega) (by omega) (by simp; omega) ?_; intro v2 w2 hown2 hgrow2 hnil2)
    all_goals
      obtain ⟨A', c', hv, h1, h2, h3⟩ := cut1_end HY.out hown2 hgrow2
      subst hv
      clear hown2 hgrow2 hnil2 HY HZ
      go_ret
      exact ⟨A', c', rfl, h1, h2, h3⟩
theorem place_of_trod {H : Type} {enc : TypeId × Value → H} {W : World} {a : Option Addr} {len cap : Nat} {d : DataW H} {ps : List MemPlace}
    (h : DataW.Trod enc Try.prog W 0 (fun _ => true) true 22 (.slice a len cap) d ps) : a = none → cap = 0 := by
  obtain ⟨fuel, hf⟩ := h
  rcases open_ints Try.underlying22 Try.underlying5 (by kernel_rfl) hf with ⟨hcs, _⟩ | ⟨x, l, c, zs, hcs, _, hl, hm, hz, _, hcell, hwz⟩
  · simp [Value.cells] at hcs
    obtain ⟨rfl, rfl, rfl⟩ := hcs
    exact fun _ => rfl
  · simp [Value.cells] at hcs
    obtain ⟨rfl, rfl, rfl⟩ := hcs
    exact fun h => by cases h
theorem vCut_any (A : Option Addr) (n c : Nat) (W : World) (hC : Code W W.heap.size A n) (h1 : n ≤ c) (h2 : c ≤ maxLen) (hn : n ≤ 65536) (hA : A = none → c = 0) (w : World) (hb : Below W.heap.size W w) :
    Calls Try.prog 17 #[.slice A n c, .int .i64 1] w fun e w' => ∃ A' n' c', e = .returned (.slice A' n' c') ∧ n' ≤ 65536 ∧ Code w' w'.heap.size A' n' ∧ Below w.heap.size w w' := by
  by_cases h0 : n = 0
  · subst h0
    refine (vCut_none2 A c w h2 hA).mono ?_
    rintro e w' ⟨A', c', rfl, _, hc, hb'⟩
    exact ⟨A', 1, c', rfl, by omega, hc, hb'⟩
  · obtain ⟨b, o, rfl, hlt, hz⟩ := hC (by omega)
    by_cases h3 : n = 1
    · subst h3
      refine (vCut_one b o c w h1 h2).mono ?_
      rintro e w' ⟨A', c', rfl, _, hc, hb'⟩
      exact ⟨A', 1, c', rfl, by omega, hc, hb'⟩
    · refine (vCut_many b o n c w (fun j hj => ?_) (by omega) hn h1 h2).mono ?_
      · obtain ⟨z, hz'⟩ := hz j hj
        exact ⟨z, (World.cell?_of_block (a := ⟨b, o + j, none⟩) (hb.block b hlt)).trans hz'⟩
      · rintro e w' ⟨A', c', rfl, _, hc, hb'⟩
        exact ⟨A', n, c', rfl, hn, hc, hb'⟩
end Go.Proofs.Ytdolonmjhlhkeab
