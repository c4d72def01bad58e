/- The answerer: HoldPlay of both; marks that are laid from a later number on. -/
import Derived.Test.YtdkffkgoalgjmabL8D
import Derived.Test.YtdkffkgoalgjmabMhold2
import Derived.RegionTactic
import Derived.StillTailTactics
namespace Go.Proofs.Ytdkffkgoalgjmab
open Go.RowKit Go.ChangeShapes Go.WideShapes Go.Maps
set_option linter.unusedVariables false

theorem stored2z {w : World} {b : Nat} {x0 y0 : Value} {t : TypeId} (h : Two w b x0 y0 t) (x y : Value) : ((w.setCell ⟨b, 0, none⟩ x).setCell ⟨b, 1, none⟩ y).heap[b]? = some (.cells #[x, y] t (0, 0)) ∧ Within b (b + 1) w ((w.setCell ⟨b, 0, none⟩ x).setCell ⟨b, 1, none⟩ y) := stored2 h.row x y
theorem own_ins8 {w : World} {g : Nat} {l : List Int} (h : Own w g (g + 1) (some ⟨g, 0, none⟩) l) : Ins w g (g + 1) (some ⟨g, 0, none⟩) l := ⟨h.ints, own_lt h⟩
theorem Own.to_res {w : World} {g B : Nat} {l : List Int} (h : Own w g (g + 1) (some ⟨g, 0, none⟩) l) (hB : B ≤ g) : Res w B w.heap.size (some ⟨g, 0, none⟩) l := ⟨h.wide hB (by have := own_lt h; omega), Nat.le_refl _⟩
end Go.Proofs.Ytdkffkgoalgjmab
namespace Go.Proofs.Ytdkffkgoalgjmab
open Go.RowKit Go.ChangeShapes Go.WideShapes Go.Maps
set_option linter.unusedVariables false

/-- The answers of an answerer who holds by need. -/
def playB (M : Nat) : List Int → List Int → List Bool
  | zs, q :: qs => holdB zs M q :: playB M (afters zs (M : Int) q (holdB zs M q)) qs
  | _, [] => []
theorem playB_len (M : Nat) : ∀ qs zs, (playB M zs qs).length = qs.length
  | [], zs => rfl
  | q :: qs, zs => by rw [playB, List.length_cons, List.length_cons, playB_len M qs]
theorem playB_at (M : Nat) : ∀ qs zs k (h : k < qs.length), (playB M zs qs)[k]? = some (holdB (endZ (M : Int) zs (qs.take k) ((playB M zs qs).take k)) M qs[k])
  | [], zs, k, h => by simp at h
  | q :: qs, zs, 0, h => by simp [playB, endZ]
  | q :: qs, zs, k + 1, h => by
    have := playB_at M qs (afters zs (M : Int) q (holdB zs M q)) k (by simpa using h)
    rw [playB, List.getElem?_cons_succ, this]
    simp [endZ]
theorem filt_mono8 {p r : Nat → Bool} : ∀ k, (∀ j, j < k → p j = true → r j = true) → (filt p k).length ≤ (filt r k).length
  | 0, _ => Nat.le_refl _
  | k + 1, h => by
    have ih := filt_mono8 k fun j hj => h j (by omega)
    cases hp : p k with
    | true => rw [filt_yes hp, filt_yes (h k (by omega) hp)]; simp; omega
    | false =>
      rw [filt_no hp]
      cases hr : r k with
      | true => rw [filt_yes hr]; simp; omega
      | false => rw [filt_no hr]; exact ih
theorem opens_after8 (zs : List Int) (m q : Int) (y : Bool) : (opens (afters zs m q y)).length ≤ (opens zs).length := by
  unfold opens
  rw [afters_len]
  refine filt_mono8 _ fun j hj h => ?_
  rw [afters_get hj] at h
  simp only [decide_eq_true_eq] at h ⊢
  unfold aft1 at h
  split at h
  · rename_i h1; exact h1.1
  · exact h
theorem opens_end8 (m : Int) : ∀ qs zs bs, (opens (endZ m zs qs bs)).length ≤ (opens zs).length
  | [], zs, bs => by simp [endZ]
  | q :: qs, zs, [] => by simp [endZ]
  | q :: qs, zs, y :: bs => by rw [endZ]; exact Nat.le_trans (opens_end8 m qs _ bs) (opens_after8 zs m q y)
def pAct8 (n len nq : Nat) (A : Option Addr) (c M : Nat) (A2 : Option Addr) (c2 : Nat) (v7 v8 v9 v23 v24 v25 v26 v27 v28 : Value) : Act :=
  { tmps := #[.agg #[.slice A len c, .int .i64 (M : Int)], .slice A2 nq c2, .pointer (some ⟨n, 0, none⟩), undef, .slice none 0 0, .pointer (some ⟨n + 1, 0, none⟩), .bool false, v7, v8, v9, undef, undef, .agg #[.slice A len c, .int .i64 (M : Int)], .bool true, .bool false, .bool false, .agg #[.slice A len c, .int .i64 (M : Int)], .slice A2 nq c2, .bool true, .bool false, .bool false, undef, undef, v23, v24, v25, v26, v27, v28, undef, undef, undef, undef, undef, undef, undef, undef, undef, undef, undef, undef, undef, undef, undef, undef, undef, undef, undef, undef, undef, undef, undef, undef, undef, undef, undef, undef], defers := [] }
structure PInv8 (w1 : World) (zs : List Int) (nq : Nat) (A : Option Addr) (c M : Nat) (A2 : Option Addr) (c2 : Nat) (D : Nat → Bool) (v7 v8 v9 v23 v24 v25 v26 v27 v28 : Value) (W : World) : Prop where
  bl : Below w1.heap.size w1 W
  s23 : D 0 = true → ∃ B, v23 = .map (some B) ∧ w1.heap.size ≤ B ∧ PlanM W B
  s24 : D 1 = true → v24 = .slice A2 nq c2
  s25 : D 2 = true → v25 = .int .i64 (nq : Int)
  s26 : D 3 = true → ∃ g, v26 = .slice (some ⟨g, 0, none⟩) nq nq ∧ w1.heap.size ≤ g ∧ W.heap[g]? = some (.cells (List.replicate nq (Value.bool false)).toArray 4 (0, 0))
  s27 : D 4 = true → v27 = .agg #[.slice A zs.length c, .int .i64 (M : Int)]
  s28 : D 5 = true → ∃ g, v28 = .agg #[.slice (some ⟨g, 0, none⟩) zs.length zs.length, .int .i64 (M : Int)] ∧ w1.heap.size ≤ g ∧ Own W g (g + 1) (some ⟨g, 0, none⟩) zs
  s9 : D 6 = true → ∃ b x y, v9 = .pointer (some ⟨b, 0, none⟩) ∧ w1.heap.size ≤ b ∧ Two W b x y 36 ∧ (D 9 = true → .agg #[x, y] = v28)
  s7 : D 7 = true → v7 = v23
  s8 : D 8 = true → v8 = v26
  o9 : D 9 = true → D 6 = true ∧ D 5 = true
  o7 : D 7 = true → D 0 = true
  o8 : D 8 = true → D 3 = true
theorem notD8' {p : Prop} {D : Nat → Bool} {i : Nat} (h : D i = true → p) (hp : ¬ p) : D i = false := by
  cases hi : D i with
  | false => rfl
  | true => exact absurd (h hi) hp
theorem type_ne8 {w : World} {g b : Nat} {c1 c2 : Array Value} {t1 t2 : TypeId} (h1 : w.heap[g]? = some (.cells c1 t1 (0, 0))) (h2 : w.heap[b]? = some (.cells c2 t2 (0, 0))) (hne : t1 ≠ t2) : g ≠ b := by
  rintro rfl
  have e := h1.symm.trans h2
  injection e with e
  injection e with _ e2
  exact hne e2
theorem plan_ne8 {w : World} {B b : Nat} {c2 : Array Value} {t2 : TypeId} (h1 : PlanM w B) (h2 : w.heap[b]? = some (.cells c2 t2 (0, 0))) : B ≠ b := by
  rintro rfl
  obtain ⟨D, ⟨es, clock, hb, r⟩, _⟩ := h1
  have e := hb.symm.trans h2
  cases e
theorem rowB_done {bs : List Bool} {k : Nat} (h : k < bs.length) : (rowB bs (k + 1))[k]? = some (.bool bs[k]) := by
  unfold rowB
  rw [List.getElem?_toArray, List.getElem?_append_left (by simp; omega)]
  simp [h]
set_option maxRecDepth 100000 in
set_option maxHeartbeats 16000000 in
theorem holdPlay_impl (A : Option Addr) (c lo hi : Nat) (zs : List Int) (M : Nat) (A2 : Option Addr) (c2 lo2 hi2 : Nat) (qs : List Int) (w : World) (hS : Ins w lo hi A zs) (hQ : Ins w lo2 hi2 A2 qs) (hL : Listed zs (M : Int) qs) (ho : (opens zs).length ≤ 8) :
    Calls Try.prog 51 #[.agg #[.slice A zs.length c, .int .i64 (M : Int)], .slice A2 qs.length c2] w fun e w' => ∃ Bb cb A' c' lo1 hi1 lo3 hi3, e = .returned (.tuple #[.slice Bb qs.length cb, .agg #[.slice A' zs.length c', .int .i64 (M : Int)], .bool true]) ∧ BRes w' lo1 hi1 Bb (playB M zs qs) ∧ Res w' lo3 hi3 A' (endZ (M : Int) zs qs (playB M zs qs)) ∧ (hi1 ≤ lo3 ∨ hi3 ≤ lo1) ∧ w.heap.size ≤ lo1 ∧ w.heap.size ≤ lo3 ∧ Below w.heap.size w w' := by
  have HT := Lib.hid (Two.new w (.slice A zs.length c) (.int .i64 (M : Int)) 36 (w.heap.size) rfl)
  have HB := Lib.hid ((Below.refl w.heap.size w).alloc (Nat.le_refl _) (.cells #[.slice A zs.length c, .int .i64 (M : Int)] 36))
  have HR := Lib.hid (Two.new (w.alloc (.cells #[.slice A zs.length c, .int .i64 (M : Int)] 36)) (.slice none 0 0) (.int .i64 0) 36 (w.heap.size + 1) (by simp))
  replace HT := Lib.hid (HT.out.step ((Below.refl _ _).alloc (Nat.le_refl _) (.cells #[.slice none 0 0, .int .i64 0] 36)))
  replace HB := Lib.hid (HB.out.alloc HB.out.size (.cells #[.slice none 0 0, .int .i64 0] 36))
  have HL := Lib.hid hL
  have hst := hL.st
  have h8 := hL.q8
  have hl := hL.len
  have htop := hS.top
  have htop2 := hQ.top
  have HG := Lib.hid (fun W h h2 => areListed_any A c lo hi zs (M : Int) A2 c2 lo2 hi2 qs W h h2 (by omega) (by omega))
  rw [hL.ok1] at HG
  have HCn := Lib.hid (fun W h => canHold_any A c lo hi zs (M : Int) W h (by omega))
  rw [show canB zs (M : Int) = true by unfold canB; rw [hst, decide_eq_true ho]; rfl] at HCn
  have HCp := Lib.hid (fun W h => copyState_any A c lo hi zs (M : Int) W h hl.1 hl.2)
  have HI := Lib.hid (hS.step HB.out)
  have HQ := Lib.hid (hQ.step HB.out)
  have HOP := Lib.hid ho
  have HST := Lib.hid hst
  clear hS hQ hL
  go_enter Try.func51, Try.ntmps51
  go_wp2_with fail
  generalize (w.alloc (.cells #[.slice A zs.length c, .int .i64 (M : Int)] 36)).alloc (.cells #[.slice none 0 0, .int .i64 0] 36) = w0 at HT HR HB HI HQ ⊢
  have h0 := HT.out.c0
  have h1 := HT.out.c1
  with_reducible refine (HCn.out _ HI.out).mono ?_
  rintro e w1 ⟨rfl, hb⟩
  replace HT := Lib.hid (HT.out.step hb)
  replace HR := Lib.hid (HR.out.step hb)
  replace HB := Lib.hid (below_trans HB.out hb)
  replace HI := Lib.hid (HI.out.step hb)
  replace HQ := Lib.hid (HQ.out.step hb)
  replace h0 := HT.out.c0
  replace h1 := HT.out.c1
  clear hb
  go_wp2_with fail
  with_reducible refine (HG.out w1 HI.out HQ.out).mono ?_
  rintro e w2 ⟨rfl, hb⟩
  replace HT := Lib.hid (HT.out.step hb)
  replace HR := Lib.hid (HR.out.step hb)
  replace HB := Lib.hid (below_trans HB.out hb)
  replace HI := Lib.hid (HI.out.step hb)
  replace HQ := Lib.hid (HQ.out.step hb)
  replace h0 := HT.out.c0
  replace h1 := HT.out.c1
  clear hb
  clear HG HCn
  have hmkM := makePlans
  have hmkB := makeBools qs.length (by omega)
  go_wp2_with fail
  have hw2 : w.heap.size + 2 ≤ w2.heap.size := by have := HR.out.lt; omega
  refine wp_region_noPanic ?_
  refine wp_region_inv5 (by kernel_rfl) (by kernel_rfl) (fun D A' W => ∃ v7 v8 v9 v23 v24 v25 v26 v27 v28, A' = pAct8 w.heap.size zs.length qs.length A c M A2 c2 v7 v8 v9 v23 v24 v25 v26 v27 v28 ∧ PInv8 w2 zs qs.length A c M A2 c2 D v7 v8 v9 v23 v24 v25 v26 v27 v28 W) ?h0 ?hs ?hd
  case h0 => exact ⟨undef, undef, undef, undef, undef, undef, undef, undef, undef, rfl, ⟨(Below.refl _ _).drew, nofun, nofun, nofun, nofun, nofun, nofun, nofun, nofun, nofun, nofun, nofun, nofun⟩⟩
  case hs =>
    rintro D _ W ⟨v7, v8, v9, v23, v24, v25, v26, v27, v28, rfl, hI⟩ i o ho9 hD hA K hK
    have hi9 : i < 10 := (Array.getElem?_eq_some_iff.1 ho9).1
    have HIa := HI
    clear HI
    have HI := Lib.hid hI
    have HK := Lib.hid hK
    have hmkB' := hmkB W
    clear hI hK hmkB
    have hmkB := hmkB'
    clear hmkB'
    obtain rfl | rfl | rfl | rfl | rfl | rfl | rfl | rfl | rfl | rfl : i = 0 ∨ i = 1 ∨ i = 2 ∨ i = 3 ∨ i = 4 ∨ i = 5 ∨ i = 6 ∨ i = 7 ∨ i = 8 ∨ i = 9 := by omega
    all_goals (obtain rfl := Option.some.inj ho9; clear ho9 hi9; simp [Region.binds] at hA; unfold pAct8)
    · have h7 := notD8 (fun h => HI.out.o7 h) hD
      have hb : Below W.heap.size W (W.alloc (.map #[] 0)) := (Below.refl _ _).alloc (Nat.le_refl _) _
      have hmk2 := hmkM W
      go_simp
      exact HK.out _ _ ⟨_, _, _, _, _, _, _, _, _, rfl, ⟨(Below.inner8 HI.out.bl hb), (fun _ => ⟨W.heap.size, rfl, HI.out.bl.size, PlanM.made W⟩), (by simpa using HI.out.s24), (by simpa using HI.out.s25), (fun h => by obtain ⟨g, e, hl, hr⟩ := HI.out.s26 (by simpa using h); exact ⟨g, e, hl, (hb.block g (row_ltI hr)).trans hr⟩), (by simpa using HI.out.s27), (fun h => by obtain ⟨g, e, hl, ho⟩ := HI.out.s28 (by simpa using h); exact ⟨g, e, hl, own_same ho (hb.block g (own_lt ho))⟩), (fun h => by obtain ⟨b, x, y, e, hl, ht, h2⟩ := HI.out.s9 (by simpa using h); exact ⟨b, x, y, e, hl, ht.step hb, fun h3 => h2 (by simpa using h3)⟩), (fun h => by simp [h7] at h), (by simpa using HI.out.s8), (fun h => by have h2 := HI.out.o9 (by simpa using h); simp [h2.1, h2.2]), (fun h => by have h2 := HI.out.o7 (by simpa using h); simp [h2]), (fun h => by have h2 := HI.out.o8 (by simpa using h); simp [h2])⟩⟩
    · go_simp
      exact HK.out _ _ ⟨_, _, _, _, _, _, _, _, _, rfl, ⟨(by simpa using HI.out.bl), (by simpa using HI.out.s23), (fun _ => rfl), (by simpa using HI.out.s25), (by simpa using HI.out.s26), (by simpa using HI.out.s27), (by simpa using HI.out.s28), (by simpa using HI.out.s9), (by simpa using HI.out.s7), (by simpa using HI.out.s8), (fun h => by have h2 := HI.out.o9 (by simpa using h); simp [h2.1, h2.2]), (fun h => by have h2 := HI.out.o7 (by simpa using h); simp [h2]), (fun h => by have h2 := HI.out.o8 (by simpa using h); simp [h2])⟩⟩
    · obtain rfl := HI.out.s24 (by simp_all)
      go_simp
      exact HK.out _ _ ⟨_, _, _, _, _, _, _, _, _, rfl, ⟨(by simpa using HI.out.bl), (by simpa using HI.out.s23), (fun _ => rfl), (fun _ => rfl), (by simpa using HI.out.s26), (by simpa using HI.out.s27), (by simpa using HI.out.s28), (by simpa using HI.out.s9), (by simpa using HI.out.s7), (by simpa using HI.out.s8), (fun h => by have h2 := HI.out.o9 (by simpa using h); simp [h2.1, h2.2]), (fun h => by have h2 := HI.out.o7 (by simpa using h); simp [h2]), (fun h => by have h2 := HI.out.o8 (by simpa using h); simp [h2])⟩⟩
    · have h8' := notD8 (fun h => HI.out.o8 h) hD
      obtain rfl := HI.out.s25 (by simp_all)
      have hb : Below W.heap.size W (W.alloc (.cells (List.replicate qs.length (Value.bool false)).toArray 4)) := (Below.refl _ _).alloc (Nat.le_refl _) _
      go_simp
      exact HK.out _ _ ⟨_, _, _, _, _, _, _, _, _, rfl, ⟨(Below.inner8 HI.out.bl hb), (fun h => by obtain ⟨B, e, hl, hp⟩ := HI.out.s23 (by simpa using h); exact ⟨B, e, hl, hp.heap (hb.block B hp.lt)⟩), (by simpa using HI.out.s24), (fun _ => rfl), (fun _ => ⟨W.heap.size, rfl, HI.out.bl.size, alloc_row W _ _⟩), (by simpa using HI.out.s27), (fun h => by obtain ⟨g, e, hl, ho⟩ := HI.out.s28 (by simpa using h); exact ⟨g, e, hl, own_same ho (hb.block g (own_lt ho))⟩), (fun h => by obtain ⟨b, x, y, e, hl, ht, h2⟩ := HI.out.s9 (by simpa using h); exact ⟨b, x, y, e, hl, ht.step hb, fun h3 => h2 (by simpa using h3)⟩), (by simpa using HI.out.s7), (fun h => by simp [h8'] at h), (fun h => by have h2 := HI.out.o9 (by simpa using h); simp [h2.1, h2.2]), (fun h => by have h2 := HI.out.o7 (by simpa using h); simp [h2]), (fun h => by have h2 := HI.out.o8 (by simpa using h); simp [h2])⟩⟩
    · have x0 := (HT.out.step HI.out.bl).c0
      have x1 := (HT.out.step HI.out.bl).c1
      go_simp
      exact HK.out _ _ ⟨_, _, _, _, _, _, _, _, _, rfl, ⟨(by simpa using HI.out.bl), (by simpa using HI.out.s23), (by simpa using HI.out.s24), (by simpa using HI.out.s25), (by simpa using HI.out.s26), (fun _ => rfl), (by simpa using HI.out.s28), (by simpa using HI.out.s9), (by simpa using HI.out.s7), (by simpa using HI.out.s8), (fun h => by have h2 := HI.out.o9 (by simpa using h); simp [h2.1, h2.2]), (fun h => by have h2 := HI.out.o7 (by simpa using h); simp [h2]), (fun h => by have h2 := HI.out.o8 (by simpa using h); simp [h2])⟩⟩
    · have h9' := notD8' (fun h => (HI.out.o9 h).2) (by rw [hD]; decide)
      obtain rfl := HI.out.s27 (by simp_all)
      go_simp
      refine (HCp.out W (HIa.out.step HI.out.bl)).mono ?_
      rintro e W' ⟨g, rfl, hg, hr, hb⟩
      exact HK.out _ _ ⟨_, _, _, _, _, _, _, _, _, rfl, ⟨(Below.inner8 HI.out.bl hb), (fun h => by obtain ⟨B, e, hl, hp⟩ := HI.out.s23 (by simpa using h); exact ⟨B, e, hl, hp.heap (hb.block B hp.lt)⟩), (by simpa using HI.out.s24), (by simpa using HI.out.s25), (fun h => by obtain ⟨g, e, hl, hr⟩ := HI.out.s26 (by simpa using h); exact ⟨g, e, hl, (hb.block g (row_ltI hr)).trans hr⟩), (fun _ => rfl), (fun _ => ⟨g, rfl, Nat.le_trans HI.out.bl.size hg, .inr ⟨g, _, rfl, Nat.le_refl _, Nat.lt_succ_self _, hr, by simp, fun j x hx => by simp [hx]⟩⟩), (fun h => by obtain ⟨b, x, y, e, hl, ht, h2⟩ := HI.out.s9 (by simpa using h); exact ⟨b, x, y, e, hl, ht.step hb, fun h3 => by simp [h9'] at h3⟩), (by simpa using HI.out.s7), (by simpa using HI.out.s8), (fun h => by have h2 := HI.out.o9 (by simpa using h); simp [h2.1, h2.2]), (fun h => by have h2 := HI.out.o7 (by simpa using h); simp [h2]), (fun h => by have h2 := HI.out.o8 (by simpa using h); simp [h2])⟩⟩
    · have h9' := notD8' (fun h => (HI.out.o9 h).1) (by rw [hD]; decide)
      have hb : Below W.heap.size W (W.alloc (.cells #[.slice none 0 0, .int .i64 0] 36)) := (Below.refl _ _).alloc (Nat.le_refl _) _
      go_simp
      exact HK.out _ _ ⟨_, _, _, _, _, _, _, _, _, rfl, ⟨(Below.inner8 HI.out.bl hb), (fun h => by obtain ⟨B, e, hl, hp⟩ := HI.out.s23 (by simpa using h); exact ⟨B, e, hl, hp.heap (hb.block B hp.lt)⟩), (by simpa using HI.out.s24), (by simpa using HI.out.s25), (fun h => by obtain ⟨g, e, hl, hr⟩ := HI.out.s26 (by simpa using h); exact ⟨g, e, hl, (hb.block g (row_ltI hr)).trans hr⟩), (by simpa using HI.out.s27), (fun h => by obtain ⟨g, e, hl, ho⟩ := HI.out.s28 (by simpa using h); exact ⟨g, e, hl, own_same ho (hb.block g (own_lt ho))⟩), (fun _ => ⟨W.heap.size, _, _, rfl, HI.out.bl.size, Two.new W _ _ _ _ rfl, fun h3 => by simp [h9'] at h3⟩), (by simpa using HI.out.s7), (by simpa using HI.out.s8), (fun h => by have h2 := HI.out.o9 (by simpa using h); simp [h2.1, h2.2]), (fun h => by have h2 := HI.out.o7 (by simpa using h); simp [h2]), (fun h => by have h2 := HI.out.o8 (by simpa using h); simp [h2])⟩⟩
    · have q0 : D 0 = true := by simp_all
      go_simp
      exact HK.out _ _ ⟨_, _, _, _, _, _, _, _, _, rfl, ⟨(by simpa using HI.out.bl), (by simpa using HI.out.s23), (by simpa using HI.out.s24), (by simpa using HI.out.s25), (by simpa using HI.out.s26), (by simpa using HI.out.s27), (by simpa using HI.out.s28), (by simpa using HI.out.s9), (fun _ => rfl), (by simpa using HI.out.s8), (fun h => by have h2 := HI.out.o9 (by simpa using h); simp [h2.1, h2.2]), (fun _ => by simp [q0]), (fun h => by have h2 := HI.out.o8 (by simpa using h); simp [h2])⟩⟩
    · have q0 : D 3 = true := by simp_all
      go_simp
      exact HK.out _ _ ⟨_, _, _, _, _, _, _, _, _, rfl, ⟨(by simpa using HI.out.bl), (by simpa using HI.out.s23), (by simpa using HI.out.s24), (by simpa using HI.out.s25), (by simpa using HI.out.s26), (by simpa using HI.out.s27), (by simpa using HI.out.s28), (by simpa using HI.out.s9), (by simpa using HI.out.s7), (fun _ => rfl), (fun h => by have h2 := HI.out.o9 (by simpa using h); simp [h2.1, h2.2]), (fun h => by have h2 := HI.out.o7 (by simpa using h); simp [h2]), (fun _ => by simp [q0])⟩⟩
    · have q6 : D 6 = true := by simp_all
      have q5 : D 5 = true := by simp_all
      obtain ⟨b, x, y, e9, hl9, ht, _⟩ := HI.out.s9 q6
      obtain ⟨g, e28, hg, ho28⟩ := HI.out.s28 q5
      subst e9 e28
      have c0 := ht.c0
      have c1 := ht.c1
      have f0 := ht.f0
      have f1 := ht.f1
      obtain ⟨hs', hw'⟩ := stored2 ht.row (.slice (some ⟨g, 0, none⟩) zs.length zs.length) (.int .i64 (M : Int))
      have HS' := Lib.hid hs'
      have HW' := Lib.hid hw'
      have HGB : Hid (g ≠ b) := Lib.hid (by obtain ⟨cu, hcu, _⟩ := own_at ho28; exact type_ne8 hcu ht.row (by decide))
      have HO28 := Lib.hid ho28
      have HTr := Lib.hid ht
      clear hs' hw' ho28 ht
      go_simp
      exact HK.out _ _ ⟨_, _, _, _, _, _, _, _, _, rfl, ⟨(HI.out.bl.trans (HW'.out.below hl9 HI.out.bl.size)), (fun h => by obtain ⟨B, e, hl, hp⟩ := HI.out.s23 (by simpa using h); exact ⟨B, e, hl, hp.heap (HW'.out.block B hp.lt (by have := plan_ne8 hp HTr.out.row; omega))⟩), (by simpa using HI.out.s24), (by simpa using HI.out.s25), (fun h => by obtain ⟨g5, e, hl, hr⟩ := HI.out.s26 (by simpa using h); exact ⟨g5, e, hl, (HW'.out.block g5 (row_ltI hr) (by have := type_ne8 hr HTr.out.row (by decide); omega)).trans hr⟩), (by simpa using HI.out.s27), (fun _ => ⟨g, rfl, hg, own_same HO28.out (HW'.out.block g (own_lt HO28.out) (by have := HGB.out; omega))⟩), (fun _ => ⟨b, _, _, rfl, hl9, ⟨HS'.out⟩, fun _ => rfl⟩), (by simpa using HI.out.s7), (by simpa using HI.out.s8), (fun _ => ⟨by simp [q6], by simp [q5]⟩), (fun h => by have h2 := HI.out.o7 (by simpa using h); simp [h2]), (fun h => by have h2 := HI.out.o8 (by simpa using h); simp [h2])⟩⟩
  case hd =>
    rintro D _ W ⟨v7, v8, v9, v23, v24, v25, v26, v27, v28, rfl, hI⟩ hall
    obtain ⟨eb, x9, y9, rfl, hle, hte, h9⟩ := hI.s9 (hall 6 (by decide))
    obtain ⟨g0, e28, hlg, hog⟩ := hI.s28 (hall 5 (by decide))
    obtain ⟨gb, e26, hlb, hrb⟩ := hI.s26 (hall 3 (by decide))
    obtain ⟨B, e23, hlB, hpB⟩ := hI.s23 (hall 0 (by decide))
    have e9 := h9 (hall 9 (by decide))
    obtain rfl := hI.s7 (hall 7 (by decide))
    obtain rfl := hI.s8 (hall 8 (by decide))
    subst e28 e26 e23
    simp at e9
    obtain ⟨rfl, rfl⟩ := e9
    have hbl := hI.bl
    obtain rfl := hI.s24 (hall 1 (by decide))
    obtain rfl := hI.s25 (hall 2 (by decide))
    obtain rfl := hI.s27 (hall 4 (by decide))
    obtain ⟨cug, hcug, _⟩ := own_at hog
    have n1 := plan_ne8 hpB hrb
    have n2 := plan_ne8 hpB hte.row
    have n3 := plan_ne8 hpB hcug
    have n4 := type_ne8 hrb hte.row (by decide)
    have n5 := type_ne8 hrb hcug (by decide)
    have n6 := type_ne8 hte.row hcug (by decide)
    have HE := Lib.hid hte
    have HO := Lib.hid hog
    have HBR := Lib.hid hrb
    have HPM := Lib.hid hpB
    replace HR := Lib.hid (HR.out.step hbl)
    replace HQ := Lib.hid (HQ.out.step hbl)
    replace HB := Lib.hid (below_trans HB.out hbl)
    have hB2 : w.heap.size + 2 ≤ B := Nat.le_trans hw2 hlB
    have hgb2 : w.heap.size + 2 ≤ gb := Nat.le_trans hw2 hlb
    have heb2 : w.heap.size + 2 ≤ eb := Nat.le_trans hw2 hle
    have hg02 : w.heap.size + 2 ≤ g0 := Nat.le_trans hw2 hlg
    clear hI hall hte hog hrb hpB h9 hbl hcug HT HI HCp hmkB hmkM hlB hlb hle hlg h0 h1
    have hHl := playB_len M qs zs
    have HPA := Lib.hid (fun k h => playB_at M qs zs k h)
    generalize hHs : playB M zs qs = Hs at hHl HPA
    have HHs := Lib.hid hHs
    clear hHs
    have hr0 : (List.replicate qs.length (Value.bool false)).toArray = rowB Hs 0 := by rw [rowB_nil, hHl]
    rw [hr0] at HBR
    have HHL := Lib.hid hHl
    clear hr0 hHl
    unfold pAct8
    refine NoPanic.normal ?_
    go_wp2_with fail
    go_loopw [31] (fun i wr => ∃ (k g' c' : Nat), k ≤ qs.length ∧ i = .int .i64 (k : Int) ∧ Hid (PlanM wr B) ∧ Hid (wr.heap[gb]? = some (.cells (rowB Hs k) 4 (0, 0))) ∧ Hid (Two wr eb (.slice (some ⟨g', 0, none⟩) zs.length c') (.int .i64 (M : Int)) 36) ∧ Hid (Two wr (w.heap.size + 1) (.slice none 0 0) (.int .i64 0) 36) ∧ Hid (Own wr g' (g' + 1) (some ⟨g', 0, none⟩) (endZ (M : Int) zs (qs.take k) (Hs.take k))) ∧ B ≠ g' ∧ gb ≠ g' ∧ eb ≠ g' ∧ w.heap.size + 2 ≤ g' ∧ Hid (Ins wr lo2 hi2 A2 qs) ∧ Hid (Below w.heap.size w wr)) (fun i _ => qs.length - (intOf i).toNat)
    case atStart => exact ⟨0, g0, zs.length, Nat.zero_le _, rfl, HPM, HBR, HE, HR, by simpa [endZ] using HO, n3, n5, n6, hg02, HQ, HB⟩
    case round =>
      clear HPM HBR HE HR HO n3 n5 n6 hg02 HQ HB
      obtain ⟨k, g', c', hk, rfl, HPM, HBR, HE, HR, HO, n3, n5, n6, hg', HQ, HB⟩ := hrel
      by_cases hlt : k < qs.length
      · obtain ⟨b, o, rfl, _, hb, hc⟩ := HQ.out.ints.at_ hlt
        have hki : (k : Int) < (qs.length : Int) := by omega
        have hkH : k < Hs.length := by have := HHL.out; omega
        have HNX := Lib.hid (endZ_take (M : Int) qs zs Hs k _ _ (List.getElem?_eq_getElem hlt) (List.getElem?_eq_getElem hkH))
        have hst := endZ_isSt (M : Int) (qs.take k) zs (Hs.take k) HST.out
        have hzl := endZ_len (M : Int) (qs.take k) zs (Hs.take k)
        have hop := Nat.le_trans (opens_end8 (M : Int) (qs.take k) zs (Hs.take k)) HOP.out
        have hqk := HL.out.ok _ (List.getElem_mem hlt)
        have hyg : Hs[k] = holdB (endZ (M : Int) zs (qs.take k) (Hs.take k)) M qs[k] := by have h1 := HPA.out k hlt; rw [List.getElem?_eq_getElem hkH] at h1; injection h1
        generalize endZ (M : Int) zs (qs.take k) (Hs.take k) = z at hst hzl hop HO HNX hyg
        obtain ⟨r, s, hr⟩ := rows_of qs[k] hst hop
        generalize qs[k] = q at hc hqk HNX hyg hr
        have HHo := Lib.hid (fun W h hp => holdsByYes_any (some ⟨g', 0, none⟩) c' g' (g' + 1) z M q r s B W h hst hr hp)
        rw [hzl, ← hyg] at HHo
        have HBset := Lib.hid (rowB_set hkH)
        have hbat := rowB_at hkH
        have HBd := Lib.hid (rowB_done hkH)
        generalize Hs[k] = y at HNX HHo HBset HBd hyg
        have HAf := Lib.hid (fun W h => answerState_impl (some ⟨g', 0, none⟩) c' g' (g' + 1) z (M : Int) q y W h hst (by rw [hzl]; exact hqk))
        rw [hzl] at HAf
        clear hst hop hqk hyg hr hzl
        have e0 := HE.out.c0
        have e1 := HE.out.c1
        go_wp2_with fail
        with_reducible refine (HHo.out wr (own_ins8' HO.out) HPM.out).mono ?_
        rintro e w3 ⟨rfl, hpm, hw⟩
        replace HPM := Lib.hid hpm
        replace HBR := Lib.hid ((hw.block gb (row_ltI HBR.out) (by omega)).trans HBR.out)
        replace HE := Lib.hid (HE.out.within hw (by omega))
        replace HR := Lib.hid (HR.out.within hw (by omega))
        replace HO := Lib.hid (own_same HO.out (hw.block g' (own_lt HO.out) (by omega)))
        replace HQ := Lib.hid (HQ.out.within hw (.inl (by omega)))
        replace HB := Lib.hid (HB.out.trans (hw.below (by omega) HB.out.size))
        clear hpm hw e0 e1 HHo hc
        have hbc : w3.cell? ⟨gb, k, none⟩ = some (.bool false) := by rw [row_cellI HBR.out]; exact hbat
        have hbf := row_freeI HBR.out k
        have e0 := HE.out.c0
        have e1 := HE.out.c1
        go_wp2_with fail
        have hw5 := within_set (Within.refl gb (gb + 1) w3) (Nat.le_refl _) (Nat.lt_succ_self _) k (.bool y)
        have HBR2 := Lib.hid (row_setI HBR.out k (.bool y))
        rw [HBset.out] at HBR2
        replace HPM := Lib.hid (HPM.out.heap (hw5.block B HPM.out.lt (by omega)))
        replace HE := Lib.hid (HE.out.within hw5 (by omega))
        replace HR := Lib.hid (HR.out.within hw5 (by omega))
        replace HO := Lib.hid (own_same HO.out (hw5.block g' (own_lt HO.out) (by omega)))
        replace HQ := Lib.hid (HQ.out.within hw5 (.inl (by omega)))
        replace HB := Lib.hid (HB.out.trans (hw5.below (by omega) HB.out.size))
        clear hw5 hbc hbf e0 e1 HBR
        generalize w3.setCell ⟨gb, k, none⟩ (.bool y) = w4 at HPM HBR2 HE HR HO HQ HB ⊢
        have hbc : w4.cell? ⟨gb, k, none⟩ = some (.bool y) := by rw [row_cellI HBR2.out]; exact HBd.out
        have e0 := HE.out.c0
        have e1 := HE.out.c1
        have hwe := HE.out.lt
        have hwb := row_ltI HBR2.out
        have hwp := HPM.out.lt
        go_region_with (first
          | (go_at_call 105; (with_reducible refine (HAf.out w4.drew (own_ins8' (own_same HO.out rfl))).mono ?_); rintro e v1 ⟨g2, rfl, hg2, hr2, hb⟩; have HZ1 := Lib.hid (below_trans (Below.refl _ w4).drew hb); have HPM_1 := Lib.hid (HPM.out.heap (HZ1.out.block B HPM.out.lt)); have HBR_1 := Lib.hid ((HZ1.out.block gb (row_ltI HBR2.out)).trans HBR2.out); have HE_1 := Lib.hid (HE.out.step HZ1.out); have HR_1 := Lib.hid (HR.out.step HZ1.out); have HQ_1 := Lib.hid (HQ.out.step HZ1.out); have HB_1 := Lib.hid (below_trans HB.out HZ1.out); have HO2 := Lib.hid (show Own _ g2 (g2 + 1) (some ⟨g2, 0, none⟩) (afters z (M : Int) q y) from .inr ⟨g2, _, rfl, Nat.le_refl _, Nat.lt_succ_self _, hr2, by simp, fun j x hx => by simp [hx]⟩); have hg3 : w4.heap.size ≤ g2 := hg2; have q0 := HE_1.out.c0; have q1 := HE_1.out.c1; have q2 := HE_1.out.f0; have q3 := HE_1.out.f1; clear hr2 hg2 hb))
        all_goals
          clear HPM HBR2 HE HR HO HQ HB HZ1 HAf hbc e0 e1
          obtain ⟨hs, hw⟩ := stored2 HE_1.out.row (.slice (some ⟨g2, 0, none⟩) zs.length zs.length) (.int .i64 (M : Int))
          have HS2 := Lib.hid hs
          have HW2 := Lib.hid hw
          clear hs hw
          go_wp2
          generalize ((v1.setCell ⟨eb, 0, none⟩ (.slice (some ⟨g2, 0, none⟩) zs.length zs.length)).setCell ⟨eb, 1, none⟩ (.int .i64 (M : Int))) = wf at HS2 HW2 ⊢
          go_roundw
          case rel => exact ⟨k + 1, g2, zs.length, by omega, by go_num, Lib.hid (HPM_1.out.heap (HW2.out.block B HPM_1.out.lt (by omega))), Lib.hid ((HW2.out.block gb (row_ltI HBR_1.out) (by omega)).trans HBR_1.out), Lib.hid ⟨HS2.out⟩, Lib.hid (HR_1.out.within HW2.out (by omega)), Lib.hid (by rw [HNX.out]; exact own_same HO2.out (HW2.out.block g2 (own_lt HO2.out) (by omega))), by omega, by omega, by omega, by omega, Lib.hid (HQ_1.out.within HW2.out (.inl (by omega))), Lib.hid (HB_1.out.trans (HW2.out.below (by omega) HB_1.out.size))⟩
          case measure => simp [intOf]; omega
      · obtain rfl : k = qs.length := by omega
        have hHl := HHL.out
        have eT : Hs.take qs.length = Hs := List.take_of_length_le (by omega)
        rw [List.take_length, eT] at HO
        have hfu : rowB Hs qs.length = (Hs.map Value.bool).toArray := by rw [← hHl, rowB_full]
        rw [hfu] at HBR
        have HHl2 := Lib.hid hHl
        clear hfu eT hHl
        have e0 := HE.out.c0
        have e1 := HE.out.c1
        have q0 := HR.out.c0
        have q1 := HR.out.c1
        have q2 := HR.out.f0
        have q3 := HR.out.f1
        go_wp2_with fail
        go_region_with (fail)
        all_goals
          go_wp2
          obtain ⟨hs, hw⟩ := stored2 HR.out.row (.slice (some ⟨g', 0, none⟩) zs.length c') (.int .i64 (M : Int))
          generalize ((wr.setCell ⟨w.heap.size + 1, 0, none⟩ (.slice (some ⟨g', 0, none⟩) zs.length c')).setCell ⟨w.heap.size + 1, 1, none⟩ (.int .i64 (M : Int))) = wf at hs hw ⊢
          have x0 := two0 hs
          have x1 := two1 hs
          refine bodyPost_ret (v := .tuple #[.slice (some ⟨gb, 0, none⟩) qs.length qs.length, .agg #[.slice (some ⟨g', 0, none⟩) zs.length c', .int .i64 (M : Int)], .bool true]) (by simp [results, go_sem, x0, x1]) rfl ?_
          rw [HHs.out]
          have hbr : wf.drew.heap[gb]? = some (.cells (Hs.map Value.bool).toArray 4 (0, 0)) := (hw.block gb (row_ltI HBR.out) (by omega)).trans HBR.out
          have hog := own_same (w' := wf.drew) HO.out (hw.block g' (own_lt HO.out) (by omega))
          exact ⟨some ⟨gb, 0, none⟩, qs.length, some ⟨g', 0, none⟩, c', gb, gb + 1, g', g' + 1, rfl, ⟨.inr ⟨gb, _, rfl, Nat.le_refl _, Nat.lt_succ_self _, hbr, by simp, fun j x hx => by simp [hx]⟩, row_ltI hbr⟩, ⟨hog, own_lt hog⟩, by omega, by omega, by omega, (HB.out.trans (hw.below (by omega) HB.out.size)).drew⟩
end Go.Proofs.Ytdkffkgoalgjmab
namespace Go.Proofs.Ytdkffkgoalgjmab
open Go.RowKit Go.ChangeShapes Go.WideShapes Go.Maps
set_option linter.unusedVariables false

def sAct8 (n len nq : Nat) (A : Option Addr) (c M : Nat) (A2 : Option Addr) (c2 : Nat) (x19 x20 x21 : Value) (v8 v9 v25 v26 v27 v28 v29 v30 v31 v32 v33 v34 : Value) : Act :=
  { tmps := #[.agg #[.slice A len c, .int .i64 (M : Int)], .slice A2 nq c2, .pointer (some ⟨n, 0, none⟩), undef, .slice none 0 0, .pointer (some ⟨n + 1, 0, none⟩), .bool false, .slice (some ⟨n + 1 + 1, 0, none⟩) 0 0, v8, v9, undef, undef, .slice (some ⟨n + 1 + 1, 0, none⟩) 0 0, .agg #[.slice A len c, .int .i64 (M : Int)], .slice A2 nq c2, .bool true, .bool false, .bool false, .agg #[.slice A len c, .int .i64 (M : Int)], x19, x20, x21, x21, undef, undef, v25, v26, v27, v28, v29, v30, v31, v32, v33, v34, undef, undef, undef, undef, undef, undef, undef, undef, undef, undef, undef, undef, undef, undef, undef, undef, undef, undef, undef, undef, undef, undef, undef, undef, undef, undef], defers := [] }
structure SInv8 (w2 : World) (n : Nat) (zs : List Int) (A : Option Addr) (c M : Nat) (D : Nat → Bool) (v8 v9 v25 v26 v27 v28 v29 v30 v31 v32 v33 v34 : Value) (W : World) : Prop where
  bl : Below w2.heap.size w2 W
  s25 : D 0 = true → v25 = .pointer (some ⟨n, 1, none⟩)
  s26 : D 1 = true → v26 = .int .i64 (M : Int)
  s27 : D 2 = true → v27 = .int .i64 ((M : Int) + 1)
  s28 : D 3 = true → ∃ g cg, v28 = .slice (some ⟨g, 0, none⟩) (9 ^ (M + 1)) cg ∧ w2.heap.size ≤ g ∧ Own W g (g + 1) (some ⟨g, 0, none⟩) (foundL (M + 1) 10)
  s29 : D 4 = true → v29 = .pointer (some ⟨n, 0, none⟩)
  s30 : D 5 = true → v30 = .slice A zs.length c
  s31 : D 6 = true → ∃ g cg, v31 = .slice (some ⟨g, 0, none⟩) zs.length cg ∧ w2.heap.size ≤ g ∧ Own W g (g + 1) (some ⟨g, 0, none⟩) zs
  s32 : D 7 = true → v32 = .pointer (some ⟨n, 1, none⟩)
  s33 : D 8 = true → v33 = .int .i64 (M : Int)
  s34 : D 9 = true → v34 = .agg #[v31, .int .i64 (M : Int)]
  s9 : D 10 = true → ∃ b x y, v9 = .pointer (some ⟨b, 0, none⟩) ∧ w2.heap.size ≤ b ∧ Two W b x y 36 ∧ (D 12 = true → .agg #[x, y] = v34)
  s8 : D 11 = true → v8 = v28
  o9 : D 9 = true → D 6 = true
  o12 : D 12 = true → D 10 = true ∧ D 9 = true
  o11 : D 11 = true → D 3 = true
theorem BOwn.topZ8 {w : World} {lo hi hi' : Nat} {A : Option Addr} {bs : List Bool} (h : BOwn w lo hi A bs) (hl : hi ≤ hi') : BOwn w lo hi' A bs := by
  rcases h with h | ⟨g, cur, e, h1, h2, r⟩
  · exact .inl h
  · exact .inr ⟨g, cur, e, h1, Nat.lt_of_lt_of_le h2 hl, r⟩
theorem One8.past8 {w w' : World} {a : Addr} {v : Value} {B : Nat} (h : One8 w a v) (hp : Past B w w') (hb : a.block < B) : One8 w' a v := ⟨cell_past hp h.c hb⟩
theorem BRes.apart8 {w : World} {B hi g : Nat} {A : Option Addr} {bs : List Bool} {l : List Int} (h : BRes w B hi A bs) (ho : Own w g (g + 1) (some ⟨g, 0, none⟩) l) :
    ∃ lo1 hi1, BRes w lo1 hi1 A bs ∧ (hi1 ≤ g ∨ g + 1 ≤ lo1) ∧ B ≤ lo1 := by
  obtain ⟨cu, hcu, _⟩ := own_at ho
  rcases h.own with ⟨rfl, rfl⟩ | ⟨g1, cur, rfl, h1, h2, hr, hs, hc⟩
  · by_cases hb : B ≤ g
    · exact ⟨B, B, ⟨.inl ⟨rfl, rfl⟩, by have := own_lt ho; omega⟩, .inl hb, Nat.le_refl _⟩
    · exact ⟨B, 0, ⟨.inl ⟨rfl, rfl⟩, Nat.zero_le _⟩, .inl (Nat.zero_le _), Nat.le_refl _⟩
  · have hne := type_ne8 hr hcu (by decide)
    exact ⟨g1, g1 + 1, ⟨.inr ⟨g1, cur, rfl, Nat.le_refl _, Nat.lt_succ_self _, hr, hs, hc⟩, row_ltI hr⟩, by omega, h1⟩
set_option maxRecDepth 100000 in
set_option maxHeartbeats 16000000 in
theorem holdPlay_spec (A : Option Addr) (c lo hi : Nat) (zs : List Int) (M : Nat) (A2 : Option Addr) (c2 lo2 hi2 : Nat) (qs : List Int) (w : World) (hS : Ins w lo hi A zs) (hQ : Ins w lo2 hi2 A2 qs) (hL : Listed zs (M : Int) qs) (ho : (opens zs).length ≤ 8) :
    Calls Try.prog 50 #[.agg #[.slice A zs.length c, .int .i64 (M : Int)], .slice A2 qs.length c2] w fun e w' => ∃ Bb cb A' c' lo1 hi1 lo3 hi3, e = .returned (.tuple #[.slice Bb qs.length cb, .agg #[.slice A' zs.length c', .int .i64 (M : Int)], .bool true]) ∧ BRes w' lo1 hi1 Bb (playB M zs qs) ∧ Res w' lo3 hi3 A' (endZ (M : Int) zs qs (playB M zs qs)) ∧ (hi1 ≤ lo3 ∨ hi3 ≤ lo1) ∧ w.heap.size ≤ lo1 ∧ w.heap.size ≤ lo3 ∧ Below w.heap.size w w' := by
  have HT := Lib.hid (Two.new w (.slice A zs.length c) (.int .i64 (M : Int)) 36 (w.heap.size) rfl)
  have HB := Lib.hid ((Below.refl w.heap.size w).alloc (Nat.le_refl _) (.cells #[.slice A zs.length c, .int .i64 (M : Int)] 36))
  have HR := Lib.hid (Two.new (w.alloc (.cells #[.slice A zs.length c, .int .i64 (M : Int)] 36)) (.slice none 0 0) (.int .i64 0) 36 (w.heap.size + 1) (by simp))
  replace HT := Lib.hid (HT.out.step ((Below.refl _ _).alloc (Nat.le_refl _) (.cells #[.slice none 0 0, .int .i64 0] 36)))
  replace HB := Lib.hid (HB.out.alloc HB.out.size (.cells #[.slice none 0 0, .int .i64 0] 36))
  have htop := hS.top
  have htop2 := hQ.top
  have HI := Lib.hid (hS.step HB.out)
  have HQ := Lib.hid (hQ.step HB.out)
  have hbe := (Below.refl _ ((w.alloc (.cells #[.slice A zs.length c, .int .i64 (M : Int)] 36)).alloc (.cells #[.slice none 0 0, .int .i64 0] 36))).alloc (Nat.le_refl _) (.cells #[] 4)
  have HV := Lib.hid (B0_any ((w.alloc (.cells #[.slice A zs.length c, .int .i64 (M : Int)] 36)).alloc (.cells #[.slice none 0 0, .int .i64 0] 36)) (w.heap.size + 2) (by simp))
  replace HT := Lib.hid (HT.out.step hbe)
  replace HR := Lib.hid (HR.out.step hbe)
  replace HB := Lib.hid (below_trans HB.out hbe)
  replace HI := Lib.hid (HI.out.step hbe)
  replace HQ := Lib.hid (HQ.out.step hbe)
  have hsz1 : ((w.alloc (.cells #[.slice A zs.length c, .int .i64 (M : Int)] 36)).alloc (.cells #[.slice none 0 0, .int .i64 0] 36)).heap.size = w.heap.size + 2 := by simp
  rw [hsz1] at HV
  clear hbe hsz1
  have HL := Lib.hid hL
  have HST := Lib.hid hL.st
  have h8 := hL.q8
  have hl := hL.len
  have hM := isSt_len hL.st
  have HG := Lib.hid (fun W h h2 => l8Good_any A c lo hi zs (M : Int) A2 c2 lo2 hi2 qs W h h2 (by omega) (by omega))
  rw [hL.ok1] at HG
  have HO := Lib.hid (fun W h => l2Open_any A c lo hi zs (M : Int) W h hl.2)
  have hoI : ((opens zs).length : Int) ≤ 8 := by omega
  have hoJ : ¬ (8 : Int) < ((opens zs).length : Int) := by omega
  have HOP := Lib.hid ho
  have HNs := Lib.hid (fun W => l4Needs_any (M + 1) W (by omega))
  rw [show (((M + 1 : Nat)) : Int) = (M : Int) + 1 by omega] at HNs
  have HOw := Lib.hid (fun W h => l1Own_row A c lo hi zs W h hl.1 hl.2)
  clear hS hQ hL ho
  go_enter Try.func50, Try.ntmps50
  go_wp2_with fail
  generalize ((w.alloc (.cells #[.slice A zs.length c, .int .i64 (M : Int)] 36)).alloc (.cells #[.slice none 0 0, .int .i64 0] 36)).alloc (.cells #[] 4) = w0 at HT HR HB HI HQ HV ⊢
  have h0 := HT.out.c0
  have h1 := HT.out.c1
  with_reducible refine (HG.out _ HI.out HQ.out).mono ?_
  rintro e w1 ⟨rfl, hb⟩
  replace HT := Lib.hid (HT.out.step hb)
  replace HR := Lib.hid (HR.out.step hb)
  replace HB := Lib.hid (below_trans HB.out hb)
  replace HI := Lib.hid (HI.out.step hb)
  replace HQ := Lib.hid (HQ.out.step hb)
  replace HV := Lib.hid (past8 HV.out (Past.of_below hb))
  replace h0 := HT.out.c0
  replace h1 := HT.out.c1
  clear hb
  go_wp2_with fail
  with_reducible refine (HO.out w1 HI.out).mono ?_
  rintro e w2 ⟨v, rfl, ho, hb⟩
  replace HT := Lib.hid (HT.out.step hb)
  replace HR := Lib.hid (HR.out.step hb)
  replace HB := Lib.hid (below_trans HB.out hb)
  replace HI := Lib.hid (HI.out.step hb)
  replace HQ := Lib.hid (HQ.out.step hb)
  replace HV := Lib.hid (past8 HV.out (Past.of_below hb))
  replace h0 := HT.out.c0
  replace h1 := HT.out.c1
  obtain ⟨Ao, co, rfl, _, _⟩ := own_res ho rfl
  clear ho
  clear hb
  clear HG HO
  go_wp2_with fail
  have hw2 : w.heap.size + 2 ≤ w2.heap.size := by have h9 := (ownBlock_lt8 HV.out (g := w.heap.size + 2) rfl); omega
  clear h0 h1
  refine wp_region_noPanic ?_
  refine wp_region_inv5 (by kernel_rfl) (by kernel_rfl) (fun D A' W => ∃ v8 v9 v25 v26 v27 v28 v29 v30 v31 v32 v33 v34, A' = sAct8 w.heap.size zs.length qs.length A c M A2 c2 (.slice Ao (opens zs).length co) (.int .i64 ((opens zs).length : Int)) (.bool (decide ((8 : Int) < ((opens zs).length : Int)))) v8 v9 v25 v26 v27 v28 v29 v30 v31 v32 v33 v34 ∧ SInv8 w2 w.heap.size zs A c M D v8 v9 v25 v26 v27 v28 v29 v30 v31 v32 v33 v34 W) ?h0 ?hs ?hd
  case h0 => exact ⟨undef, undef, undef, undef, undef, undef, undef, undef, undef, undef, undef, undef, rfl, ⟨(Below.refl _ _).drew, nofun, nofun, nofun, nofun, nofun, nofun, nofun, nofun, nofun, nofun, nofun, nofun, nofun, nofun, nofun⟩⟩
  case hs =>
    rintro D _ W ⟨v8, v9, v25, v26, v27, v28, v29, v30, v31, v32, v33, v34, rfl, hI⟩ i o ho9 hD hA K hK
    have hi9 : i < 13 := (Array.getElem?_eq_some_iff.1 ho9).1
    have HIa := HI
    clear HI
    have HI := Lib.hid hI
    have HK := Lib.hid hK
    clear hI hK
    obtain rfl | rfl | rfl | rfl | rfl | rfl | rfl | rfl | rfl | rfl | rfl | rfl | rfl : i = 0 ∨ i = 1 ∨ i = 2 ∨ i = 3 ∨ i = 4 ∨ i = 5 ∨ i = 6 ∨ i = 7 ∨ i = 8 ∨ i = 9 ∨ i = 10 ∨ i = 11 ∨ i = 12 := by omega
    all_goals (obtain rfl := Option.some.inj ho9; clear ho9 hi9; simp [Region.binds] at hA; unfold sAct8)
    · go_simp
      exact HK.out _ _ ⟨_, _, _, _, _, _, _, _, _, _, _, _, rfl, ⟨(by simpa using HI.out.bl), (fun _ => rfl), (by simpa using HI.out.s26), (by simpa using HI.out.s27), (by simpa using HI.out.s28), (by simpa using HI.out.s29), (by simpa using HI.out.s30), (by simpa using HI.out.s31), (by simpa using HI.out.s32), (by simpa using HI.out.s33), (by simpa using HI.out.s34), (by simpa using HI.out.s9), (by simpa using HI.out.s8), (fun h => by have h2 := HI.out.o9 (by simpa using h); simp [h2]), (fun h => by have h2 := HI.out.o12 (by simpa using h); simp [h2.1, h2.2]), (fun h => by have h2 := HI.out.o11 (by simpa using h); simp [h2])⟩⟩
    · obtain rfl := HI.out.s25 (by simp_all)
      have x1 := (HT.out.step HI.out.bl).c1
      go_simp
      exact HK.out _ _ ⟨_, _, _, _, _, _, _, _, _, _, _, _, rfl, ⟨(by simpa using HI.out.bl), (fun _ => rfl), (fun _ => rfl), (by simpa using HI.out.s27), (by simpa using HI.out.s28), (by simpa using HI.out.s29), (by simpa using HI.out.s30), (by simpa using HI.out.s31), (by simpa using HI.out.s32), (by simpa using HI.out.s33), (by simpa using HI.out.s34), (by simpa using HI.out.s9), (by simpa using HI.out.s8), (fun h => by have h2 := HI.out.o9 (by simpa using h); simp [h2]), (fun h => by have h2 := HI.out.o12 (by simpa using h); simp [h2.1, h2.2]), (fun h => by have h2 := HI.out.o11 (by simpa using h); simp [h2])⟩⟩
    · obtain rfl := HI.out.s26 (by simp_all)
      have hM9 : (M : Int) ≤ 2 := by omega
      go_simp
      exact HK.out _ _ ⟨_, _, _, _, _, _, _, _, _, _, _, _, rfl, ⟨(by simpa using HI.out.bl), (by simpa using HI.out.s25), (fun _ => rfl), (fun _ => by rw [IntWalk.i64_in _ (by omega)]), (by simpa using HI.out.s28), (by simpa using HI.out.s29), (by simpa using HI.out.s30), (by simpa using HI.out.s31), (by simpa using HI.out.s32), (by simpa using HI.out.s33), (by simpa using HI.out.s34), (by simpa using HI.out.s9), (by simpa using HI.out.s8), (fun h => by have h2 := HI.out.o9 (by simpa using h); simp [h2]), (fun h => by have h2 := HI.out.o12 (by simpa using h); simp [h2.1, h2.2]), (fun h => by have h2 := HI.out.o11 (by simpa using h); simp [h2])⟩⟩
    · have h11 := notD8 (fun h => HI.out.o11 h) hD
      obtain rfl := HI.out.s27 (by simp_all)
      go_simp
      refine (HNs.out W).mono ?_
      rintro e W' ⟨g, cg, rfl, hg, ho5, hb⟩
      exact HK.out _ _ ⟨_, _, _, _, _, _, _, _, _, _, _, _, rfl, ⟨(Below.inner8 HI.out.bl hb), (by simpa using HI.out.s25), (by simpa using HI.out.s26), (fun _ => rfl), (fun _ => ⟨g, cg, rfl, Nat.le_trans HI.out.bl.size hg, ho5⟩), (by simpa using HI.out.s29), (by simpa using HI.out.s30), (fun h => by obtain ⟨g, cg, e, hl, ho⟩ := HI.out.s31 (by simpa using h); exact ⟨g, cg, e, hl, own_same ho (hb.block g (own_lt ho))⟩), (by simpa using HI.out.s32), (by simpa using HI.out.s33), (by simpa using HI.out.s34), (fun h => by obtain ⟨b, x, y, e, hl, ht, h2⟩ := HI.out.s9 (by simpa using h); exact ⟨b, x, y, e, hl, ht.step hb, fun h3 => h2 (by simpa using h3)⟩), (fun h => by simp [h11] at h), (fun h => by have h2 := HI.out.o9 (by simpa using h); simp [h2]), (fun h => by have h2 := HI.out.o12 (by simpa using h); simp [h2.1, h2.2]), (fun h => by have h2 := HI.out.o11 (by simpa using h); simp [h2])⟩⟩
    · go_simp
      exact HK.out _ _ ⟨_, _, _, _, _, _, _, _, _, _, _, _, rfl, ⟨(by simpa using HI.out.bl), (by simpa using HI.out.s25), (by simpa using HI.out.s26), (by simpa using HI.out.s27), (by simpa using HI.out.s28), (fun _ => rfl), (by simpa using HI.out.s30), (by simpa using HI.out.s31), (by simpa using HI.out.s32), (by simpa using HI.out.s33), (by simpa using HI.out.s34), (by simpa using HI.out.s9), (by simpa using HI.out.s8), (fun h => by have h2 := HI.out.o9 (by simpa using h); simp [h2]), (fun h => by have h2 := HI.out.o12 (by simpa using h); simp [h2.1, h2.2]), (fun h => by have h2 := HI.out.o11 (by simpa using h); simp [h2])⟩⟩
    · obtain rfl := HI.out.s29 (by simp_all)
      have x0 := (HT.out.step HI.out.bl).c0
      go_simp
      exact HK.out _ _ ⟨_, _, _, _, _, _, _, _, _, _, _, _, rfl, ⟨(by simpa using HI.out.bl), (by simpa using HI.out.s25), (by simpa using HI.out.s26), (by simpa using HI.out.s27), (by simpa using HI.out.s28), (fun _ => rfl), (fun _ => rfl), (by simpa using HI.out.s31), (by simpa using HI.out.s32), (by simpa using HI.out.s33), (by simpa using HI.out.s34), (by simpa using HI.out.s9), (by simpa using HI.out.s8), (fun h => by have h2 := HI.out.o9 (by simpa using h); simp [h2]), (fun h => by have h2 := HI.out.o12 (by simpa using h); simp [h2.1, h2.2]), (fun h => by have h2 := HI.out.o11 (by simpa using h); simp [h2])⟩⟩
    · have h9 := notD8 (fun h => HI.out.o9 h) hD
      obtain rfl := HI.out.s30 (by simp_all)
      go_simp
      refine (HOw.out W (HIa.out.step HI.out.bl)).mono ?_
      rintro e W' ⟨g, cg, rfl, hg, ho5, hb⟩
      exact HK.out _ _ ⟨_, _, _, _, _, _, _, _, _, _, _, _, rfl, ⟨(Below.inner8 HI.out.bl hb), (by simpa using HI.out.s25), (by simpa using HI.out.s26), (by simpa using HI.out.s27), (fun h => by obtain ⟨g, cg, e, hl, ho⟩ := HI.out.s28 (by simpa using h); exact ⟨g, cg, e, hl, own_same ho (hb.block g (own_lt ho))⟩), (by simpa using HI.out.s29), (fun _ => rfl), (fun _ => ⟨g, cg, rfl, Nat.le_trans HI.out.bl.size hg, ho5⟩), (by simpa using HI.out.s32), (by simpa using HI.out.s33), (fun h => by simp [h9] at h), (fun h => by obtain ⟨b, x, y, e, hl, ht, h2⟩ := HI.out.s9 (by simpa using h); exact ⟨b, x, y, e, hl, ht.step hb, fun h3 => h2 (by simpa using h3)⟩), (by simpa using HI.out.s8), (fun h => by have h2 := HI.out.o9 (by simpa using h); simp [h2]), (fun h => by have h2 := HI.out.o12 (by simpa using h); simp [h2.1, h2.2]), (fun h => by have h2 := HI.out.o11 (by simpa using h); simp [h2])⟩⟩
    · go_simp
      exact HK.out _ _ ⟨_, _, _, _, _, _, _, _, _, _, _, _, rfl, ⟨(by simpa using HI.out.bl), (by simpa using HI.out.s25), (by simpa using HI.out.s26), (by simpa using HI.out.s27), (by simpa using HI.out.s28), (by simpa using HI.out.s29), (by simpa using HI.out.s30), (by simpa using HI.out.s31), (fun _ => rfl), (by simpa using HI.out.s33), (by simpa using HI.out.s34), (by simpa using HI.out.s9), (by simpa using HI.out.s8), (fun h => by have h2 := HI.out.o9 (by simpa using h); simp [h2]), (fun h => by have h2 := HI.out.o12 (by simpa using h); simp [h2.1, h2.2]), (fun h => by have h2 := HI.out.o11 (by simpa using h); simp [h2])⟩⟩
    · obtain rfl := HI.out.s32 (by simp_all)
      have x1 := (HT.out.step HI.out.bl).c1
      go_simp
      exact HK.out _ _ ⟨_, _, _, _, _, _, _, _, _, _, _, _, rfl, ⟨(by simpa using HI.out.bl), (by simpa using HI.out.s25), (by simpa using HI.out.s26), (by simpa using HI.out.s27), (by simpa using HI.out.s28), (by simpa using HI.out.s29), (by simpa using HI.out.s30), (by simpa using HI.out.s31), (fun _ => rfl), (fun _ => rfl), (by simpa using HI.out.s34), (by simpa using HI.out.s9), (by simpa using HI.out.s8), (fun h => by have h2 := HI.out.o9 (by simpa using h); simp [h2]), (fun h => by have h2 := HI.out.o12 (by simpa using h); simp [h2.1, h2.2]), (fun h => by have h2 := HI.out.o11 (by simpa using h); simp [h2])⟩⟩
    · have q6 : D 6 = true := by simp_all
      have h12 := notD8' (fun h => (HI.out.o12 h).2) (by rw [hD]; decide)
      obtain rfl := HI.out.s33 (by simp_all)
      obtain ⟨g, cg, e31, hg, ho5⟩ := HI.out.s31 q6
      subst e31
      have HO5 := Lib.hid ho5
      clear ho5
      go_simp
      exact HK.out _ _ ⟨_, _, _, _, _, _, _, _, _, _, _, _, rfl, ⟨(by simpa using HI.out.bl), (by simpa using HI.out.s25), (by simpa using HI.out.s26), (by simpa using HI.out.s27), (by simpa using HI.out.s28), (by simpa using HI.out.s29), (by simpa using HI.out.s30), (fun _ => ⟨g, cg, rfl, hg, HO5.out⟩), (by simpa using HI.out.s32), (fun _ => rfl), (fun _ => rfl), (fun h => by obtain ⟨b, x, y, e, hl, ht, h2⟩ := HI.out.s9 (by simpa using h); exact ⟨b, x, y, e, hl, ht, fun h3 => by simp [h12] at h3⟩), (by simpa using HI.out.s8), (fun _ => by simp [q6]), (fun h => by have h2 := HI.out.o12 (by simpa using h); simp [h2.1, h2.2]), (fun h => by have h2 := HI.out.o11 (by simpa using h); simp [h2])⟩⟩
    · have h12 := notD8' (fun h => (HI.out.o12 h).1) (by rw [hD]; decide)
      have hb : Below W.heap.size W (W.alloc (.cells #[.slice none 0 0, .int .i64 0] 36)) := (Below.refl _ _).alloc (Nat.le_refl _) _
      go_simp
      exact HK.out _ _ ⟨_, _, _, _, _, _, _, _, _, _, _, _, rfl, ⟨(Below.inner8 HI.out.bl hb), (by simpa using HI.out.s25), (by simpa using HI.out.s26), (by simpa using HI.out.s27), (fun h => by obtain ⟨g, cg, e, hl, ho⟩ := HI.out.s28 (by simpa using h); exact ⟨g, cg, e, hl, own_same ho (hb.block g (own_lt ho))⟩), (by simpa using HI.out.s29), (by simpa using HI.out.s30), (fun h => by obtain ⟨g, cg, e, hl, ho⟩ := HI.out.s31 (by simpa using h); exact ⟨g, cg, e, hl, own_same ho (hb.block g (own_lt ho))⟩), (by simpa using HI.out.s32), (by simpa using HI.out.s33), (by simpa using HI.out.s34), (fun _ => ⟨W.heap.size, _, _, rfl, HI.out.bl.size, Two.new W _ _ _ _ rfl, fun h3 => by simp [h12] at h3⟩), (by simpa using HI.out.s8), (fun h => by have h2 := HI.out.o9 (by simpa using h); simp [h2]), (fun h => by have h2 := HI.out.o12 (by simpa using h); simp [h2.1, h2.2]), (fun h => by have h2 := HI.out.o11 (by simpa using h); simp [h2])⟩⟩
    · have q0 : D 3 = true := by simp_all
      go_simp
      exact HK.out _ _ ⟨_, _, _, _, _, _, _, _, _, _, _, _, rfl, ⟨(by simpa using HI.out.bl), (by simpa using HI.out.s25), (by simpa using HI.out.s26), (by simpa using HI.out.s27), (by simpa using HI.out.s28), (by simpa using HI.out.s29), (by simpa using HI.out.s30), (by simpa using HI.out.s31), (by simpa using HI.out.s32), (by simpa using HI.out.s33), (by simpa using HI.out.s34), (by simpa using HI.out.s9), (fun _ => rfl), (fun h => by have h2 := HI.out.o9 (by simpa using h); simp [h2]), (fun h => by have h2 := HI.out.o12 (by simpa using h); simp [h2.1, h2.2]), (fun _ => by simp [q0])⟩⟩
    · have q10 : D 10 = true := by simp_all
      have q9 : D 9 = true := by simp_all
      have q6 := HI.out.o9 q9
      obtain ⟨b, x, y, e9, hl9, ht, _⟩ := HI.out.s9 q10
      obtain ⟨g, cg, e31, hg, ho31⟩ := HI.out.s31 q6
      have e34 := HI.out.s34 q9
      subst e34 e31 e9
      have c0 := ht.c0
      have c1 := ht.c1
      have f0 := ht.f0
      have f1 := ht.f1
      obtain ⟨hs', hw'⟩ := stored2 ht.row (.slice (some ⟨g, 0, none⟩) zs.length cg) (.int .i64 (M : Int))
      have HS' := Lib.hid hs'
      have HW' := Lib.hid hw'
      have HGB : Hid (g ≠ b) := Lib.hid (by obtain ⟨cu, hcu, _⟩ := own_at ho31; exact type_ne8 hcu ht.row (by decide))
      have HO31 := Lib.hid ho31
      have HTr := Lib.hid ht
      clear hs' hw' ho31 ht
      go_simp
      exact HK.out _ _ ⟨_, _, _, _, _, _, _, _, _, _, _, _, rfl, ⟨(HI.out.bl.trans (HW'.out.below hl9 HI.out.bl.size)), (by simpa using HI.out.s25), (by simpa using HI.out.s26), (by simpa using HI.out.s27), (fun h => by obtain ⟨g5, cg5, e, hl, ho5⟩ := HI.out.s28 (by simpa using h); obtain ⟨cu, hcu, _⟩ := own_at ho5; exact ⟨g5, cg5, e, hl, own_same ho5 (HW'.out.block g5 (own_lt ho5) (by have := type_ne8 hcu HTr.out.row (by decide); omega))⟩), (by simpa using HI.out.s29), (by simpa using HI.out.s30), (fun _ => ⟨g, cg, rfl, hg, own_same HO31.out (HW'.out.block g (own_lt HO31.out) (by have := HGB.out; omega))⟩), (by simpa using HI.out.s32), (by simpa using HI.out.s33), (fun _ => rfl), (fun _ => ⟨b, _, _, rfl, hl9, ⟨HS'.out⟩, fun _ => rfl⟩), (by simpa using HI.out.s8), (fun h => by have h2 := HI.out.o9 (by simpa using h); simp [h2]), (fun _ => ⟨by simp [q10], by simp [q9]⟩), (fun h => by have h2 := HI.out.o11 (by simpa using h); simp [h2])⟩⟩
  case hd =>
    rintro D _ W ⟨v8, v9, v25, v26, v27, v28, v29, v30, v31, v32, v33, v34, rfl, hI⟩ hall
    obtain ⟨eb, x9, y9, rfl, hle, hte, h9⟩ := hI.s9 (hall 10 (by decide))
    obtain ⟨g0, cg0, e31, hlg, hog⟩ := hI.s31 (hall 6 (by decide))
    obtain ⟨g9, c9, e28, hl9, hon⟩ := hI.s28 (hall 3 (by decide))
    have e34 := hI.s34 (hall 9 (by decide))
    have e9 := h9 (hall 12 (by decide))
    obtain rfl := hI.s8 (hall 11 (by decide))
    subst e34 e31 e28
    simp at e9
    obtain ⟨rfl, rfl⟩ := e9
    have hbl := hI.bl
    obtain rfl := hI.s25 (hall 0 (by decide))
    obtain rfl := hI.s26 (hall 1 (by decide))
    obtain rfl := hI.s27 (hall 2 (by decide))
    obtain rfl := hI.s29 (hall 4 (by decide))
    obtain rfl := hI.s30 (hall 5 (by decide))
    obtain rfl := hI.s32 (hall 7 (by decide))
    obtain rfl := hI.s33 (hall 8 (by decide))
    have n1 : eb ≠ g0 := by obtain ⟨cu, hcu, _⟩ := own_at hog; exact (type_ne8 hcu hte.row (by decide)).symm
    have n2 : eb ≠ g9 := by obtain ⟨cu, hcu, _⟩ := own_at hon; exact (type_ne8 hcu hte.row (by decide)).symm
    have HE := Lib.hid hte
    have HO := Lib.hid hog
    have HN := Lib.hid hon
    replace HV := Lib.hid (past8 HV.out (Past.of_below hbl))
    replace HR := Lib.hid (HR.out.step hbl)
    replace HQ := Lib.hid (HQ.out.step hbl)
    replace HB := Lib.hid (below_trans HB.out hbl)
    have heb2 : w.heap.size + 2 ≤ eb := Nat.le_trans hw2 hle
    have hg02 : w.heap.size + 2 ≤ g0 := Nat.le_trans hw2 hlg
    have hg92 : w.heap.size + 2 ≤ g9 := Nat.le_trans hw2 hl9
    clear hI hall hte hog hon h9 hbl HT HI HOw HNs hle hlg hl9
    obtain ⟨i0, hi0, hz0, hz1, hz2⟩ := info_parts infoB8
    have hHl := playB_len M qs zs
    have HPA := Lib.hid (fun k h => playB_at M qs zs k h)
    generalize hHs : playB M zs qs = Hs at hHl HPA
    have HHs := Lib.hid hHs
    have HHL := Lib.hid hHl
    clear hHs hHl
    unfold sAct8
    refine NoPanic.normal ?_
    go_wp2_with fail
    go_loopw [7, 10] (fun ov i wr => ∃ (k g' c' : Nat), k ≤ qs.length ∧ i = .int .i64 (k : Int) ∧ Hid (wr.ownsRow (w.heap.size + 2) 4 1 ov (Hs.take k).length ((Hs.take k).map Value.bool)) ∧ Hid (Two wr eb (.slice (some ⟨g', 0, none⟩) zs.length c') (.int .i64 (M : Int)) 36) ∧ Hid (Two wr (w.heap.size + 1) (.slice none 0 0) (.int .i64 0) 36) ∧ Hid (Own wr g' (g' + 1) (some ⟨g', 0, none⟩) (endZ (M : Int) zs (qs.take k) (Hs.take k))) ∧ Hid (Own wr g9 (g9 + 1) (some ⟨g9, 0, none⟩) (foundL (M + 1) 10)) ∧ eb ≠ g' ∧ w.heap.size + 2 ≤ g' ∧ Hid (Ins wr lo2 hi2 A2 qs) ∧ Hid (Below w.heap.size w wr)) (fun _ i _ => qs.length - (intOf i).toNat)
    case atStart => exact ⟨0, g0, cg0, Nat.zero_le _, rfl, HV, HE, HR, by simpa [endZ] using HO, HN, n1, hg02, HQ, HB⟩
    case round =>
      clear HV HE HR HO HN n1 hg02 HQ HB
      obtain ⟨k, g', c', hk, rfl, HV, HE, HR, HO, HN, n1, hg', HQ, HB⟩ := hrel
      by_cases hlt : k < qs.length
      · obtain ⟨b, o, rfl, _, hb, hc⟩ := HQ.out.ints.at_ hlt
        have hki : (k : Int) < (qs.length : Int) := by omega
        have hkH : k < Hs.length := by have := HHL.out; omega
        have HC := Lib.hid (One8.mk hc)
        have HNX := Lib.hid (endZ_take (M : Int) qs zs Hs k _ _ (List.getElem?_eq_getElem hlt) (List.getElem?_eq_getElem hkH))
        have hst := endZ_isSt (M : Int) (qs.take k) zs (Hs.take k) HST.out
        have hzl := endZ_len (M : Int) (qs.take k) zs (Hs.take k)
        have hop := Nat.le_trans (opens_end8 (M : Int) (qs.take k) zs (Hs.take k)) HOP.out
        have hyg : Hs[k] = holdB (endZ (M : Int) zs (qs.take k) (Hs.take k)) M qs[k] := by have h1 := HPA.out k hlt; rw [List.getElem?_eq_getElem hkH] at h1; injection h1
        have HTK := Lib.hid (show Hs.take (k + 1) = Hs.take k ++ [Hs[k]] from List.take_succ_eq_append_getElem hkH)
        have hlk : (Hs.take k).length ≤ 8 := by rw [List.length_take]; omega
        generalize endZ (M : Int) zs (qs.take k) (Hs.take k) = z at hst hzl hop HO HNX hyg
        obtain ⟨r, s, hr⟩ := rows_of qs[k] hst hop
        generalize qs[k] = q at hc HC HNX hyg hr
        have HHo := Lib.hid (fun W h hN => l8Hold_any (some ⟨g', 0, none⟩) c' g' (g' + 1) z M q r s g9 c9 W h hst hr hN)
        rw [hzl, ← hyg] at HHo
        generalize hy9 : Hs[k] = y at HNX HHo HTK hyg
        generalize hL9 : Hs.take k = L at HV HTK hlk
        have HAf := Lib.hid (fun W h => l2After_any (some ⟨g', 0, none⟩) c' g' (g' + 1) z (M : Int) q y W h hst)
        rw [hzl] at HAf
        clear hst hop hyg hr hzl hc hy9 hL9
        go_wp2_with fail
        go_region_held3 (fun w' => w'.cell? ⟨eb, 0, none⟩ = some (.slice (some ⟨g', 0, none⟩) zs.length c') ∧ w'.cell? ⟨eb, 1, none⟩ = some (.int .i64 (M : Int)) ∧ w'.cell? ⟨b, o + k, none⟩ = some (.int .i64 q))
          (first
           | exact ⟨(HE.out.step (Below.refl _ wr).drew).c0, (HE.out.step (Below.refl _ wr).drew).c1, (HC.out.step (Below.refl _ wr).drew).c⟩
           | exact ⟨(HE_1.out).c0, (HE_1.out).c1, (HC_1.out).c⟩)
          (first
           | (go_at_call 98; (with_reducible refine (HHo.out wr.drew (own_ins8' (own_same HO.out rfl)) (own_same HN.out rfl)).mono ?_); rintro e v1 ⟨rfl, hb⟩; have HZ1 := Lib.hid (below_trans (Below.refl _ wr).drew hb); have HE_1 := Lib.hid (HE.out.step HZ1.out); have HR_1 := Lib.hid (HR.out.step HZ1.out); have HQ_1 := Lib.hid (HQ.out.step HZ1.out); have HC_1 := Lib.hid (HC.out.step HZ1.out); have HB_1 := Lib.hid (below_trans HB.out HZ1.out); have HV_1 := Lib.hid (past8 HV.out (Past.of_below HZ1.out)); have HO_1 := Lib.hid (own_same HO.out (HZ1.out.block g' (own_lt HO.out))); have HN_1 := Lib.hid (own_same HN.out (HZ1.out.block g9 (own_lt HN.out))); clear hb))
        all_goals
          clear HE HR HQ HC HB HV HO HN HZ1 HHo
          have hown := HV_1.out
          have hws := HB_1.out.size
          have hHRl := HR_1.out.lt
          have hw2b : w.heap.size + 2 ≤ v1.heap.size := by have h9 := own_lt HN_1.out; omega
          go_wp2_with (at_builtin; refine wpList_append_own _ rfl _ _ 53 rfl (w.heap.size + 2) 4 i0 (.bool false) 1 1 Try.underlying53 hi0 hz0 hz1 hz2 rfl (by decide) _ _ _ rfl (hown.alloc _) ⟨_, 0, none⟩ 1 1 [.bool y] rfl rfl (cell_one_new _ _ _) (by simp [Value.oneCell']) (by unfold maxLen; omega) (by omega) (by simp; omega) ?_; intro v' w5 hown' hgrow _)
          have HV5 := Lib.hid (bool_snoc8 hown' rfl)
          have hps := Past.grown hown hgrow
          have HE5 := Lib.hid (grown_two8 hown HE_1.out (by decide) hgrow)
          have HR5 := Lib.hid (grown_two8 hown HR_1.out (by decide) hgrow)
          have HO5 := Lib.hid (grown_own8 hown HO_1.out (by decide) hgrow)
          have HN5 := Lib.hid (grown_own8 hown HN_1.out (by decide) hgrow)
          have HQ5 := Lib.hid (HQ_1.out.past hps (by omega))
          have HC5 := Lib.hid (One8.past8 HC_1.out hps (by simp only; omega))
          have HB5 := Lib.hid (HB_1.out.trans (hps.below (by omega) hws))
          clear hown' hgrow hown HV_1 HE_1 HR_1 HO_1 HN_1 HQ_1 HC_1 HB_1 hps
          have hweb := HE5.out.lt
          have hwg9 := own_lt HN5.out
          have HSE := Lib.hid hweb
          have HSN := Lib.hid hwg9
          clear hweb hwg9
          go_wp2_with fail
          have hbd := (Below.refl w5.heap.size w5).drew
          replace HE5 := Lib.hid (HE5.out.step hbd)
          replace HR5 := Lib.hid (HR5.out.step hbd)
          replace HQ5 := Lib.hid (HQ5.out.step hbd)
          replace HC5 := Lib.hid (HC5.out.step hbd)
          replace HB5 := Lib.hid (below_trans HB5.out hbd)
          replace HV5 := Lib.hid (past8 HV5.out (Past.of_below hbd))
          replace HO5 := Lib.hid (own_same HO5.out (hbd.block g' (own_lt HO5.out)))
          replace HN5 := Lib.hid (own_same HN5.out (hbd.block g9 (own_lt HN5.out)))
          replace HSE := Lib.hid (Nat.lt_of_lt_of_le HSE.out hbd.size)
          replace HSN := Lib.hid (Nat.lt_of_lt_of_le HSN.out hbd.size)
          clear hbd
          refine wp_region_still_tail 6 (by kernel_rfl) (by kernel_rfl) ?_
          change wpStill _ _ w5.drew (fun a' => wpList _ _ _ _ a' w5.drew) _ _
          generalize w5.drew = w41 at HE5 HR5 HQ5 HC5 HB5 HV5 HO5 HN5 HSE HSN ⊢
          have h0 := HE5.out.c0
          have h1 := HE5.out.c1
          have hc := HC5.out.c
          simp only [List.take_succ_cons, List.take_zero, List.drop_succ_cons, List.drop_zero]
          repeat still_step
          refine wpStill_nil ?_
          clear HC5
          have hwe := HSE.out
          have hwn := HSN.out
          go_wp2_with fail
          with_reducible refine (HAf.out w41 (own_ins8' HO5.out)).mono ?_
          rintro e w42 ⟨g2, cg, rfl, hg, ho, hb⟩
          replace HE5 := Lib.hid (HE5.out.step hb)
          replace HR5 := Lib.hid (HR5.out.step hb)
          replace HQ5 := Lib.hid (HQ5.out.step hb)
          replace HB5 := Lib.hid (below_trans HB5.out hb)
          replace HV5 := Lib.hid (past8 HV5.out (Past.of_below hb))
          replace HO5 := Lib.hid (own_same HO5.out (hb.block g' (own_lt HO5.out)))
          replace HN5 := Lib.hid (own_same HN5.out (hb.block g9 (own_lt HN5.out)))
          replace HSE := Lib.hid (Nat.lt_of_lt_of_le HSE.out hb.size)
          replace HSN := Lib.hid (Nat.lt_of_lt_of_le HSN.out hb.size)
          replace h0 := HE5.out.c0
          replace h1 := HE5.out.c1
          have HO2 := Lib.hid ho
          clear hb
          clear h0 h1
          clear hc HO5 HAf ho
          have q0 := HE5.out.c0
          have q1 := HE5.out.c1
          have q2 := HE5.out.f0
          have q3 := HE5.out.f1
          obtain ⟨hs, hw⟩ := stored2 HE5.out.row (.slice (some ⟨g2, 0, none⟩) zs.length cg) (.int .i64 (M : Int))
          have HS2 := Lib.hid hs
          have HW2 := Lib.hid hw
          clear hs hw
          have HEV := Lib.hid (HE5.out)
          go_wp2
          generalize ((w42.setCell ⟨eb, 0, none⟩ (.slice (some ⟨g2, 0, none⟩) zs.length cg)).setCell ⟨eb, 1, none⟩ (.int .i64 (M : Int))) = wf at HS2 HW2 ⊢
          go_roundw
          case rel => exact ⟨k + 1, g2, cg, by omega, by go_num, by rw [HTK.out]; exact Lib.hid (row_two8 HV5.out HEV.out (by decide) HW2.out), Lib.hid ⟨HS2.out⟩, Lib.hid (HR5.out.within HW2.out (.inl (by omega))), Lib.hid (by rw [HNX.out]; exact own_same HO2.out (HW2.out.block g2 (own_lt HO2.out) (by omega))), Lib.hid (own_same HN5.out (HW2.out.block g9 (own_lt HN5.out) (by omega))), by omega, by omega, Lib.hid (HQ5.out.within HW2.out (.inl (by omega))), Lib.hid (HB5.out.trans (HW2.out.below (by omega) HB5.out.size))⟩
          case measure => simp [intOf]; omega
      · obtain rfl : k = qs.length := by omega
        have hHl := HHL.out
        have eT : Hs.take qs.length = Hs := List.take_of_length_le (by omega)
        rw [eT] at HV
        rw [List.take_length, eT] at HO
        have HHl2 := Lib.hid hHl
        clear eT hHl
        obtain ⟨Ab, cb, hov, hRB⟩ := own_resB HV.out rfl
        have HRB := Lib.hid hRB
        rw [HHl2.out] at hov
        subst hov
        clear hRB
        have e0 := HE.out.c0
        have e1 := HE.out.c1
        have q0 := HR.out.c0
        have q1 := HR.out.c1
        have q2 := HR.out.f0
        have q3 := HR.out.f1
        go_wp2_with fail
        go_region_with (fail)
        all_goals
          go_wp2
          obtain ⟨hs, hw⟩ := stored2 HR.out.row (.slice (some ⟨g', 0, none⟩) zs.length c') (.int .i64 (M : Int))
          generalize ((wr.setCell ⟨w.heap.size + 1, 0, none⟩ (.slice (some ⟨g', 0, none⟩) zs.length c')).setCell ⟨w.heap.size + 1, 1, none⟩ (.int .i64 (M : Int))) = wf at hs hw ⊢
          have x0 := two0 hs
          have x1 := two1 hs
          refine bodyPost_ret (v := .tuple #[.slice Ab qs.length cb, .agg #[.slice (some ⟨g', 0, none⟩) zs.length c', .int .i64 (M : Int)], .bool true]) (by simp [results, go_sem, x0, x1]) rfl ?_
          rw [HHs.out]
          have hog := own_same (w' := wf.drew) HO.out (hw.block g' (own_lt HO.out) (by omega))
          have hrb : BRes wf.drew (w.heap.size + 2) wf.drew.heap.size Ab Hs := ⟨(HRB.out.within hw (.inr (by omega))).own.topZ8 hw.size, Nat.le_refl _⟩
          obtain ⟨lo1, hi1, hB1, hd1, hl1⟩ := BRes.apart8 hrb hog
          exact ⟨Ab, cb, some ⟨g', 0, none⟩, c', lo1, hi1, g', g' + 1, rfl, hB1, ⟨hog, own_lt hog⟩, hd1, by omega, by omega, (HB.out.trans (hw.below (by omega) HB.out.size)).drew⟩
end Go.Proofs.Ytdkffkgoalgjmab
namespace Go.Proofs.Ytdkffkgoalgjmab
open Go.RowKit Go.ChangeShapes Go.WideShapes Go.Maps
set_option linter.unusedVariables false

set_option maxRecDepth 100000 in
set_option maxHeartbeats 8000000 in
theorem holdPlay_impl_no1 (A : Option Addr) (c lo hi : Nat) (zs : List Int) (m : Int) (A2 : Option Addr) (c2 lo2 hi2 : Nat) (qs : List Int) (w : World) (hS : Ins w lo hi A zs) (hQ : Ins w lo2 hi2 A2 qs) (hn : zs.length ≤ 1048576) (hn2 : qs.length ≤ 1048576) (hc : canB zs m = false) :
    Calls Try.prog 51 #[.agg #[.slice A zs.length c, .int .i64 m], .slice A2 qs.length c2] w fun e w' => ∃ Bb cb lo1 hi1, e = .returned (.tuple #[.slice Bb 0 cb, .agg #[.slice none 0 0, .int .i64 0], .bool false]) ∧ BRes w' lo1 hi1 Bb [] ∧ w.heap.size ≤ lo1 ∧ Below w.heap.size w w' := by
  have HT := Lib.hid (Two.new w (.slice A zs.length c) (.int .i64 m) 36 (w.heap.size) rfl)
  have HB := Lib.hid ((Below.refl w.heap.size w).alloc (Nat.le_refl _) (.cells #[.slice A zs.length c, .int .i64 m] 36))
  have HR := Lib.hid (Two.new (w.alloc (.cells #[.slice A zs.length c, .int .i64 m] 36)) (.slice none 0 0) (.int .i64 0) 36 (w.heap.size + 1) (by simp))
  replace HT := Lib.hid (HT.out.step ((Below.refl _ _).alloc (Nat.le_refl _) (.cells #[.slice none 0 0, .int .i64 0] 36)))
  replace HB := Lib.hid (HB.out.alloc HB.out.size (.cells #[.slice none 0 0, .int .i64 0] 36))
  have HI := Lib.hid (hS.step HB.out)
  have HQ := Lib.hid (hQ.step HB.out)
  have HC := Lib.hid (fun W h => canHold_any A c lo hi zs m W h hn)
  have HG := Lib.hid (fun W h h2 => areListed_any A c lo hi zs m A2 c2 lo2 hi2 qs W h h2 hn hn2)
  rw [hc] at HC
  clear hS hQ hc HG
  go_enter Try.func51, Try.ntmps51
  go_wp2_with fail
  generalize (w.alloc (.cells #[.slice A zs.length c, .int .i64 m] 36)).alloc (.cells #[.slice none 0 0, .int .i64 0] 36) = w0 at HT HR HB HI HQ ⊢
  have h0 := HT.out.c0
  have h1 := HT.out.c1
  with_reducible refine (HC.out _ HI.out).mono ?_
  rintro e w1 ⟨rfl, hb⟩
  replace HT := Lib.hid (HT.out.step hb)
  replace HR := Lib.hid (HR.out.step hb)
  replace HB := Lib.hid (below_trans HB.out hb)
  replace HI := Lib.hid (HI.out.step hb)
  replace HQ := Lib.hid (HQ.out.step hb)
  replace h0 := HT.out.c0
  replace h1 := HT.out.c1
  clear hb
  clear h0 h1
  have q0 := HR.out.c0
  have q1 := HR.out.c1
  have q2 := HR.out.f0
  have q3 := HR.out.f1
  have hr9 := HR.out.lt
  go_wp2
  have hsz := HB.out.size
  obtain ⟨hs, hw⟩ := stored2 HR.out.row (.slice none 0 0) (.int .i64 0)
  have hse : ((w1.setCell ⟨w.heap.size + 1, 0, none⟩ (.slice none 0 0)).setCell ⟨w.heap.size + 1, 1, none⟩ (.int .i64 0)).heap.size = w1.heap.size := by simp [World.setCell]
  generalize ((w1.setCell ⟨w.heap.size + 1, 0, none⟩ (.slice none 0 0)).setCell ⟨w.heap.size + 1, 1, none⟩ (.int .i64 0)) = wf at hs hw hse ⊢
  have hba := (Below.refl wf.heap.size wf).alloc (Nat.le_refl _) (.cells #[] 4)
  have hT2 := Two.step ⟨hs⟩ hba
  have e0 := hT2.c0
  have e1 := hT2.c1
  have hRB := empty_resB8 wf wf.heap.size (Nat.le_refl _)
  have hBB := HB.out.trans (hw.below (by omega) HB.out.size)
  rw [show (some (⟨wf.heap.size, 0, none⟩ : Addr)) = some ⟨w1.heap.size, 0, none⟩ by rw [hse]] at hRB
  refine bodyPost_ret (v := .tuple #[.slice (some ⟨w1.heap.size, 0, none⟩) 0 0, .agg #[.slice none 0 0, .int .i64 0], .bool false]) (by simp [results, go_sem, e0, e1]) rfl ?_
  exact ⟨_, 0, _, _, rfl, hRB, hBB.size, hBB.alloc hBB.size _⟩
set_option maxRecDepth 100000 in
set_option maxHeartbeats 8000000 in
theorem holdPlay_impl_no2 (A : Option Addr) (c lo hi : Nat) (zs : List Int) (m : Int) (A2 : Option Addr) (c2 lo2 hi2 : Nat) (qs : List Int) (w : World) (hS : Ins w lo hi A zs) (hQ : Ins w lo2 hi2 A2 qs) (hn : zs.length ≤ 1048576) (hn2 : qs.length ≤ 1048576) (hc : canB zs m = true) (hok : lOK zs m qs = false) :
    Calls Try.prog 51 #[.agg #[.slice A zs.length c, .int .i64 m], .slice A2 qs.length c2] w fun e w' => ∃ Bb cb lo1 hi1, e = .returned (.tuple #[.slice Bb 0 cb, .agg #[.slice none 0 0, .int .i64 0], .bool false]) ∧ BRes w' lo1 hi1 Bb [] ∧ w.heap.size ≤ lo1 ∧ Below w.heap.size w w' := by
  have HT := Lib.hid (Two.new w (.slice A zs.length c) (.int .i64 m) 36 (w.heap.size) rfl)
  have HB := Lib.hid ((Below.refl w.heap.size w).alloc (Nat.le_refl _) (.cells #[.slice A zs.length c, .int .i64 m] 36))
  have HR := Lib.hid (Two.new (w.alloc (.cells #[.slice A zs.length c, .int .i64 m] 36)) (.slice none 0 0) (.int .i64 0) 36 (w.heap.size + 1) (by simp))
  replace HT := Lib.hid (HT.out.step ((Below.refl _ _).alloc (Nat.le_refl _) (.cells #[.slice none 0 0, .int .i64 0] 36)))
  replace HB := Lib.hid (HB.out.alloc HB.out.size (.cells #[.slice none 0 0, .int .i64 0] 36))
  have HI := Lib.hid (hS.step HB.out)
  have HQ := Lib.hid (hQ.step HB.out)
  have HC := Lib.hid (fun W h => canHold_any A c lo hi zs m W h hn)
  have HG := Lib.hid (fun W h h2 => areListed_any A c lo hi zs m A2 c2 lo2 hi2 qs W h h2 hn hn2)
  rw [hc] at HC
  rw [hok] at HG
  clear hS hQ hc hok
  go_enter Try.func51, Try.ntmps51
  go_wp2_with fail
  generalize (w.alloc (.cells #[.slice A zs.length c, .int .i64 m] 36)).alloc (.cells #[.slice none 0 0, .int .i64 0] 36) = w0 at HT HR HB HI HQ ⊢
  have h0 := HT.out.c0
  have h1 := HT.out.c1
  with_reducible refine (HC.out _ HI.out).mono ?_
  rintro e w1 ⟨rfl, hb⟩
  replace HT := Lib.hid (HT.out.step hb)
  replace HR := Lib.hid (HR.out.step hb)
  replace HB := Lib.hid (below_trans HB.out hb)
  replace HI := Lib.hid (HI.out.step hb)
  replace HQ := Lib.hid (HQ.out.step hb)
  replace h0 := HT.out.c0
  replace h1 := HT.out.c1
  clear hb
  go_wp2_with fail
  with_reducible refine (HG.out w1 HI.out HQ.out).mono ?_
  rintro e w2 ⟨rfl, hb⟩
  replace HT := Lib.hid (HT.out.step hb)
  replace HR := Lib.hid (HR.out.step hb)
  replace HB := Lib.hid (below_trans HB.out hb)
  replace HI := Lib.hid (HI.out.step hb)
  replace HQ := Lib.hid (HQ.out.step hb)
  replace h0 := HT.out.c0
  replace h1 := HT.out.c1
  clear hb
  clear h0 h1
  have q0 := HR.out.c0
  have q1 := HR.out.c1
  have q2 := HR.out.f0
  have q3 := HR.out.f1
  have hr9 := HR.out.lt
  go_wp2
  have hsz := HB.out.size
  obtain ⟨hs, hw⟩ := stored2 HR.out.row (.slice none 0 0) (.int .i64 0)
  have hse : ((w2.setCell ⟨w.heap.size + 1, 0, none⟩ (.slice none 0 0)).setCell ⟨w.heap.size + 1, 1, none⟩ (.int .i64 0)).heap.size = w2.heap.size := by simp [World.setCell]
  generalize ((w2.setCell ⟨w.heap.size + 1, 0, none⟩ (.slice none 0 0)).setCell ⟨w.heap.size + 1, 1, none⟩ (.int .i64 0)) = wf at hs hw hse ⊢
  have hba := (Below.refl wf.heap.size wf).alloc (Nat.le_refl _) (.cells #[] 4)
  have hT2 := Two.step ⟨hs⟩ hba
  have e0 := hT2.c0
  have e1 := hT2.c1
  have hRB := empty_resB8 wf wf.heap.size (Nat.le_refl _)
  have hBB := HB.out.trans (hw.below (by omega) HB.out.size)
  rw [show (some (⟨wf.heap.size, 0, none⟩ : Addr)) = some ⟨w2.heap.size, 0, none⟩ by rw [hse]] at hRB
  refine bodyPost_ret (v := .tuple #[.slice (some ⟨w2.heap.size, 0, none⟩) 0 0, .agg #[.slice none 0 0, .int .i64 0], .bool false]) (by simp [results, go_sem, e0, e1]) rfl ?_
  exact ⟨_, 0, _, _, rfl, hRB, hBB.size, hBB.alloc hBB.size _⟩
set_option maxRecDepth 100000 in
set_option maxHeartbeats 8000000 in
theorem holdPlay_spec_no1 (A : Option Addr) (c lo hi : Nat) (zs : List Int) (m : Int) (A2 : Option Addr) (c2 lo2 hi2 : Nat) (qs : List Int) (w : World) (hS : Ins w lo hi A zs) (hQ : Ins w lo2 hi2 A2 qs) (hn : zs.length ≤ 1048576) (hn2 : qs.length ≤ 1048576) (hok : lOK zs m qs = false) :
    Calls Try.prog 50 #[.agg #[.slice A zs.length c, .int .i64 m], .slice A2 qs.length c2] w fun e w' => ∃ Bb cb lo1 hi1, e = .returned (.tuple #[.slice Bb 0 cb, .agg #[.slice none 0 0, .int .i64 0], .bool false]) ∧ BRes w' lo1 hi1 Bb [] ∧ w.heap.size ≤ lo1 ∧ Below w.heap.size w w' := by
  have HT := Lib.hid (Two.new w (.slice A zs.length c) (.int .i64 m) 36 (w.heap.size) rfl)
  have HB := Lib.hid ((Below.refl w.heap.size w).alloc (Nat.le_refl _) (.cells #[.slice A zs.length c, .int .i64 m] 36))
  have HR := Lib.hid (Two.new (w.alloc (.cells #[.slice A zs.length c, .int .i64 m] 36)) (.slice none 0 0) (.int .i64 0) 36 (w.heap.size + 1) (by simp))
  replace HT := Lib.hid (HT.out.step ((Below.refl _ _).alloc (Nat.le_refl _) (.cells #[.slice none 0 0, .int .i64 0] 36)))
  replace HB := Lib.hid (HB.out.alloc HB.out.size (.cells #[.slice none 0 0, .int .i64 0] 36))
  have htop := hS.top
  have htop2 := hQ.top
  have HI := Lib.hid (hS.step HB.out)
  have HQ := Lib.hid (hQ.step HB.out)
  have hbe := (Below.refl _ ((w.alloc (.cells #[.slice A zs.length c, .int .i64 m] 36)).alloc (.cells #[.slice none 0 0, .int .i64 0] 36))).alloc (Nat.le_refl _) (.cells #[] 4)
  have HV := Lib.hid (B0_any ((w.alloc (.cells #[.slice A zs.length c, .int .i64 m] 36)).alloc (.cells #[.slice none 0 0, .int .i64 0] 36)) (w.heap.size + 2) (by simp))
  replace HT := Lib.hid (HT.out.step hbe)
  replace HR := Lib.hid (HR.out.step hbe)
  replace HB := Lib.hid (below_trans HB.out hbe)
  replace HI := Lib.hid (HI.out.step hbe)
  replace HQ := Lib.hid (HQ.out.step hbe)
  have hsz1 : ((w.alloc (.cells #[.slice A zs.length c, .int .i64 m] 36)).alloc (.cells #[.slice none 0 0, .int .i64 0] 36)).heap.size = w.heap.size + 2 := by simp
  rw [hsz1] at HV
  clear hbe hsz1
  have HG := Lib.hid (fun W h h2 => l8Good_any A c lo hi zs m A2 c2 lo2 hi2 qs W h h2 hn hn2)
  rw [hok] at HG
  clear hS hQ hok
  go_enter Try.func50, Try.ntmps50
  go_wp2_with fail
  generalize ((w.alloc (.cells #[.slice A zs.length c, .int .i64 m] 36)).alloc (.cells #[.slice none 0 0, .int .i64 0] 36)).alloc (.cells #[] 4) = w0 at HT HR HB HI HQ HV ⊢
  have h0 := HT.out.c0
  have h1 := HT.out.c1
  with_reducible refine (HG.out _ HI.out HQ.out).mono ?_
  rintro e w1 ⟨rfl, hb⟩
  replace HT := Lib.hid (HT.out.step hb)
  replace HR := Lib.hid (HR.out.step hb)
  replace HB := Lib.hid (below_trans HB.out hb)
  replace HI := Lib.hid (HI.out.step hb)
  replace HQ := Lib.hid (HQ.out.step hb)
  replace HV := Lib.hid (past8 HV.out (Past.of_below hb))
  replace h0 := HT.out.c0
  replace h1 := HT.out.c1
  clear hb
  clear h0 h1
  have q0 := HR.out.c0
  have q1 := HR.out.c1
  have q2 := HR.out.f0
  have q3 := HR.out.f1
  have hr9 := HR.out.lt
  go_wp2
  obtain ⟨Ae, ce, he, hRB⟩ := own_resB (bs := []) HV.out rfl
  injection he with e9 _ e8
  subst e9 e8
  have hsz := HB.out.size
  obtain ⟨hs, hw⟩ := stored2 HR.out.row (.slice none 0 0) (.int .i64 0)
  generalize ((w1.setCell ⟨w.heap.size + 1, 0, none⟩ (.slice none 0 0)).setCell ⟨w.heap.size + 1, 1, none⟩ (.int .i64 0)) = wf at hs hw ⊢
  have e0 := two0 hs
  have e1 := two1 hs
  refine bodyPost_ret (v := .tuple #[.slice (some ⟨w.heap.size + 1 + 1, 0, none⟩) 0 0, .agg #[.slice none 0 0, .int .i64 0], .bool false]) (by simp [results, go_sem, e0, e1]) rfl ?_
  exact ⟨_, 0, _, _, rfl, hRB.within hw (.inr (by omega)), by omega, HB.out.trans (hw.below (by omega) HB.out.size)⟩
set_option maxRecDepth 100000 in
set_option maxHeartbeats 8000000 in
theorem holdPlay_spec_no2 (A : Option Addr) (c lo hi : Nat) (zs : List Int) (m : Int) (A2 : Option Addr) (c2 lo2 hi2 : Nat) (qs : List Int) (w : World) (hS : Ins w lo hi A zs) (hQ : Ins w lo2 hi2 A2 qs) (hn : zs.length ≤ 1048576) (hn2 : qs.length ≤ 1048576) (hL : Listed zs m qs) (h8 : ¬ (opens zs).length ≤ 8) :
    Calls Try.prog 50 #[.agg #[.slice A zs.length c, .int .i64 m], .slice A2 qs.length c2] w fun e w' => ∃ Bb cb lo1 hi1, e = .returned (.tuple #[.slice Bb 0 cb, .agg #[.slice none 0 0, .int .i64 0], .bool false]) ∧ BRes w' lo1 hi1 Bb [] ∧ w.heap.size ≤ lo1 ∧ Below w.heap.size w w' := by
  have HT := Lib.hid (Two.new w (.slice A zs.length c) (.int .i64 m) 36 (w.heap.size) rfl)
  have HB := Lib.hid ((Below.refl w.heap.size w).alloc (Nat.le_refl _) (.cells #[.slice A zs.length c, .int .i64 m] 36))
  have HR := Lib.hid (Two.new (w.alloc (.cells #[.slice A zs.length c, .int .i64 m] 36)) (.slice none 0 0) (.int .i64 0) 36 (w.heap.size + 1) (by simp))
  replace HT := Lib.hid (HT.out.step ((Below.refl _ _).alloc (Nat.le_refl _) (.cells #[.slice none 0 0, .int .i64 0] 36)))
  replace HB := Lib.hid (HB.out.alloc HB.out.size (.cells #[.slice none 0 0, .int .i64 0] 36))
  have htop := hS.top
  have htop2 := hQ.top
  have HI := Lib.hid (hS.step HB.out)
  have HQ := Lib.hid (hQ.step HB.out)
  have hbe := (Below.refl _ ((w.alloc (.cells #[.slice A zs.length c, .int .i64 m] 36)).alloc (.cells #[.slice none 0 0, .int .i64 0] 36))).alloc (Nat.le_refl _) (.cells #[] 4)
  have HV := Lib.hid (B0_any ((w.alloc (.cells #[.slice A zs.length c, .int .i64 m] 36)).alloc (.cells #[.slice none 0 0, .int .i64 0] 36)) (w.heap.size + 2) (by simp))
  replace HT := Lib.hid (HT.out.step hbe)
  replace HR := Lib.hid (HR.out.step hbe)
  replace HB := Lib.hid (below_trans HB.out hbe)
  replace HI := Lib.hid (HI.out.step hbe)
  replace HQ := Lib.hid (HQ.out.step hbe)
  have hsz1 : ((w.alloc (.cells #[.slice A zs.length c, .int .i64 m] 36)).alloc (.cells #[.slice none 0 0, .int .i64 0] 36)).heap.size = w.heap.size + 2 := by simp
  rw [hsz1] at HV
  clear hbe hsz1
  have HG := Lib.hid (fun W h h2 => l8Good_any A c lo hi zs m A2 c2 lo2 hi2 qs W h h2 (by have := hL.len; omega) (by have := hL.q8; omega))
  rw [hL.ok1] at HG
  have hl := hL.len
  have HO := Lib.hid (fun W h => l2Open_any A c lo hi zs m W h hl.2)
  have hoI : ¬ ((opens zs).length : Int) ≤ 8 := by omega
  have hoJ : (8 : Int) < ((opens zs).length : Int) := by omega
  clear hS hQ hL h8
  go_enter Try.func50, Try.ntmps50
  go_wp2_with fail
  generalize ((w.alloc (.cells #[.slice A zs.length c, .int .i64 m] 36)).alloc (.cells #[.slice none 0 0, .int .i64 0] 36)).alloc (.cells #[] 4) = w0 at HT HR HB HI HQ HV ⊢
  have h0 := HT.out.c0
  have h1 := HT.out.c1
  with_reducible refine (HG.out _ HI.out HQ.out).mono ?_
  rintro e w1 ⟨rfl, hb⟩
  replace HT := Lib.hid (HT.out.step hb)
  replace HR := Lib.hid (HR.out.step hb)
  replace HB := Lib.hid (below_trans HB.out hb)
  replace HI := Lib.hid (HI.out.step hb)
  replace HQ := Lib.hid (HQ.out.step hb)
  replace HV := Lib.hid (past8 HV.out (Past.of_below hb))
  replace h0 := HT.out.c0
  replace h1 := HT.out.c1
  clear hb
  go_wp2_with fail
  with_reducible refine (HO.out w1 HI.out).mono ?_
  rintro e w2 ⟨v, rfl, ho, hb⟩
  replace HT := Lib.hid (HT.out.step hb)
  replace HR := Lib.hid (HR.out.step hb)
  replace HB := Lib.hid (below_trans HB.out hb)
  replace HI := Lib.hid (HI.out.step hb)
  replace HQ := Lib.hid (HQ.out.step hb)
  replace HV := Lib.hid (past8 HV.out (Past.of_below hb))
  replace h0 := HT.out.c0
  replace h1 := HT.out.c1
  obtain ⟨Ao, co, rfl, _, _⟩ := own_res ho rfl
  clear ho
  clear hb
  clear h0 h1
  have q0 := HR.out.c0
  have q1 := HR.out.c1
  have q2 := HR.out.f0
  have q3 := HR.out.f1
  have hr9 := HR.out.lt
  go_wp2
  obtain ⟨Ae, ce, he, hRB⟩ := own_resB (bs := []) HV.out rfl
  injection he with e9 _ e8
  subst e9 e8
  have hsz := HB.out.size
  obtain ⟨hs, hw⟩ := stored2 HR.out.row (.slice none 0 0) (.int .i64 0)
  generalize ((w2.setCell ⟨w.heap.size + 1, 0, none⟩ (.slice none 0 0)).setCell ⟨w.heap.size + 1, 1, none⟩ (.int .i64 0)) = wf at hs hw ⊢
  have e0 := two0 hs
  have e1 := two1 hs
  refine bodyPost_ret (v := .tuple #[.slice (some ⟨w.heap.size + 1 + 1, 0, none⟩) 0 0, .agg #[.slice none 0 0, .int .i64 0], .bool false]) (by simp [results, go_sem, e0, e1]) rfl ?_
  exact ⟨_, 0, _, _, rfl, hRB.within hw (.inr (by omega)), by omega, HB.out.trans (hw.below (by omega) HB.out.size)⟩
theorem holdPlay_both (zs : List Int) (m : Int) (h : zs.length ≤ 1048576) (qs : List Int) (h2 : qs.length ≤ 1048576) : ∃ (r0 : List Bool) (r1 : List Int) (u1 : Int) (r2 : Bool), r0.length ≤ 1048576 ∧ r1.length ≤ 1048576 ∧
    (∀ (w : World) (B : Option Addr) (c lo hi : Nat) (B2 : Option Addr) (c2 lo2 hi2 : Nat), Ins w lo hi B zs → Ins w lo2 hi2 B2 qs → Calls Try.prog 51 #[.agg #[.slice B zs.length c, .int .i64 m], .slice B2 qs.length c2] w fun e w' => ∃ Bb cb A' c' lo1 hi1 lo3 hi3, e = .returned (.tuple #[.slice Bb r0.length cb, .agg #[.slice A' r1.length c', .int .i64 u1], .bool r2]) ∧ BRes w' lo1 hi1 Bb r0 ∧ Res w' lo3 hi3 A' r1 ∧ (hi1 ≤ lo3 ∨ hi3 ≤ lo1) ∧ w.heap.size ≤ lo1 ∧ w.heap.size ≤ lo3 ∧ Below w.heap.size w w') ∧
    (∀ (w : World) (B : Option Addr) (c lo hi : Nat) (B2 : Option Addr) (c2 lo2 hi2 : Nat), Ins w lo hi B zs → Ins w lo2 hi2 B2 qs → Calls Try.prog 50 #[.agg #[.slice B zs.length c, .int .i64 m], .slice B2 qs.length c2] w fun e w' => ∃ Bb cb A' c' lo1 hi1 lo3 hi3, e = .returned (.tuple #[.slice Bb r0.length cb, .agg #[.slice A' r1.length c', .int .i64 u1], .bool r2]) ∧ BRes w' lo1 hi1 Bb r0 ∧ Res w' lo3 hi3 A' r1 ∧ (hi1 ≤ lo3 ∨ hi3 ≤ lo1) ∧ w.heap.size ≤ lo1 ∧ w.heap.size ≤ lo3 ∧ Below w.heap.size w w') := by
  have fail : ∀ (hi : ∃ p : Bool, canB zs m = p ∧ (p = true → lOK zs m qs = false)) (hs : lOK zs m qs = false ∨ (lOK zs m qs = true ∧ ¬ (opens zs).length ≤ 8)), ∃ (r0 : List Bool) (r1 : List Int) (u1 : Int) (r2 : Bool), r0.length ≤ 1048576 ∧ r1.length ≤ 1048576 ∧
    (∀ (w : World) (B : Option Addr) (c lo hi : Nat) (B2 : Option Addr) (c2 lo2 hi2 : Nat), Ins w lo hi B zs → Ins w lo2 hi2 B2 qs → Calls Try.prog 51 #[.agg #[.slice B zs.length c, .int .i64 m], .slice B2 qs.length c2] w fun e w' => ∃ Bb cb A' c' lo1 hi1 lo3 hi3, e = .returned (.tuple #[.slice Bb r0.length cb, .agg #[.slice A' r1.length c', .int .i64 u1], .bool r2]) ∧ BRes w' lo1 hi1 Bb r0 ∧ Res w' lo3 hi3 A' r1 ∧ (hi1 ≤ lo3 ∨ hi3 ≤ lo1) ∧ w.heap.size ≤ lo1 ∧ w.heap.size ≤ lo3 ∧ Below w.heap.size w w') ∧
    (∀ (w : World) (B : Option Addr) (c lo hi : Nat) (B2 : Option Addr) (c2 lo2 hi2 : Nat), Ins w lo hi B zs → Ins w lo2 hi2 B2 qs → Calls Try.prog 50 #[.agg #[.slice B zs.length c, .int .i64 m], .slice B2 qs.length c2] w fun e w' => ∃ Bb cb A' c' lo1 hi1 lo3 hi3, e = .returned (.tuple #[.slice Bb r0.length cb, .agg #[.slice A' r1.length c', .int .i64 u1], .bool r2]) ∧ BRes w' lo1 hi1 Bb r0 ∧ Res w' lo3 hi3 A' r1 ∧ (hi1 ≤ lo3 ∨ hi3 ≤ lo1) ∧ w.heap.size ≤ lo1 ∧ w.heap.size ≤ lo3 ∧ Below w.heap.size w w') := fun hi hs => by
    refine ⟨[], [], 0, false, by simp, by simp, ?_, ?_⟩
    · obtain ⟨p, hp, h3⟩ := hi
      cases p with
      | false => exact fun w B c lo hi B2 c2 lo2 hi2 hS hS2 => (holdPlay_impl_no1 B c lo hi zs m B2 c2 lo2 hi2 qs w hS hS2 h h2 hp).mono (by rintro e w' ⟨Bb, cb, lo1, hi1, rfl, hr, hl, hb⟩; exact ⟨Bb, cb, none, 0, lo1, hi1, w'.heap.size, w'.heap.size, rfl, hr, Res.none _ _ _ (Nat.le_refl _), .inl hr.top, hl, hb.size, hb⟩)
      | true => exact fun w B c lo hi B2 c2 lo2 hi2 hS hS2 => (holdPlay_impl_no2 B c lo hi zs m B2 c2 lo2 hi2 qs w hS hS2 h h2 hp (h3 rfl)).mono (by rintro e w' ⟨Bb, cb, lo1, hi1, rfl, hr, hl, hb⟩; exact ⟨Bb, cb, none, 0, lo1, hi1, w'.heap.size, w'.heap.size, rfl, hr, Res.none _ _ _ (Nat.le_refl _), .inl hr.top, hl, hb.size, hb⟩)
    · rcases hs with hs | ⟨hs, h8⟩
      · exact fun w B c lo hi B2 c2 lo2 hi2 hS hS2 => (holdPlay_spec_no1 B c lo hi zs m B2 c2 lo2 hi2 qs w hS hS2 h h2 hs).mono (by rintro e w' ⟨Bb, cb, lo1, hi1, rfl, hr, hl, hb⟩; exact ⟨Bb, cb, none, 0, lo1, hi1, w'.heap.size, w'.heap.size, rfl, hr, Res.none _ _ _ (Nat.le_refl _), .inl hr.top, hl, hb.size, hb⟩)
      · exact fun w B c lo hi B2 c2 lo2 hi2 hS hS2 => (holdPlay_spec_no2 B c lo hi zs m B2 c2 lo2 hi2 qs w hS hS2 h h2 (lOK_iff.1 hs) h8).mono (by rintro e w' ⟨Bb, cb, lo1, hi1, rfl, hr, hl, hb⟩; exact ⟨Bb, cb, none, 0, lo1, hi1, w'.heap.size, w'.heap.size, rfl, hr, Res.none _ _ _ (Nat.le_refl _), .inl hr.top, hl, hb.size, hb⟩)
  cases hst : isSt zs m with
  | false => exact fail ⟨false, by unfold canB; rw [hst]; rfl, fun h => by cases h⟩ (.inl (lOK_no1 hst))
  | true =>
    by_cases h8 : (opens zs).length ≤ 8
    · cases hok : lOK zs m qs with
      | false => exact fail ⟨true, by unfold canB; rw [hst, decide_eq_true h8]; rfl, fun _ => hok⟩ (.inl hok)
      | true =>
        have hL := lOK_iff.1 hok
        have hl := isSt_len hst
        obtain ⟨M, rfl⟩ : ∃ M : Nat, m = (M : Int) := ⟨m.toNat, by omega⟩
        refine ⟨playB M zs qs, endZ (M : Int) zs qs (playB M zs qs), (M : Int), true, by rw [playB_len]; exact h2, by rw [endZ_len]; exact h, ?_, ?_⟩
        · rw [playB_len, endZ_len]; exact fun w B c lo hi B2 c2 lo2 hi2 hS hS2 => holdPlay_impl B c lo hi zs M B2 c2 lo2 hi2 qs w hS hS2 hL h8
        · rw [playB_len, endZ_len]; exact fun w B c lo hi B2 c2 lo2 hi2 hS hS2 => holdPlay_spec B c lo hi zs M B2 c2 lo2 hi2 qs w hS hS2 hL h8
    · refine fail ⟨false, by unfold canB; rw [decide_eq_false h8, Bool.and_false], fun h => by cases h⟩ ?_
      cases hok : lOK zs m qs with
      | false => exact .inl rfl
      | true => exact .inr ⟨rfl, h8⟩
def marksK (K : Int) (n : Nat) : List Int := (List.range n).map fun (j : Nat) => K + (j : Int)
theorem marksK_len (K : Int) (n : Nat) : (marksK K n).length = n := by simp [marksK]
def markArrK (cur : Array Value) (K : Int) : Nat → Array Value
  | 0 => cur
  | i + 1 => (markArrK cur K i).setIfInBounds i (.int .i64 (K + (i : Int)))
theorem markArrK_size (cur : Array Value) (K : Int) : ∀ i, (markArrK cur K i).size = cur.size
  | 0 => rfl
  | i + 1 => by show ((markArrK cur K i).setIfInBounds i _).size = _; rw [Array.size_setIfInBounds, markArrK_size cur K i]
theorem markArrK_at (cur : Array Value) (K : Int) : ∀ i j, j < i → j < cur.size → (markArrK cur K i)[j]? = some (.int .i64 (K + (j : Int)))
  | 0, j, h, _ => absurd h (by omega)
  | i + 1, j, h, hs => by
    show ((markArrK cur K i).setIfInBounds i _)[j]? = _
    by_cases e : i = j
    · subst e
      rw [Array.getElem?_setIfInBounds_self_of_lt (by rw [markArrK_size]; exact hs)]
    · rw [Array.getElem?_setIfInBounds_ne (by omega)]
      exact markArrK_at cur K i j (by omega) hs
set_option maxHeartbeats 1000000 in
theorem markRowK (g cap n : Nat) (cur : Array Value) (K : Int) (w : World) (h : w.heap[g]? = some (.cells cur 3 (0, 0))) (hn : n ≤ cur.size) (hn2 : n ≤ 1048577) (hK : 0 ≤ K ∧ K ≤ 4194304) :
    Calls Try.prog 23 #[.slice (some ⟨g, 0, none⟩) n cap, .int .i64 K] w fun e w' => e = .returned (.int .i64 (K + (n : Int))) ∧ w'.heap[g]? = some (.cells (markArrK cur K n) 3 (0, 0)) ∧ Within g (g + 1) w w' := by
  have H := Lib.hid h
  clear h
  go_enter Try.func23, Try.ntmps23
  go_wp2
  go_loopw [1, 5] (fun q i wr => ∃ (k : Nat) (x : Int), k ≤ n ∧ i = .int .i64 k ∧ q = .int .i64 x ∧ x = K + (k : Int) ∧ Hid (wr.heap[g]? = some (.cells (markArrK cur K k) 3 (0, 0))) ∧ Hid (Within g (g + 1) w wr)) (fun _ i _ => n - (intOf i).toNat)
  case atStart => exact ⟨0, K, Nat.zero_le _, rfl, rfl, by simp, H.out, Within.refl _ _ w⟩
  case round =>
    obtain ⟨k, x, hk, rfl, rfl, hx, HR, HG⟩ := hrel
    by_cases hlt : k < n
    · have hki : (k : Int) < (n : Int) := by omega
      have hf := row_freeI HR.out k
      obtain ⟨u, hu⟩ : ∃ u, wr.cell? ⟨g, k, none⟩ = some u := by
        rw [row_cellI HR.out]
        exact ⟨_, Array.getElem?_eq_getElem (by rw [markArrK_size]; omega)⟩
      have HR2 := Lib.hid (show (wr.setCell ⟨g, k, none⟩ (.int .i64 x)).heap[g]? = some (.cells (markArrK cur K (k + 1)) 3 (0, 0)) from by rw [row_setI HR.out k (.int .i64 x), hx]; rfl)
      have HG2 := Lib.hid (within_set HG.out (Nat.le_refl g) (Nat.lt_succ_self g) k (.int .i64 x))
      have hx0 : 0 ≤ x ∧ x ≤ 6000000 := by omega
      have HX1 := Lib.hid (show x + 1 = K + ((k + 1 : Nat) : Int) by omega)
      clear hx
      go_wp2
      go_roundw
      case rel => exact ⟨k + 1, x + 1, by omega, by go_num, rfl, HX1.out, HR2, HG2⟩
      case measure => simp [intOf]; omega
    · obtain rfl : k = n := by omega
      have E := Lib.hid hx
      clear hx
      go_wp2
      go_ret
      exact ⟨by rw [← E.out]; rfl, HR.out, HG.out⟩
theorem markNoneK (cap : Nat) (K : Int) (w : World) :
    Calls Try.prog 23 #[.slice none 0 cap, .int .i64 K] w fun e w' => e = .returned (.int .i64 K) ∧ w' = w := by
  go_enter Try.func23, Try.ntmps23
  go_wp2
  go_loopw [1, 5] (fun q i wr => i = .int .i64 0 ∧ q = .int .i64 K ∧ wr = w) (fun _ i _ => 0)
  case atStart => exact ⟨rfl, rfl, rfl⟩
  case round =>
    obtain ⟨rfl, rfl, rfl⟩ := hrel
    go_wp2
    go_ret
    exact ⟨rfl, rfl⟩
theorem markIntsK_any (A : Option Addr) (cap lo hi : Nat) (zs : List Int) (w : World) (h : Res w lo hi A zs) (hn : zs.length ≤ 1048576) (K : Int) (hK : 0 ≤ K ∧ K ≤ 4194304) :
    Calls Try.prog 23 #[.slice A zs.length cap, .int .i64 K] w fun e w' => e = .returned (.int .i64 (K + (zs.length : Int))) ∧ Res w' lo hi A (marksK K zs.length) ∧ Within lo hi w w' := by
  rcases h.own with ⟨rfl, rfl⟩ | ⟨g, cur, rfl, h1, h2, hr, hs, hc⟩
  · refine (markNoneK cap K w).mono ?_
    rintro e w' ⟨rfl, hww⟩
    have hww := hww.symm
    subst hww
    exact ⟨by simp, ⟨.inl ⟨rfl, rfl⟩, h.top⟩, Within.refl _ _ _⟩
  · refine (markRowK g cap zs.length cur K w hr hs (by omega) hK).mono ?_
    rintro e w' ⟨rfl, hr', hw⟩
    refine ⟨rfl, ⟨.inr ⟨g, _, rfl, h1, h2, hr', by rw [marksK_len, markArrK_size]; exact hs, fun j x hx => ?_⟩, Nat.le_trans h.top hw.size⟩, ⟨hw.os, hw.tape, hw.output, hw.size, fun i hi hd => hw.block i hi (by omega)⟩⟩
    have hj : j < zs.length := by
      rcases Nat.lt_or_ge j (marksK K zs.length).length with hl | hl
      · rwa [marksK_len] at hl
      · rw [List.getElem?_eq_none hl] at hx; cases hx
    have e : (marksK K zs.length)[j]? = some (K + (j : Int)) := by simp [marksK, hj]
    rw [e] at hx
    injection hx with hx
    rw [← hx]
    exact markArrK_at cur K _ j hj (by omega)
theorem heldIntsK_any (A : Option Addr) (cap lo hi n : Nat) (K : Int) (hK : 0 ≤ K ∧ K ≤ 4194304) (w : World) (h : Ins w lo hi A (marksK K n)) (hn2 : n ≤ 1048577) :
    Calls Try.prog 24 #[.slice A n cap, .int .i64 K] w fun e w' => e = .returned (.int .i64 (K + (n : Int))) ∧ w' = w := by
  have H := Lib.hid h
  clear h
  go_enter Try.func24, Try.ntmps24
  go_wp2
  go_loopw [1, 5] (fun q i wr => ∃ (k : Nat) (x : Int), k ≤ n ∧ i = .int .i64 k ∧ q = .int .i64 x ∧ x = K + (k : Int) ∧ wr = w) (fun _ i _ => n - (intOf i).toNat)
  case atStart => exact ⟨0, K, Nat.zero_le _, rfl, rfl, by simp, rfl⟩
  case round =>
    obtain ⟨k, x, hk, rfl, rfl, hx, rfl⟩ := hrel
    by_cases hlt : k < n
    · have hki : (k : Int) < (n : Int) := by omega
      obtain ⟨b, o, rfl, _, _, hc⟩ := H.out.ints.at_ (k := k) (by rw [marksK_len]; exact hlt)
      have e : (marksK K n)[k]'(by rw [marksK_len]; exact hlt) = x := by rw [hx]; simp [marksK]
      rw [e] at hc
      have hx0 : 0 ≤ x ∧ x ≤ 6000000 := by omega
      have HX1 := Lib.hid (show x + 1 = K + ((k + 1 : Nat) : Int) by omega)
      clear e hx
      go_wp2
      go_roundw
      case rel => exact ⟨k + 1, x + 1, by omega, by go_num, rfl, HX1.out, by first | rfl | trivial⟩
      case measure => simp [intOf]; omega
    · obtain rfl : k = n := by omega
      have E := Lib.hid hx
      clear hx
      go_wp2
      go_ret
      exact ⟨by rw [← E.out]; rfl, rfl⟩
theorem markStateK_any (A : Option Addr) (c lo hi : Nat) (zs : List Int) (m : Int) (w : World) (h : Res w lo hi A zs) (hn : zs.length ≤ 1048576) (K : Int) (hK : 0 ≤ K ∧ K ≤ 4194304) :
    Calls Try.prog 53 #[.agg #[.slice A zs.length c, .int .i64 m], .int .i64 K] w fun e w' => e = .returned (.int .i64 (K + (zs.length : Int))) ∧ Res w' lo hi A (marksK K zs.length) ∧ Within lo hi w w' := by
  have HS := Lib.hid h
  clear h
  go_enter Try.func53, Try.ntmps53
  go_wp2_with fail
  have hb0 : Below w.heap.size w (w.alloc (.cells #[.slice A zs.length c, .int .i64 m] 36)) := (Below.refl _ _).alloc (Nat.le_refl _) _
  refine (markIntsK_any A c lo hi zs _ (HS.out.step hb0) hn K hK).mono ?_
  rintro e w' ⟨rfl, ho, hw⟩
  have HO := Lib.hid ho
  have HW := Lib.hid ((Within.of_below (lo := lo) (hi := hi) hb0).trans hw)
  clear hb0 ho hw
  go_wp2
  go_ret
  exact ⟨rfl, HO.out, HW.out⟩
theorem heldStateK_any (A : Option Addr) (c lo hi n : Nat) (m : Int) (K : Int) (hK : 0 ≤ K ∧ K ≤ 4194304) (w : World) (h : Ins w lo hi A (marksK K n)) (hn : n ≤ 1048576) :
    Calls Try.prog 56 #[.agg #[.slice A n c, .int .i64 m], .int .i64 K] w fun e w' => e = .returned (.int .i64 (K + (n : Int))) ∧ Below w.heap.size w w' := by
  have HS := Lib.hid h
  clear h
  have hn0 : (0 : Int) ≤ (n : Int) := by omega
  have hKn : 0 ≤ K + (n : Int) := by omega
  go_enter Try.func56, Try.ntmps56
  go_wp2_with fail
  have hb0 : Below w.heap.size w (w.alloc (.cells #[.slice A n c, .int .i64 m] 36)) := (Below.refl _ _).alloc (Nat.le_refl _) _
  refine (heldIntsK_any A c lo hi n K hK _ (HS.out.step hb0) (by omega)).mono ?_
  rintro e w' ⟨rfl, rfl⟩
  have HB := Lib.hid hb0
  clear hb0
  go_wp2
  go_ret
  exact ⟨rfl, HB.out⟩
end Go.Proofs.Ytdkffkgoalgjmab
