/- Both states behind a comparison, as the program has them. -/
import Derived.Test.YtdkffkgoalgjmabL6e
import Derived.RegionTactic
namespace Go.Proofs.Ytdkffkgoalgjmab
open Go.RowKit Go.ChangeShapes Go.WideShapes
set_option linter.unusedVariables false

theorem row_own6 {w : World} {g : Nat} {L : List Int} (h : w.heap[g]? = some (.cells (L.map (Value.int .i64)).toArray 3 (0, 0))) : Own w g (g + 1) (some ⟨g, 0, none⟩) L :=
  .inr ⟨g, _, rfl, Nat.le_refl _, Nat.lt_succ_self _, h, by simp, fun j x hx => by simp [hx]⟩
def bAct1 (n len : Nat) (A : Option Addr) (c k M : Nat) (v6 v7 v10 v11 v12 v13 v14 v15 v16 v17 : Value) : Act :=
  { tmps := #[.agg #[.slice A len c, .int .i64 (M : Int)], .int .i64 (k : Int), .pointer (some ⟨n, 0, none⟩), undef, .pointer (some ⟨n + 1, 0, none⟩), .pointer (some ⟨n + 2, 0, none⟩), v6, v7, undef, undef, v10, v11, v12, v13, v14, v15, v16, v17, undef, undef, undef, undef, undef, undef, undef, undef, undef, undef], defers := [] }
def bAct2 (n len : Nat) (A : Option Addr) (c k M : Nat) (u6 u7 u10 u11 u12 u13 u14 u15 u16 u17 v6 v7 v10 v11 v12 v13 v14 v15 v16 v17 : Value) : Act :=
  { tmps := #[.agg #[.slice A len c, .int .i64 (M : Int)], .int .i64 (k : Int), .pointer (some ⟨n, 0, none⟩), undef, .pointer (some ⟨n + 1, 0, none⟩), .pointer (some ⟨n + 2, 0, none⟩), u6, u7, v6, v7, u10, u11, u12, u13, u14, u15, u16, u17, v10, v11, v12, v13, v14, v15, v16, v17, undef, undef], defers := [] }
structure BInv (w0 : World) (n len : Nat) (A : Option Addr) (c k M : Nat) (y : Bool) (L : List Int) (D : Nat → Bool) (v6 v7 v10 v11 v12 v13 v14 v15 v16 v17 : Value) (W : World) : Prop where
  st : Two W n (.slice A len c) (.int .i64 (M : Int)) 36
  bl : Below w0.heap.size w0 W
  s11 : D 0 = true → v11 = .agg #[.slice A len c, .int .i64 (M : Int)]
  s12 : D 1 = true → v12 = .int .i64 (k : Int)
  s13 : D 2 = true → v13 = .int .i64 ((2 : Int) ^ k - 1)
  s14 : D 3 = true → v14 = .agg #[.int .i64 ((2 : Int) ^ k - 1), .bool y]
  s15 : D 4 = true → ∃ g, v15 = .tuple #[.agg #[.slice (some ⟨g, 0, none⟩) len len, .int .i64 (M : Int)], .bool true] ∧ w0.heap.size ≤ g ∧ Own W g (g + 1) (some ⟨g, 0, none⟩) L
  s10 : D 5 = true → v10 = v15
  s16 : D 6 = true → v10 = .tuple #[v16, .bool true]
  s17 : D 7 = true → v17 = .bool true
  s6 : D 8 = true → ∃ b x z, v6 = .pointer (some ⟨b, 0, none⟩) ∧ w0.heap.size ≤ b ∧ Two W b x z 36 ∧ (D 9 = true → v16 = .agg #[x, z])
  s7 : D 10 = true → v7 = .bool true
  o5 : D 5 = true → D 4 = true
  o6 : D 6 = true → D 5 = true
  o7 : D 7 = true → D 5 = true
  o9 : D 9 = true → D 6 = true ∧ D 8 = true

set_option maxRecDepth 100000 in
set_option maxHeartbeats 16000000 in
theorem behindLess_any (A : Option Addr) (c lo hi : Nat) (zs : List Int) (M k : Nat) (w : World) (hS : Ins w lo hi A zs) (hs : Short M zs) (hk : k ≤ zs.length) :
    Calls Try.prog 146 #[.agg #[.slice A zs.length c, .int .i64 (M : Int)], .int .i64 (k : Int)] w fun e w' => ∃ g1 g2, e = .returned (.tuple #[.agg #[.slice (some ⟨g1, 0, none⟩) zs.length zs.length, .int .i64 (M : Int)], .agg #[.slice (some ⟨g2, 0, none⟩) zs.length zs.length, .int .i64 (M : Int)]]) ∧ w.heap.size ≤ g1 ∧ w.heap.size ≤ g2 ∧ Own w' g1 (g1 + 1) (some ⟨g1, 0, none⟩) (cmpAft zs M k false) ∧ Own w' g2 (g2 + 1) (some ⟨g2, 0, none⟩) (cmpAft zs M k true) ∧ Below w.heap.size w w' := by
  have hl5 := hs.len
  have HT := Lib.hid (Two.new w (.slice A zs.length c) (.int .i64 (M : Int)) 36 w.heap.size rfl)
  have hb1 := (Below.refl w.heap.size w).alloc (Nat.le_refl _) (.cells #[.slice A zs.length c, .int .i64 (M : Int)] 36)
  have HR1 := Lib.hid (Two.new (w.alloc (.cells #[.slice A zs.length c, .int .i64 (M : Int)] 36)) (.slice none 0 0) (.int .i64 0) 36 (w.heap.size + 1) (by simp))
  have hb2 := (Below.refl _ (w.alloc (.cells #[.slice A zs.length c, .int .i64 (M : Int)] 36))).alloc (Nat.le_refl _) (.cells #[.slice none 0 0, .int .i64 0] 36)
  replace HT := Lib.hid (HT.out.step hb2)
  have HR2 := Lib.hid (Two.new ((w.alloc (.cells #[.slice A zs.length c, .int .i64 (M : Int)] 36)).alloc (.cells #[.slice none 0 0, .int .i64 0] 36)) (.slice none 0 0) (.int .i64 0) 36 (w.heap.size + 2) (by simp))
  have hb3 := (Below.refl _ ((w.alloc (.cells #[.slice A zs.length c, .int .i64 (M : Int)] 36)).alloc (.cells #[.slice none 0 0, .int .i64 0] 36))).alloc (Nat.le_refl _) (.cells #[.slice none 0 0, .int .i64 0] 36)
  replace HT := Lib.hid (HT.out.step hb3)
  replace HR1 := Lib.hid (HR1.out.step hb3)
  have HB := Lib.hid (below_trans (below_trans hb1 hb2) hb3)
  have HS := Lib.hid (hS.step HB.out)
  have HLT := Lib.hid (fun W => lessThan_any k W (by omega))
  have HL := Lib.hid (fun W y h => answerState_impl A c lo hi zs (M : Int) ((2 : Int) ^ k - 1) y W h hs.valid (qOK_cmp hs.pos (by omega) hk))
  simp only [afters_cmp (M := M) (show zs.length ≤ 12 by omega) (show k ≤ 12 by omega)] at HL
  clear hS hs hb1 hb2 hb3
  go_enter Try.func146, Try.ntmps146
  go_wp2_with fail
  generalize ((w.alloc (.cells #[.slice A zs.length c, .int .i64 (M : Int)] 36)).alloc (.cells #[.slice none 0 0, .int .i64 0] 36)).alloc (.cells #[.slice none 0 0, .int .i64 0] 36) = w0 at HT HR1 HR2 HB HS ⊢
  have hn := HT.out.lt
  have hr0 := HR2.out.lt
  refine wp_region_noPanic ?_
  refine wp_region_inv5 (by kernel_rfl) (by kernel_rfl) (fun D A' W => ∃ v6 v7 v10 v11 v12 v13 v14 v15 v16 v17, A' = bAct1 w.heap.size zs.length A c k M v6 v7 v10 v11 v12 v13 v14 v15 v16 v17 ∧ BInv w0 w.heap.size zs.length A c k M false (cmpAft zs M k false) D v6 v7 v10 v11 v12 v13 v14 v15 v16 v17 W) ?h0 ?hs ?hd
  case h0 => exact ⟨undef, undef, undef, undef, undef, undef, undef, undef, undef, undef, rfl, ⟨HT.out.step (Below.refl _ _).drew, (Below.refl _ _).drew, nofun, nofun, nofun, nofun, nofun, nofun, nofun, nofun, nofun, nofun, nofun, nofun, nofun, nofun⟩⟩
  case hs =>
    rintro D _ W ⟨v6, v7, v10, v11, v12, v13, v14, v15, v16, v17, rfl, hI⟩ i o ho hD hA K hK
    have hi : i < 11 := (Array.getElem?_eq_some_iff.1 ho).1
    have HI := Lib.hid hI
    have HK := Lib.hid hK
    clear hI hK HR1 HR2 HT
    obtain rfl | rfl | rfl | rfl | rfl | rfl | rfl | rfl | rfl | rfl | rfl : i = 0 ∨ i = 1 ∨ i = 2 ∨ i = 3 ∨ i = 4 ∨ i = 5 ∨ i = 6 ∨ i = 7 ∨ i = 8 ∨ i = 9 ∨ i = 10 := by omega
    all_goals (obtain rfl := Option.some.inj ho; clear ho hi; simp [Region.binds] at hA; unfold bAct1)
    · have x0 := HI.out.st.c0
      have x1 := HI.out.st.c1
      go_simp
      exact HK.out _ _ ⟨_, _, _, _, _, _, _, _, _, _, rfl, ⟨(by simpa using HI.out.st), (by simpa using HI.out.bl), (fun _ => rfl), (by simpa using HI.out.s12), (by simpa using HI.out.s13), (by simpa using HI.out.s14), (by simpa using HI.out.s15), (by simpa using HI.out.s10), (by simpa using HI.out.s16), (by simpa using HI.out.s17), (by simpa using HI.out.s6), (by simpa using HI.out.s7), (fun h => by have h2 := HI.out.o5 (by simpa using h); simp [h2]), (fun h => by have h2 := HI.out.o6 (by simpa using h); simp [h2]), (fun h => by have h2 := HI.out.o7 (by simpa using h); simp [h2]), (fun h => by have h2 := HI.out.o9 (by simpa using h); simp [h2.1, h2.2])⟩⟩
    · go_simp
      exact HK.out _ _ ⟨_, _, _, _, _, _, _, _, _, _, rfl, ⟨(by simpa using HI.out.st), (by simpa using HI.out.bl), (by simpa using HI.out.s11), (fun _ => rfl), (by simpa using HI.out.s13), (by simpa using HI.out.s14), (by simpa using HI.out.s15), (by simpa using HI.out.s10), (by simpa using HI.out.s16), (by simpa using HI.out.s17), (by simpa using HI.out.s6), (by simpa using HI.out.s7), (fun h => by have h2 := HI.out.o5 (by simpa using h); simp [h2]), (fun h => by have h2 := HI.out.o6 (by simpa using h); simp [h2]), (fun h => by have h2 := HI.out.o7 (by simpa using h); simp [h2]), (fun h => by have h2 := HI.out.o9 (by simpa using h); simp [h2.1, h2.2])⟩⟩
    · obtain rfl := HI.out.s12 (by simp_all)
      go_simp
      refine (HLT.out W).mono ?_
      rintro e W' ⟨rfl, hww⟩
      have hww := hww.symm
      subst hww
      exact HK.out _ _ ⟨_, _, _, _, _, _, _, _, _, _, rfl, ⟨(by simpa using HI.out.st), (by simpa using HI.out.bl), (by simpa using HI.out.s11), (fun _ => rfl), (fun _ => rfl), (by simpa using HI.out.s14), (by simpa using HI.out.s15), (by simpa using HI.out.s10), (by simpa using HI.out.s16), (by simpa using HI.out.s17), (by simpa using HI.out.s6), (by simpa using HI.out.s7), (fun h => by have h2 := HI.out.o5 (by simpa using h); simp [h2]), (fun h => by have h2 := HI.out.o6 (by simpa using h); simp [h2]), (fun h => by have h2 := HI.out.o7 (by simpa using h); simp [h2]), (fun h => by have h2 := HI.out.o9 (by simpa using h); simp [h2.1, h2.2])⟩⟩
    · obtain rfl := HI.out.s13 (by simp_all)
      go_simp
      exact HK.out _ _ ⟨_, _, _, _, _, _, _, _, _, _, rfl, ⟨(by simpa using HI.out.st), (by simpa using HI.out.bl), (by simpa using HI.out.s11), (by simpa using HI.out.s12), (fun _ => rfl), (fun _ => rfl), (by simpa using HI.out.s15), (by simpa using HI.out.s10), (by simpa using HI.out.s16), (by simpa using HI.out.s17), (by simpa using HI.out.s6), (by simpa using HI.out.s7), (fun h => by have h2 := HI.out.o5 (by simpa using h); simp [h2]), (fun h => by have h2 := HI.out.o6 (by simpa using h); simp [h2]), (fun h => by have h2 := HI.out.o7 (by simpa using h); simp [h2]), (fun h => by have h2 := HI.out.o9 (by simpa using h); simp [h2.1, h2.2])⟩⟩
    · have h5 := notD (fun h => HI.out.o5 h) hD
      obtain rfl := HI.out.s11 (by simp_all)
      obtain rfl := HI.out.s14 (by simp_all)
      go_simp
      refine (HL.out W false (HS.out.ofB HI.out.bl)).mono ?_
      rintro e W' ⟨g, rfl, hg, hr, hb⟩
      exact HK.out _ _ ⟨_, _, _, _, _, _, _, _, _, _, rfl, ⟨(HI.out.st.step hb), (HI.out.bl.trans (hb.mono HI.out.bl.size)), (fun _ => rfl), (by simpa using HI.out.s12), (by simpa using HI.out.s13), (fun _ => rfl), (fun _ => ⟨g, rfl, Nat.le_trans HI.out.bl.size hg, row_own6 hr⟩), (fun h => by simp [h5] at h), (by simpa using HI.out.s16), (by simpa using HI.out.s17), (fun h => by obtain ⟨b, x, z, e, hl, ht, h2⟩ := HI.out.s6 (by simpa using h); exact ⟨b, x, z, e, hl, ht.step hb, fun h3 => h2 (by simpa using h3)⟩), (by simpa using HI.out.s7), (fun h => by have h2 := HI.out.o5 (by simpa using h); simp [h2]), (fun h => by have h2 := HI.out.o6 (by simpa using h); simp [h2]), (fun h => by have h2 := HI.out.o7 (by simpa using h); simp [h2]), (fun h => by have h2 := HI.out.o9 (by simpa using h); simp [h2.1, h2.2])⟩⟩
    · have h6 := notD (fun h => HI.out.o6 h) hD
      go_simp
      exact HK.out _ _ ⟨_, _, _, _, _, _, _, _, _, _, rfl, ⟨(by simpa using HI.out.st), (by simpa using HI.out.bl), (by simpa using HI.out.s11), (by simpa using HI.out.s12), (by simpa using HI.out.s13), (by simpa using HI.out.s14), (by simpa using HI.out.s15), (fun _ => rfl), (fun h => by simp [h6] at h), (by simpa using HI.out.s17), (by simpa using HI.out.s6), (by simpa using HI.out.s7), (fun _ => by simp_all), (fun h => by have h2 := HI.out.o6 (by simpa using h); simp [h2]), (fun h => by have h2 := HI.out.o7 (by simpa using h); simp [h2]), (fun h => by have h2 := HI.out.o9 (by simpa using h); simp [h2.1, h2.2])⟩⟩
    · have q5 : D 5 = true := by simp_all
      have q4 := HI.out.o5 q5
      obtain ⟨g, rfl, hg, ho⟩ := HI.out.s15 q4
      obtain rfl := HI.out.s10 q5
      have h9 := notD (fun h => (HI.out.o9 h).1) hD
      go_simp
      exact HK.out _ _ ⟨_, _, _, _, _, _, _, _, _, _, rfl, ⟨(by simpa using HI.out.st), (by simpa using HI.out.bl), (by simpa using HI.out.s11), (by simpa using HI.out.s12), (by simpa using HI.out.s13), (by simpa using HI.out.s14), (by simpa using HI.out.s15), (fun _ => rfl), (fun _ => rfl), (by simpa using HI.out.s17), (fun h => by obtain ⟨b, x, z, e, hl, ht, h2⟩ := HI.out.s6 (by simpa using h); exact ⟨b, x, z, e, hl, ht, fun h3 => by simp [h9] at h3⟩), (by simpa using HI.out.s7), (fun h => by have h2 := HI.out.o5 (by simpa using h); simp [h2]), (fun _ => by simp [q5]), (fun h => by have h2 := HI.out.o7 (by simpa using h); simp [h2]), (fun h => by have h2 := HI.out.o9 (by simpa using h); simp [h2.1, h2.2])⟩⟩
    · have q5 : D 5 = true := by simp_all
      have q4 := HI.out.o5 q5
      obtain ⟨g, rfl, hg, ho⟩ := HI.out.s15 q4
      obtain rfl := HI.out.s10 q5
      go_simp
      exact HK.out _ _ ⟨_, _, _, _, _, _, _, _, _, _, rfl, ⟨(by simpa using HI.out.st), (by simpa using HI.out.bl), (by simpa using HI.out.s11), (by simpa using HI.out.s12), (by simpa using HI.out.s13), (by simpa using HI.out.s14), (by simpa using HI.out.s15), (fun _ => rfl), (by simpa using HI.out.s16), (fun _ => rfl), (by simpa using HI.out.s6), (by simpa using HI.out.s7), (fun h => by have h2 := HI.out.o5 (by simpa using h); simp [h2]), (fun h => by have h2 := HI.out.o6 (by simpa using h); simp [h2]), (fun _ => by simp [q5]), (fun h => by have h2 := HI.out.o9 (by simpa using h); simp [h2.1, h2.2])⟩⟩
    · have h9 := notD (fun h => (HI.out.o9 h).2) hD
      have hb : Below W.heap.size W (W.alloc (.cells #[.slice none 0 0, .int .i64 0] 36)) := (Below.refl _ _).alloc (Nat.le_refl _) _
      go_simp
      exact HK.out _ _ ⟨_, _, _, _, _, _, _, _, _, _, rfl, ⟨(HI.out.st.step hb), (HI.out.bl.trans (hb.mono HI.out.bl.size)), (by simpa using HI.out.s11), (by simpa using HI.out.s12), (by simpa using HI.out.s13), (by simpa using HI.out.s14), (fun h => by obtain ⟨g, e, hw, ho⟩ := HI.out.s15 (by simpa using h); exact ⟨g, e, hw, own_same ho (hb.block _ (own_lt ho))⟩), (by simpa using HI.out.s10), (by simpa using HI.out.s16), (by simpa using HI.out.s17), (fun _ => ⟨W.heap.size, .slice none 0 0, .int .i64 0, rfl, HI.out.bl.size, Two.new W _ _ _ _ rfl, fun h3 => by simp [h9] at h3⟩), (by simpa using HI.out.s7), (fun h => by have h2 := HI.out.o5 (by simpa using h); simp [h2]), (fun h => by have h2 := HI.out.o6 (by simpa using h); simp [h2]), (fun h => by have h2 := HI.out.o7 (by simpa using h); simp [h2]), (fun h => by have h2 := HI.out.o9 (by simpa using h); simp [h2.1, h2.2])⟩⟩
    · have q6 : D 6 = true := by simp_all
      have q8 : D 8 = true := by simp_all
      have q5 := HI.out.o6 q6
      have q4 := HI.out.o5 q5
      obtain ⟨g, e15, hg, ho⟩ := HI.out.s15 q4
      have e10 := HI.out.s10 q5
      have e16 := HI.out.s16 q6
      obtain rfl : v16 = .agg #[.slice (some ⟨g, 0, none⟩) zs.length zs.length, .int .i64 (M : Int)] := by rw [e10, e15] at e16; simp at e16; exact e16.symm
      obtain ⟨b, x, z, rfl, hl, ht, _⟩ := HI.out.s6 q8
      have c0 := ht.c0
      have c1 := ht.c1
      have f0 := ht.f0
      have f1 := ht.f1
      obtain ⟨hs, hw⟩ := stored2 ht.row (.slice (some ⟨g, 0, none⟩) zs.length zs.length) (.int .i64 (M : Int))
      have hs := Lib.hid hs
      have hw := Lib.hid hw
      have H15 := Lib.hid e15
      have H16 := Lib.hid e16
      have H10 := Lib.hid e10
      clear e15 e16 e10
      go_simp
      have e15 := H15.out
      have e16 := H16.out
      exact HK.out _ _ ⟨_, _, _, _, _, _, _, _, _, _, rfl, ⟨(HI.out.st.within hw.out (.inl (Nat.lt_of_lt_of_le hn hl))), (HI.out.bl.trans (hw.out.below hl HI.out.bl.size)), (by simpa using HI.out.s11), (by simpa using HI.out.s12), (by simpa using HI.out.s13), (by simpa using HI.out.s14), (fun h => ⟨g, e15, hg, own_same ho (hw.out.block _ (own_lt ho) (by have := own_two_ne ho ht; omega))⟩), (by simpa using HI.out.s10), (fun _ => e16), (by simpa using HI.out.s17), (fun _ => ⟨b, _, _, rfl, hl, ⟨hs.out⟩, fun _ => rfl⟩), (by simpa using HI.out.s7), (fun h => by have h2 := HI.out.o5 (by simpa using h); simp [h2]), (fun h => by have h2 := HI.out.o6 (by simpa using h); simp [h2]), (fun h => by have h2 := HI.out.o7 (by simpa using h); simp [h2]), (fun _ => ⟨by simp [q6], by simp [q8]⟩)⟩⟩
    · obtain rfl := HI.out.s17 (by simp_all)
      go_simp
      exact HK.out _ _ ⟨_, _, _, _, _, _, _, _, _, _, rfl, ⟨(by simpa using HI.out.st), (by simpa using HI.out.bl), (by simpa using HI.out.s11), (by simpa using HI.out.s12), (by simpa using HI.out.s13), (by simpa using HI.out.s14), (by simpa using HI.out.s15), (by simpa using HI.out.s10), (by simpa using HI.out.s16), (fun _ => rfl), (by simpa using HI.out.s6), (fun _ => rfl), (fun h => by have h2 := HI.out.o5 (by simpa using h); simp [h2]), (fun h => by have h2 := HI.out.o6 (by simpa using h); simp [h2]), (fun h => by have h2 := HI.out.o7 (by simpa using h); simp [h2]), (fun h => by have h2 := HI.out.o9 (by simpa using h); simp [h2.1, h2.2])⟩⟩
  case hd =>
    rintro D _ W ⟨v6, v7, v10, v11, v12, v13, v14, v15, v16, v17, rfl, hI⟩ hall
    obtain ⟨b6, x6, z6, rfl, hl6, ht6, h6⟩ := hI.s6 (hall 8 (by decide))
    obtain ⟨g1, rfl, hg1, ho1⟩ := hI.s15 (hall 4 (by decide))
    obtain rfl := hI.s10 (hall 5 (by decide))
    have e16 := hI.s16 (hall 6 (by decide))
    obtain rfl : v16 = .agg #[.slice (some ⟨g1, 0, none⟩) zs.length zs.length, .int .i64 (M : Int)] := by simp at e16; exact e16.symm
    obtain ⟨rfl, rfl⟩ : x6 = .slice (some ⟨g1, 0, none⟩) zs.length zs.length ∧ z6 = .int .i64 (M : Int) := by
      have e := h6 (hall 9 (by decide))
      simp at e
      exact ⟨e.1.symm, e.2.symm⟩
    obtain rfl := hI.s11 (hall 0 (by decide))
    obtain rfl := hI.s12 (hall 1 (by decide))
    obtain rfl := hI.s13 (hall 2 (by decide))
    obtain rfl := hI.s14 (hall 3 (by decide))
    obtain rfl := hI.s17 (hall 7 (by decide))
    obtain rfl := hI.s7 (hall 10 (by decide))
    have HI1 := Lib.hid hI
    have H6 := Lib.hid ht6
    have HO1 := Lib.hid ho1
    replace HR1 := Lib.hid (HR1.out.step ((Below.refl _ w0).trans hI.bl))
    replace HR2 := Lib.hid (HR2.out.step ((Below.refl _ w0).trans hI.bl))
    have HB1 := Lib.hid (HB.out.trans (hI.bl.mono HB.out.size))
    replace HS := Lib.hid ((HS.out.step (Below.refl _ w0)).ofB hI.bl)
    have hsz0 := hI.bl.size
    replace HT := Lib.hid hI.st
    clear hI hall ht6 ho1 h6 HI1 hn HB e16
    have hn := HT.out.lt
    simp only [bAct1]
    refine NoPanic.normal ?_
    go_wp2_with fail
    refine wp_region_inv5 (by kernel_rfl) (by kernel_rfl) (fun D A' W' => ∃ v6 v7 v10 v11 v12 v13 v14 v15 v16 v17, A' = bAct2 w.heap.size zs.length A c k M (.pointer (some ⟨b6, 0, none⟩)) (.bool true) (.tuple #[.agg #[.slice (some ⟨g1, 0, none⟩) zs.length zs.length, .int .i64 (M : Int)], .bool true]) (.agg #[.slice A zs.length c, .int .i64 (M : Int)]) (.int .i64 (k : Int)) (.int .i64 ((2 : Int) ^ k - 1)) (.agg #[.int .i64 ((2 : Int) ^ k - 1), .bool false]) (.tuple #[.agg #[.slice (some ⟨g1, 0, none⟩) zs.length zs.length, .int .i64 (M : Int)], .bool true]) (.agg #[.slice (some ⟨g1, 0, none⟩) zs.length zs.length, .int .i64 (M : Int)]) (.bool true) v6 v7 v10 v11 v12 v13 v14 v15 v16 v17 ∧ BInv W w.heap.size zs.length A c k M true (cmpAft zs M k true) D v6 v7 v10 v11 v12 v13 v14 v15 v16 v17 W') ?h0 ?hs ?hd
    case h0 => exact ⟨undef, undef, undef, undef, undef, undef, undef, undef, undef, undef, rfl, ⟨HT.out.step (Below.refl _ _).drew, (Below.refl _ _).drew, nofun, nofun, nofun, nofun, nofun, nofun, nofun, nofun, nofun, nofun, nofun, nofun, nofun, nofun⟩⟩
    case hs =>
      rename World => w1
      rintro D _ W ⟨v6, v7, v10, v11, v12, v13, v14, v15, v16, v17, rfl, hI⟩ i o ho hD hA K hK
      have hi : i < 11 := (Array.getElem?_eq_some_iff.1 ho).1
      have HI := Lib.hid hI
      have HK := Lib.hid hK
      clear hI hK HR1 HR2 HT H6 HO1 HB1
      obtain rfl | rfl | rfl | rfl | rfl | rfl | rfl | rfl | rfl | rfl | rfl : i = 0 ∨ i = 1 ∨ i = 2 ∨ i = 3 ∨ i = 4 ∨ i = 5 ∨ i = 6 ∨ i = 7 ∨ i = 8 ∨ i = 9 ∨ i = 10 := by omega
      all_goals (obtain rfl := Option.some.inj ho; clear ho hi; simp [Region.binds] at hA; unfold bAct2)
      · have x0 := HI.out.st.c0
        have x1 := HI.out.st.c1
        go_simp
        exact HK.out _ _ ⟨_, _, _, _, _, _, _, _, _, _, rfl, ⟨(by simpa using HI.out.st), (by simpa using HI.out.bl), (fun _ => rfl), (by simpa using HI.out.s12), (by simpa using HI.out.s13), (by simpa using HI.out.s14), (by simpa using HI.out.s15), (by simpa using HI.out.s10), (by simpa using HI.out.s16), (by simpa using HI.out.s17), (by simpa using HI.out.s6), (by simpa using HI.out.s7), (fun h => by have h2 := HI.out.o5 (by simpa using h); simp [h2]), (fun h => by have h2 := HI.out.o6 (by simpa using h); simp [h2]), (fun h => by have h2 := HI.out.o7 (by simpa using h); simp [h2]), (fun h => by have h2 := HI.out.o9 (by simpa using h); simp [h2.1, h2.2])⟩⟩
      · go_simp
        exact HK.out _ _ ⟨_, _, _, _, _, _, _, _, _, _, rfl, ⟨(by simpa using HI.out.st), (by simpa using HI.out.bl), (by simpa using HI.out.s11), (fun _ => rfl), (by simpa using HI.out.s13), (by simpa using HI.out.s14), (by simpa using HI.out.s15), (by simpa using HI.out.s10), (by simpa using HI.out.s16), (by simpa using HI.out.s17), (by simpa using HI.out.s6), (by simpa using HI.out.s7), (fun h => by have h2 := HI.out.o5 (by simpa using h); simp [h2]), (fun h => by have h2 := HI.out.o6 (by simpa using h); simp [h2]), (fun h => by have h2 := HI.out.o7 (by simpa using h); simp [h2]), (fun h => by have h2 := HI.out.o9 (by simpa using h); simp [h2.1, h2.2])⟩⟩
      · obtain rfl := HI.out.s12 (by simp_all)
        go_simp
        refine (HLT.out W).mono ?_
        rintro e W' ⟨rfl, hww⟩
        have hww := hww.symm
        subst hww
        exact HK.out _ _ ⟨_, _, _, _, _, _, _, _, _, _, rfl, ⟨(by simpa using HI.out.st), (by simpa using HI.out.bl), (by simpa using HI.out.s11), (fun _ => rfl), (fun _ => rfl), (by simpa using HI.out.s14), (by simpa using HI.out.s15), (by simpa using HI.out.s10), (by simpa using HI.out.s16), (by simpa using HI.out.s17), (by simpa using HI.out.s6), (by simpa using HI.out.s7), (fun h => by have h2 := HI.out.o5 (by simpa using h); simp [h2]), (fun h => by have h2 := HI.out.o6 (by simpa using h); simp [h2]), (fun h => by have h2 := HI.out.o7 (by simpa using h); simp [h2]), (fun h => by have h2 := HI.out.o9 (by simpa using h); simp [h2.1, h2.2])⟩⟩
      · obtain rfl := HI.out.s13 (by simp_all)
        go_simp
        exact HK.out _ _ ⟨_, _, _, _, _, _, _, _, _, _, rfl, ⟨(by simpa using HI.out.st), (by simpa using HI.out.bl), (by simpa using HI.out.s11), (by simpa using HI.out.s12), (fun _ => rfl), (fun _ => rfl), (by simpa using HI.out.s15), (by simpa using HI.out.s10), (by simpa using HI.out.s16), (by simpa using HI.out.s17), (by simpa using HI.out.s6), (by simpa using HI.out.s7), (fun h => by have h2 := HI.out.o5 (by simpa using h); simp [h2]), (fun h => by have h2 := HI.out.o6 (by simpa using h); simp [h2]), (fun h => by have h2 := HI.out.o7 (by simpa using h); simp [h2]), (fun h => by have h2 := HI.out.o9 (by simpa using h); simp [h2.1, h2.2])⟩⟩
      · have h5 := notD (fun h => HI.out.o5 h) hD
        obtain rfl := HI.out.s11 (by simp_all)
        obtain rfl := HI.out.s14 (by simp_all)
        go_simp
        refine (HL.out W true (HS.out.ofB HI.out.bl)).mono ?_
        rintro e W' ⟨g, rfl, hg, hr, hb⟩
        exact HK.out _ _ ⟨_, _, _, _, _, _, _, _, _, _, rfl, ⟨(HI.out.st.step hb), (HI.out.bl.trans (hb.mono HI.out.bl.size)), (fun _ => rfl), (by simpa using HI.out.s12), (by simpa using HI.out.s13), (fun _ => rfl), (fun _ => ⟨g, rfl, Nat.le_trans HI.out.bl.size hg, row_own6 hr⟩), (fun h => by simp [h5] at h), (by simpa using HI.out.s16), (by simpa using HI.out.s17), (fun h => by obtain ⟨b, x, z, e, hl, ht, h2⟩ := HI.out.s6 (by simpa using h); exact ⟨b, x, z, e, hl, ht.step hb, fun h3 => h2 (by simpa using h3)⟩), (by simpa using HI.out.s7), (fun h => by have h2 := HI.out.o5 (by simpa using h); simp [h2]), (fun h => by have h2 := HI.out.o6 (by simpa using h); simp [h2]), (fun h => by have h2 := HI.out.o7 (by simpa using h); simp [h2]), (fun h => by have h2 := HI.out.o9 (by simpa using h); simp [h2.1, h2.2])⟩⟩
      · have h6 := notD (fun h => HI.out.o6 h) hD
        go_simp
        exact HK.out _ _ ⟨_, _, _, _, _, _, _, _, _, _, rfl, ⟨(by simpa using HI.out.st), (by simpa using HI.out.bl), (by simpa using HI.out.s11), (by simpa using HI.out.s12), (by simpa using HI.out.s13), (by simpa using HI.out.s14), (by simpa using HI.out.s15), (fun _ => rfl), (fun h => by simp [h6] at h), (by simpa using HI.out.s17), (by simpa using HI.out.s6), (by simpa using HI.out.s7), (fun _ => by simp_all), (fun h => by have h2 := HI.out.o6 (by simpa using h); simp [h2]), (fun h => by have h2 := HI.out.o7 (by simpa using h); simp [h2]), (fun h => by have h2 := HI.out.o9 (by simpa using h); simp [h2.1, h2.2])⟩⟩
      · have q5 : D 5 = true := by simp_all
        have q4 := HI.out.o5 q5
        obtain ⟨g, rfl, hg, ho⟩ := HI.out.s15 q4
        obtain rfl := HI.out.s10 q5
        have h9 := notD (fun h => (HI.out.o9 h).1) hD
        go_simp
        exact HK.out _ _ ⟨_, _, _, _, _, _, _, _, _, _, rfl, ⟨(by simpa using HI.out.st), (by simpa using HI.out.bl), (by simpa using HI.out.s11), (by simpa using HI.out.s12), (by simpa using HI.out.s13), (by simpa using HI.out.s14), (by simpa using HI.out.s15), (fun _ => rfl), (fun _ => rfl), (by simpa using HI.out.s17), (fun h => by obtain ⟨b, x, z, e, hl, ht, h2⟩ := HI.out.s6 (by simpa using h); exact ⟨b, x, z, e, hl, ht, fun h3 => by simp [h9] at h3⟩), (by simpa using HI.out.s7), (fun h => by have h2 := HI.out.o5 (by simpa using h); simp [h2]), (fun _ => by simp [q5]), (fun h => by have h2 := HI.out.o7 (by simpa using h); simp [h2]), (fun h => by have h2 := HI.out.o9 (by simpa using h); simp [h2.1, h2.2])⟩⟩
      · have q5 : D 5 = true := by simp_all
        have q4 := HI.out.o5 q5
        obtain ⟨g, rfl, hg, ho⟩ := HI.out.s15 q4
        obtain rfl := HI.out.s10 q5
        go_simp
        exact HK.out _ _ ⟨_, _, _, _, _, _, _, _, _, _, rfl, ⟨(by simpa using HI.out.st), (by simpa using HI.out.bl), (by simpa using HI.out.s11), (by simpa using HI.out.s12), (by simpa using HI.out.s13), (by simpa using HI.out.s14), (by simpa using HI.out.s15), (fun _ => rfl), (by simpa using HI.out.s16), (fun _ => rfl), (by simpa using HI.out.s6), (by simpa using HI.out.s7), (fun h => by have h2 := HI.out.o5 (by simpa using h); simp [h2]), (fun h => by have h2 := HI.out.o6 (by simpa using h); simp [h2]), (fun _ => by simp [q5]), (fun h => by have h2 := HI.out.o9 (by simpa using h); simp [h2.1, h2.2])⟩⟩
      · have h9 := notD (fun h => (HI.out.o9 h).2) hD
        have hb : Below W.heap.size W (W.alloc (.cells #[.slice none 0 0, .int .i64 0] 36)) := (Below.refl _ _).alloc (Nat.le_refl _) _
        go_simp
        exact HK.out _ _ ⟨_, _, _, _, _, _, _, _, _, _, rfl, ⟨(HI.out.st.step hb), (HI.out.bl.trans (hb.mono HI.out.bl.size)), (by simpa using HI.out.s11), (by simpa using HI.out.s12), (by simpa using HI.out.s13), (by simpa using HI.out.s14), (fun h => by obtain ⟨g, e, hw, ho⟩ := HI.out.s15 (by simpa using h); exact ⟨g, e, hw, own_same ho (hb.block _ (own_lt ho))⟩), (by simpa using HI.out.s10), (by simpa using HI.out.s16), (by simpa using HI.out.s17), (fun _ => ⟨W.heap.size, .slice none 0 0, .int .i64 0, rfl, HI.out.bl.size, Two.new W _ _ _ _ rfl, fun h3 => by simp [h9] at h3⟩), (by simpa using HI.out.s7), (fun h => by have h2 := HI.out.o5 (by simpa using h); simp [h2]), (fun h => by have h2 := HI.out.o6 (by simpa using h); simp [h2]), (fun h => by have h2 := HI.out.o7 (by simpa using h); simp [h2]), (fun h => by have h2 := HI.out.o9 (by simpa using h); simp [h2.1, h2.2])⟩⟩
      · have q6 : D 6 = true := by simp_all
        have q8 : D 8 = true := by simp_all
        have q5 := HI.out.o6 q6
        have q4 := HI.out.o5 q5
        obtain ⟨g, e15, hg, ho⟩ := HI.out.s15 q4
        have e10 := HI.out.s10 q5
        have e16 := HI.out.s16 q6
        obtain rfl : v16 = .agg #[.slice (some ⟨g, 0, none⟩) zs.length zs.length, .int .i64 (M : Int)] := by rw [e10, e15] at e16; simp at e16; exact e16.symm
        obtain ⟨b, x, z, rfl, hl, ht, _⟩ := HI.out.s6 q8
        have c0 := ht.c0
        have c1 := ht.c1
        have f0 := ht.f0
        have f1 := ht.f1
        obtain ⟨hs, hw⟩ := stored2 ht.row (.slice (some ⟨g, 0, none⟩) zs.length zs.length) (.int .i64 (M : Int))
        have hs := Lib.hid hs
        have hw := Lib.hid hw
        have H15 := Lib.hid e15
        have H16 := Lib.hid e16
        have H10 := Lib.hid e10
        clear e15 e16 e10
        go_simp
        have e15 := H15.out
        have e16 := H16.out
        exact HK.out _ _ ⟨_, _, _, _, _, _, _, _, _, _, rfl, ⟨(HI.out.st.within hw.out (.inl (Nat.lt_of_lt_of_le hn hl))), (HI.out.bl.trans (hw.out.below hl HI.out.bl.size)), (by simpa using HI.out.s11), (by simpa using HI.out.s12), (by simpa using HI.out.s13), (by simpa using HI.out.s14), (fun h => ⟨g, e15, hg, own_same ho (hw.out.block _ (own_lt ho) (by have := own_two_ne ho ht; omega))⟩), (by simpa using HI.out.s10), (fun _ => e16), (by simpa using HI.out.s17), (fun _ => ⟨b, _, _, rfl, hl, ⟨hs.out⟩, fun _ => rfl⟩), (by simpa using HI.out.s7), (fun h => by have h2 := HI.out.o5 (by simpa using h); simp [h2]), (fun h => by have h2 := HI.out.o6 (by simpa using h); simp [h2]), (fun h => by have h2 := HI.out.o7 (by simpa using h); simp [h2]), (fun _ => ⟨by simp [q6], by simp [q8]⟩)⟩⟩
      · obtain rfl := HI.out.s17 (by simp_all)
        go_simp
        exact HK.out _ _ ⟨_, _, _, _, _, _, _, _, _, _, rfl, ⟨(by simpa using HI.out.st), (by simpa using HI.out.bl), (by simpa using HI.out.s11), (by simpa using HI.out.s12), (by simpa using HI.out.s13), (by simpa using HI.out.s14), (by simpa using HI.out.s15), (by simpa using HI.out.s10), (by simpa using HI.out.s16), (fun _ => rfl), (by simpa using HI.out.s6), (fun _ => rfl), (fun h => by have h2 := HI.out.o5 (by simpa using h); simp [h2]), (fun h => by have h2 := HI.out.o6 (by simpa using h); simp [h2]), (fun h => by have h2 := HI.out.o7 (by simpa using h); simp [h2]), (fun h => by have h2 := HI.out.o9 (by simpa using h); simp [h2.1, h2.2])⟩⟩
    case hd =>
      rintro D _ W2 ⟨v6, v7, v10, v11, v12, v13, v14, v15, v16, v17, rfl, hI⟩ hall
      obtain ⟨b8, x6, z6, rfl, hl6, ht6, h6⟩ := hI.s6 (hall 8 (by decide))
      obtain ⟨g2, rfl, hg2, ho2⟩ := hI.s15 (hall 4 (by decide))
      obtain rfl := hI.s10 (hall 5 (by decide))
      have e16 := hI.s16 (hall 6 (by decide))
      obtain rfl : v16 = .agg #[.slice (some ⟨g2, 0, none⟩) zs.length zs.length, .int .i64 (M : Int)] := by simp at e16; exact e16.symm
      obtain ⟨rfl, rfl⟩ : x6 = .slice (some ⟨g2, 0, none⟩) zs.length zs.length ∧ z6 = .int .i64 (M : Int) := by
        have e := h6 (hall 9 (by decide))
        simp at e
        exact ⟨e.1.symm, e.2.symm⟩
      have H8 := Lib.hid ht6
      have HO2 := Lib.hid ho2
      have hrr := HR2.out.lt
      replace HO1 := Lib.hid (own_same HO1.out (hI.bl.block g1 (own_lt HO1.out)))
      replace H6 := Lib.hid (H6.out.step hI.bl)
      replace HR1 := Lib.hid (HR1.out.step hI.bl)
      replace HR2 := Lib.hid (HR2.out.step hI.bl)
      replace HB1 := Lib.hid (below_trans HB1.out hI.bl)
      have hsz1 := hI.bl.size
      have hlt6 := H6.out.lt
      clear hI hall ht6 ho2 h6 e16 HS HL HLT HT
      simp only [bAct2]
      have p0 := H6.out.c0
      have p1 := H6.out.c1
      have p2 := H8.out.c0
      have p3 := H8.out.c1
      have r0 := HR1.out.c0
      have r1 := HR1.out.c1
      have r2 := HR1.out.f0
      have r3 := HR1.out.f1
      have r4 := HR2.out.c0
      have r5 := HR2.out.c1
      have r6 := HR2.out.f0
      have r7 := HR2.out.f1
      obtain ⟨hs1, hw1⟩ := stored2 HR1.out.row (.slice (some ⟨g1, 0, none⟩) zs.length zs.length) (.int .i64 (M : Int))
      have H8b := H8.out.within hw1 (.inr (by omega))
      have HR2b := HR2.out.within hw1 (.inr (by omega))
      have q0 := H8b.c0
      have q1 := H8b.c1
      have q4 := HR2b.c0
      have q5 := HR2b.c1
      have q6 := HR2b.f0
      have q7 := HR2b.f1
      obtain ⟨hs2, hw2⟩ := stored2 HR2b.row (.slice (some ⟨g2, 0, none⟩) zs.length zs.length) (.int .i64 (M : Int))
      have HS1 := Lib.hid ((hw2.block _ (row_ltI hs1) (.inl (by omega))).trans hs1)
      have HS2 := Lib.hid hs2
      have HW1 := Lib.hid hw1
      have HW2 := Lib.hid hw2
      clear hs1 hs2 hw1 hw2 H8b HR2b
      have HF1 := Lib.hid (own_same (own_same HO1.out (HW1.out.block g1 (own_lt HO1.out) (.inr (by omega)))) (HW2.out.block g1 (Nat.lt_of_lt_of_le (own_lt HO1.out) HW1.out.size) (.inr (by omega))))
      have HF2 := Lib.hid (own_same (own_same HO2.out (HW1.out.block g2 (own_lt HO2.out) (.inr (by omega)))) (HW2.out.block g2 (Nat.lt_of_lt_of_le (own_lt HO2.out) HW1.out.size) (.inr (by omega))))
      have HFB := Lib.hid ((HB1.out.trans (HW1.out.below (Nat.le_succ _) HB1.out.size)).trans (HW2.out.below (Nat.le_add_right _ 2) (Nat.le_trans HB1.out.size HW1.out.size)))
      have e0 := two0 HS1.out
      have e1 := two1 HS1.out
      have e2 := two0 HS2.out
      have e3 := two1 HS2.out
      go_wp2_with fail
      go_region
      all_goals
        go_wp2
        refine bodyPost_ret (v := .tuple #[.agg #[.slice (some ⟨g1, 0, none⟩) zs.length zs.length, .int .i64 (M : Int)], .agg #[.slice (some ⟨g2, 0, none⟩) zs.length zs.length, .int .i64 (M : Int)]]) (by simp [results, go_sem, e0, e1, e2, e3]) rfl ?_
        exact ⟨g1, g2, rfl, by omega, by omega, own_same HF1.out rfl, own_same HF2.out rfl, by first | exact HFB.out.drew | exact HFB.out⟩
end Go.Proofs.Ytdkffkgoalgjmab
