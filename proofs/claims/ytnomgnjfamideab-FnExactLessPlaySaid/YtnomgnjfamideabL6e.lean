/- The need of a comparison, as the specification has it. -/
import Derived.Test.YtnomgnjfamideabL6d
import Derived.Test.YtnomgnjfamideabRegI
namespace Go.Proofs.Ytnomgnjfamideab
open Go.RowKit Go.ChangeShapes Go.WideShapes
set_option linter.unusedVariables false

set_option maxHeartbeats 2000000 in
theorem l1Same6 (A : Option Addr) (c lo hi : Nat) (A2 : Option Addr) (c2 lo2 hi2 : Nat) (zs ys : List Int) (w : World) (hS : Ins w lo hi A zs) (hS2 : Ins w lo2 hi2 A2 ys) (hl : ys.length = zs.length) (h12 : zs.length ≤ 12) :
    Calls Try.prog 85 #[.slice A zs.length c, .slice A2 zs.length c2] w fun e w' => e = .returned (.bool (decide (zs = ys))) ∧ Below w.heap.size w w' := by
  have HS := Lib.hid hS
  have HS2 := Lib.hid hS2
  have HL := Lib.hid hl
  have htop := hS.top
  have htop2 := hS2.top
  clear hS hS2 hl
  go_enter Try.func85, Try.ntmps85
  go_wp2_with fail
  go_loopw [5] (fun i wr => ∃ (k q : Nat), k ≤ zs.length ∧ i = .int .i64 k ∧ Hid (∀ j, j < k → zs[j]? = ys[j]?) ∧ wr = w.drewN q) (fun i _ => zs.length - (intOf i).toNat)
  case atStart => exact ⟨0, 0, Nat.zero_le _, rfl, Lib.hid (fun j h => absurd h (by omega)), rfl⟩
  case round =>
    obtain ⟨k, q, hk, rfl, HF, rfl⟩ := hrel
    by_cases hlt : k < zs.length
    · have hlt2 : k < ys.length := by rw [HL.out]; exact hlt
      obtain ⟨b, o, rfl, _, hb, hc⟩ := HS.out.ints.at_ hlt
      obtain ⟨b2, o2, rfl, _, hb2, hc2⟩ := HS2.out.ints.at_ hlt2
      have HNk : Hid (zs[k] ≠ ys[k] → zs ≠ ys) := Lib.hid (fun h e => by subst e; exact h rfl)
      have HF2 : Hid (zs[k] = ys[k] → ∀ j, j < k + 1 → zs[j]? = ys[j]?) := Lib.hid (fun e j hj => by
        by_cases hjk : j = k
        · subst hjk; rw [List.getElem?_eq_getElem hlt, List.getElem?_eq_getElem hlt2, e]
        · exact HF.out j (by omega))
      have hltI : (k : Int) < (zs.length : Int) := by omega
      have hk0 : (0 : Int) ≤ (k : Int) := by omega
      have hb3 : b < w.heap.size := by omega
      have hb4 : b2 < w.heap.size := by omega
      generalize zs[k] = x at hc HNk HF2
      generalize ys[k]'_ = y at hc2 HNk HF2
      clear hlt2
      by_cases hxy : x = y
      · subst hxy
        have HF3 := Lib.hid (HF2.out rfl)
        clear HNk HF2 HF
        go_wp2_with fail
        go_quiet (fail)
        go_wp2
        go_roundw
        case rel => exact ⟨k + 1, _, by omega, by go_num, HF3, rfl⟩
        case measure => simp [intOf]; omega
      · have E := Lib.hid (decide_eq_false (HNk.out hxy))
        clear HNk HF2 HF
        go_wp2_with fail
        go_quiet (fail)
        go_wp2
        go_ret
        exact ⟨by rw [E.out]; rfl, by first | exact below_drewN (Below.refl _ _) _ | exact below_drewN (below_drewN (Below.refl _ _) _) _⟩
    · obtain rfl : k = zs.length := by omega
      have E : Hid (decide (zs = ys) = true) := Lib.hid (decide_eq_true (List.ext_getElem? (fun j => by
        rcases Nat.lt_or_ge j zs.length with h | h
        · exact HF.out j h
        · rw [List.getElem?_eq_none h, List.getElem?_eq_none (by rw [HL.out]; exact h)])))
      go_wp2
      go_ret
      exact ⟨by rw [E.out]; rfl, below_drewN (Below.refl _ _) _⟩

theorem own_two_ne {w : World} {g b : Nat} {L : List Int} {x y : Value} (h : Own w g (g + 1) (some ⟨g, 0, none⟩) L) (t : Two w b x y 44) : g ≠ b := by
  rcases h with ⟨h, _⟩ | ⟨g', cur, e, _, _, hr, _⟩
  · cases h
  · injection e with e
    injection e with e
    subst e
    rintro rfl
    have := hr.symm.trans t.row
    injection this with this
    injection this with _ h
    exact absurd h (by decide)
theorem Ins.ofB {w w' : World} {lo hi : Nat} {A : Option Addr} {zs : List Int} (h : Ins w lo hi A zs) (hb : Below w.heap.size w w') : Ins w' lo hi A zs := h.step hb
theorem notD {a b : Bool} (h : a = true → b = true) (hb : b = false) : a = false := by
  cases a with
  | false => rfl
  | true => rw [h rfl] at hb; cases hb

def nAct (n len : Nat) (A : Option Addr) (c k M : Nat) (nd v7 v8 v9 v10 v11 v12 v13 v14 : Value) : Act :=
  { tmps := #[.agg #[.slice A len c, .int .i64 (M : Int)], .int .i64 (k : Int), nd, .pointer (some ⟨n, 0, none⟩), undef, undef, .int .i64 0, v7, v8, v9, v10, v11, v12, v13, v14, undef, undef, undef, undef, undef, undef, undef, undef, undef, undef, undef, undef, undef, undef, undef, undef, undef, undef, undef, undef, undef, undef, undef, undef], defers := [] }
structure NInv (w0 : World) (n len : Nat) (A : Option Addr) (c k M : Nat) (L1 L2 : List Int) (D : Nat → Bool) (v7 v8 v9 v10 v11 v12 v13 v14 : Value) (W : World) : Prop where
  st : Two W n (.slice A len c) (.int .i64 (M : Int)) 44
  bl : Below w0.heap.size w0 W
  s9 : D 0 = true → v9 = .agg #[.slice A len c, .int .i64 (M : Int)]
  s10 : D 1 = true → v10 = .int .i64 (k : Int)
  s11 : D 2 = true → ∃ g c', v11 = .agg #[.slice (some ⟨g, 0, none⟩) len c', .int .i64 (M : Int)] ∧ w0.heap.size ≤ g ∧ Own W g (g + 1) (some ⟨g, 0, none⟩) L1
  s12 : D 3 = true → v12 = .agg #[.slice A len c, .int .i64 (M : Int)]
  s13 : D 4 = true → v13 = .int .i64 (k : Int)
  s14 : D 5 = true → ∃ g c', v14 = .agg #[.slice (some ⟨g, 0, none⟩) len c', .int .i64 (M : Int)] ∧ w0.heap.size ≤ g ∧ Own W g (g + 1) (some ⟨g, 0, none⟩) L2
  s7 : D 6 = true → ∃ b x y, v7 = .pointer (some ⟨b, 0, none⟩) ∧ w0.heap.size ≤ b ∧ Two W b x y 44 ∧ (D 8 = true → v11 = .agg #[x, y])
  s8 : D 7 = true → ∃ b x y, v8 = .pointer (some ⟨b, 0, none⟩) ∧ w0.heap.size ≤ b ∧ Two W b x y 44 ∧ (D 9 = true → v14 = .agg #[x, y])
  ne : D 6 = true → D 7 = true → v7 ≠ v8
  o8 : D 8 = true → D 2 = true ∧ D 6 = true
  o9 : D 9 = true → D 5 = true ∧ D 7 = true

set_option maxRecDepth 100000 in
set_option maxHeartbeats 8000000 in
theorem l6NeedOf_any (A : Option Addr) (c lo hi : Nat) (zs : List Int) (M k : Nat) (A2 : Option Addr) (c2 lo2 hi2 : Nat) (w : World) (hS : Ins w lo hi A zs) (hS2 : Ins w lo2 hi2 A2 (needsL M zs.length)) (hs : Short M zs) (hk : k ≤ 12) :
    Calls Try.prog 74 #[.agg #[.slice A zs.length c, .int .i64 (M : Int)], .int .i64 (k : Int), .slice A2 ((M + 2) ^ zs.length) c2] w fun e w' => e = .returned (.int .i64 (snofL M zs k)) ∧ Below w.heap.size w w' := by
  have hl5 := hs.len
  have hpw := pow_top hs.m hs.pos hs.len
  have HT := Lib.hid (Two.new w (.slice A zs.length c) (.int .i64 (M : Int)) 44 w.heap.size rfl)
  have HB := Lib.hid ((Below.refl w.heap.size w).alloc (Nat.le_refl _) (.cells #[.slice A zs.length c, .int .i64 (M : Int)] 44))
  have HS := Lib.hid (hS.step HB.out)
  have HS2 := Lib.hid (hS2.step HB.out)
  have HL := Lib.hid (fun W y h => l6After_any A c lo hi zs M k y W h hs hk)
  have HQ1 := Lib.hid (fun g c1 W h h2 => l1Same6 (some ⟨g, 0, none⟩) c1 g (g + 1) A c lo hi (cmpAft zs M k true) zs W h h2 (by rw [cmpAft_len]) (by rw [cmpAft_len]; omega))
  have HQ2 := Lib.hid (fun g c1 W h h2 => l1Same6 (some ⟨g, 0, none⟩) c1 g (g + 1) A c lo hi (cmpAft zs M k false) zs W h h2 (by rw [cmpAft_len]) (by rw [cmpAft_len]; omega))
  have HK1 := Lib.hid (fun g c1 W h => l6Key_any (some ⟨g, 0, none⟩) c1 g (g + 1) (cmpAft zs M k true) M W h (hs.aft k true))
  have HK2 := Lib.hid (fun g c1 W h => l6Key_any (some ⟨g, 0, none⟩) c1 g (g + 1) (cmpAft zs M k false) M W h (hs.aft k false))
  rw [cmpAft_len] at HQ1 HQ2 HK1 HK2
  have hky := keyTo_lt (hs.aft k true).fit
  have hkn := keyTo_lt (hs.aft k false).fit
  rw [cmpAft_len] at hky hkn
  have HNy := Lib.hid (fun h => needsL_at (hs.aft k true) h)
  have HNn := Lib.hid (fun h => needsL_at (hs.aft k false) h)
  rw [cmpAft_len] at HNy HNn
  have hny := needS_le (hs.aft k true)
  have hnn := needS_le (hs.aft k false)
  have HV : Hid (snofL M zs k = if decide (cmpAft zs M k true = zs) || decide (cmpAft zs M k false = zs) then -1 else ((1 + max (needL M (cmpAft zs M k true)) (needL M (cmpAft zs M k false)) : Nat) : Int)) := Lib.hid (by
    unfold snofL
    simp only [Bool.or_eq_true, decide_eq_true_eq])
  have HNL := Lib.hid (needsL_len M zs.length)
  clear hS hS2 hs
  generalize hq1 : decide (cmpAft zs M k true = zs) = q1 at HQ1 HV
  generalize hq2 : decide (cmpAft zs M k false = zs) = q2 at HQ2 HV
  clear hq1 hq2
  generalize keyS M (cmpAft zs M k true) = ky at HK1 hky HNy
  generalize keyS M (cmpAft zs M k false) = kn at HK2 hkn HNn
  generalize needL M (cmpAft zs M k true) = ny at HNy hny HV
  generalize needL M (cmpAft zs M k false) = nn at HNn hnn HV
  go_enter Try.func74, Try.ntmps74
  go_wp2_with fail
  generalize w.alloc (.cells #[.slice A zs.length c, .int .i64 (M : Int)] 44) = w0 at HT HB HS HS2 ⊢
  have hn := HT.out.lt
  refine wp_region_noPanic ?_
  refine wp_region_inv5 (by kernel_rfl) (by kernel_rfl) (fun D A' W => ∃ v7 v8 v9 v10 v11 v12 v13 v14, A' = nAct w.heap.size zs.length A c k M (.slice A2 ((M + 2) ^ zs.length) c2) v7 v8 v9 v10 v11 v12 v13 v14 ∧ NInv w0 w.heap.size zs.length A c k M (cmpAft zs M k true) (cmpAft zs M k false) D v7 v8 v9 v10 v11 v12 v13 v14 W) ?h0 ?hs ?hd
  case h0 => exact ⟨undef, undef, undef, undef, undef, undef, undef, undef, rfl, ⟨HT.out.step (Below.refl _ _).drew, (Below.refl _ _).drew, nofun, nofun, nofun, nofun, nofun, nofun, nofun, nofun, nofun, nofun, nofun⟩⟩
  case hs =>
    rintro D _ W ⟨v7, v8, v9, v10, v11, v12, v13, v14, rfl, hI⟩ i o ho hD hA K hK
    have hi : i < 10 := (Array.getElem?_eq_some_iff.1 ho).1
    have HI := Lib.hid hI
    have HK := Lib.hid hK
    clear hI hK
    obtain rfl | rfl | rfl | rfl | rfl | rfl | rfl | rfl | rfl | rfl : i = 0 ∨ i = 1 ∨ i = 2 ∨ i = 3 ∨ i = 4 ∨ i = 5 ∨ i = 6 ∨ i = 7 ∨ i = 8 ∨ i = 9 := by omega
    all_goals (obtain rfl := Option.some.inj ho; clear ho hi; simp [Region.binds] at hA; unfold nAct)
    · have x0 := HI.out.st.c0
      have x1 := HI.out.st.c1
      go_simp
      exact HK.out _ _ ⟨_, _, _, _, _, _, _, _, rfl, ⟨(by simpa using HI.out.st), (by simpa using HI.out.bl), (fun _ => rfl), (by simpa using HI.out.s10), (by simpa using HI.out.s11), (by simpa using HI.out.s12), (by simpa using HI.out.s13), (by simpa using HI.out.s14), (by simpa using HI.out.s7), (by simpa using HI.out.s8), (by simpa using HI.out.ne), (fun h => by have h2 := HI.out.o8 (by simpa using h); simp [h2.1, h2.2]), (fun h => by have h2 := HI.out.o9 (by simpa using h); simp [h2.1, h2.2])⟩⟩
    · go_simp
      exact HK.out _ _ ⟨_, _, _, _, _, _, _, _, rfl, ⟨(by simpa using HI.out.st), (by simpa using HI.out.bl), (by simpa using HI.out.s9), (fun _ => rfl), (by simpa using HI.out.s11), (by simpa using HI.out.s12), (by simpa using HI.out.s13), (by simpa using HI.out.s14), (by simpa using HI.out.s7), (by simpa using HI.out.s8), (by simpa using HI.out.ne), (fun h => by have h2 := HI.out.o8 (by simpa using h); simp [h2.1, h2.2]), (fun h => by have h2 := HI.out.o9 (by simpa using h); simp [h2.1, h2.2])⟩⟩
    · obtain rfl := HI.out.s9 hA.1
      obtain rfl := HI.out.s10 hA.2
      have h8 := notD (fun h => (HI.out.o8 h).1) hD
      go_simp
      refine (HL.out W true ((HS.out.step (Below.refl _ w0)).ofB HI.out.bl)).mono ?_
      rintro e W' ⟨g, c', rfl, hg, ho, hb⟩
      exact HK.out _ _ ⟨_, _, _, _, _, _, _, _, rfl, ⟨(HI.out.st.step hb), (HI.out.bl.trans (hb.mono HI.out.bl.size)), (fun _ => rfl), (fun _ => rfl), (fun _ => ⟨g, c', rfl, Nat.le_trans HI.out.bl.size hg, ho⟩), (by simpa using HI.out.s12), (by simpa using HI.out.s13), (fun h => by obtain ⟨g, c', e, hw, ho⟩ := HI.out.s14 (by simpa using h); exact ⟨g, c', e, hw, own_same ho (hb.block _ (own_lt ho))⟩), (fun h => by obtain ⟨b, x, y, e, hl, ht, h2⟩ := HI.out.s7 (by simpa using h); exact ⟨b, x, y, e, hl, ht.step hb, fun h3 => by simp [h8] at h3⟩), (fun h => by obtain ⟨b, x, y, e, hl, ht, h2⟩ := HI.out.s8 (by simpa using h); exact ⟨b, x, y, e, hl, ht.step hb, fun h3 => h2 (by simpa using h3)⟩), (by simpa using HI.out.ne), (fun h => by have h2 := HI.out.o8 (by simpa using h); simp [h2.1, h2.2]), (fun h => by have h2 := HI.out.o9 (by simpa using h); simp [h2.1, h2.2])⟩⟩
    · have x0 := HI.out.st.c0
      have x1 := HI.out.st.c1
      go_simp
      exact HK.out _ _ ⟨_, _, _, _, _, _, _, _, rfl, ⟨(by simpa using HI.out.st), (by simpa using HI.out.bl), (by simpa using HI.out.s9), (by simpa using HI.out.s10), (by simpa using HI.out.s11), (fun _ => rfl), (by simpa using HI.out.s13), (by simpa using HI.out.s14), (by simpa using HI.out.s7), (by simpa using HI.out.s8), (by simpa using HI.out.ne), (fun h => by have h2 := HI.out.o8 (by simpa using h); simp [h2.1, h2.2]), (fun h => by have h2 := HI.out.o9 (by simpa using h); simp [h2.1, h2.2])⟩⟩
    · go_simp
      exact HK.out _ _ ⟨_, _, _, _, _, _, _, _, rfl, ⟨(by simpa using HI.out.st), (by simpa using HI.out.bl), (by simpa using HI.out.s9), (by simpa using HI.out.s10), (by simpa using HI.out.s11), (by simpa using HI.out.s12), (fun _ => rfl), (by simpa using HI.out.s14), (by simpa using HI.out.s7), (by simpa using HI.out.s8), (by simpa using HI.out.ne), (fun h => by have h2 := HI.out.o8 (by simpa using h); simp [h2.1, h2.2]), (fun h => by have h2 := HI.out.o9 (by simpa using h); simp [h2.1, h2.2])⟩⟩
    · obtain rfl := HI.out.s12 hA.1
      obtain rfl := HI.out.s13 hA.2.1
      have h9 := notD (fun h => (HI.out.o9 h).1) hD
      go_simp
      refine (HL.out W false ((HS.out.step (Below.refl _ w0)).ofB HI.out.bl)).mono ?_
      rintro e W' ⟨g, c', rfl, hg, ho, hb⟩
      exact HK.out _ _ ⟨_, _, _, _, _, _, _, _, rfl, ⟨(HI.out.st.step hb), (HI.out.bl.trans (hb.mono HI.out.bl.size)), (by simpa using HI.out.s9), (by simpa using HI.out.s10), (fun h => by obtain ⟨g, c', e, hw, ho⟩ := HI.out.s11 (by simpa using h); exact ⟨g, c', e, hw, own_same ho (hb.block _ (own_lt ho))⟩), (fun _ => rfl), (fun _ => rfl), (fun _ => ⟨g, c', rfl, Nat.le_trans HI.out.bl.size hg, ho⟩), (fun h => by obtain ⟨b, x, y, e, hl, ht, h2⟩ := HI.out.s7 (by simpa using h); exact ⟨b, x, y, e, hl, ht.step hb, fun h3 => h2 (by simpa using h3)⟩), (fun h => by obtain ⟨b, x, y, e, hl, ht, h2⟩ := HI.out.s8 (by simpa using h); exact ⟨b, x, y, e, hl, ht.step hb, fun h3 => by simp [h9] at h3⟩), (by simpa using HI.out.ne), (fun h => by have h2 := HI.out.o8 (by simpa using h); simp [h2.1, h2.2]), (fun h => by have h2 := HI.out.o9 (by simpa using h); simp [h2.1, h2.2])⟩⟩
    · have h8 := notD (fun h => (HI.out.o8 h).2) hD
      have hb : Below W.heap.size W (W.alloc (.cells #[.slice none 0 0, .int .i64 0] 44)) := (Below.refl _ _).alloc (Nat.le_refl _) _
      go_simp
      exact HK.out _ _ ⟨_, _, _, _, _, _, _, _, rfl, ⟨(HI.out.st.step hb), (HI.out.bl.trans (hb.mono HI.out.bl.size)), (by simpa using HI.out.s9), (by simpa using HI.out.s10), (fun h => by obtain ⟨g, c', e, hw, ho⟩ := HI.out.s11 (by simpa using h); exact ⟨g, c', e, hw, own_same ho (hb.block _ (own_lt ho))⟩), (by simpa using HI.out.s12), (by simpa using HI.out.s13), (fun h => by obtain ⟨g, c', e, hw, ho⟩ := HI.out.s14 (by simpa using h); exact ⟨g, c', e, hw, own_same ho (hb.block _ (own_lt ho))⟩), (fun _ => ⟨W.heap.size, .slice none 0 0, .int .i64 0, rfl, HI.out.bl.size, Two.new W _ _ _ _ rfl, fun h3 => by simp [h8] at h3⟩), (fun h => by obtain ⟨b, x, y, e, hl, ht, h2⟩ := HI.out.s8 (by simpa using h); exact ⟨b, x, y, e, hl, ht.step hb, fun h3 => h2 (by simpa using h3)⟩), (fun _ h => by obtain ⟨b, x, y, e, hl, ht, _⟩ := HI.out.s8 (by simpa using h); rw [e]; intro e2; injection e2 with e2; injection e2 with e2; injection e2 with e2; have := ht.lt; omega), (fun h => by have h2 := HI.out.o8 (by simpa using h); simp [h2.1, h2.2]), (fun h => by have h2 := HI.out.o9 (by simpa using h); simp [h2.1, h2.2])⟩⟩
    · have h9 := notD (fun h => (HI.out.o9 h).2) hD
      have hb : Below W.heap.size W (W.alloc (.cells #[.slice none 0 0, .int .i64 0] 44)) := (Below.refl _ _).alloc (Nat.le_refl _) _
      go_simp
      exact HK.out _ _ ⟨_, _, _, _, _, _, _, _, rfl, ⟨(HI.out.st.step hb), (HI.out.bl.trans (hb.mono HI.out.bl.size)), (by simpa using HI.out.s9), (by simpa using HI.out.s10), (fun h => by obtain ⟨g, c', e, hw, ho⟩ := HI.out.s11 (by simpa using h); exact ⟨g, c', e, hw, own_same ho (hb.block _ (own_lt ho))⟩), (by simpa using HI.out.s12), (by simpa using HI.out.s13), (fun h => by obtain ⟨g, c', e, hw, ho⟩ := HI.out.s14 (by simpa using h); exact ⟨g, c', e, hw, own_same ho (hb.block _ (own_lt ho))⟩), (fun h => by obtain ⟨b, x, y, e, hl, ht, h2⟩ := HI.out.s7 (by simpa using h); exact ⟨b, x, y, e, hl, ht.step hb, fun h3 => h2 (by simpa using h3)⟩), (fun _ => ⟨W.heap.size, .slice none 0 0, .int .i64 0, rfl, HI.out.bl.size, Two.new W _ _ _ _ rfl, fun h3 => by simp [h9] at h3⟩), (fun h _ => by obtain ⟨b, x, y, e, hl, ht, _⟩ := HI.out.s7 (by simpa using h); rw [e]; intro e2; injection e2 with e2; injection e2 with e2; injection e2 with e2; have := ht.lt; omega), (fun h => by have h2 := HI.out.o8 (by simpa using h); simp [h2.1, h2.2]), (fun h => by have h2 := HI.out.o9 (by simpa using h); simp [h2.1, h2.2])⟩⟩
    · have hA' : D 6 = true := by simp_all
      have hB' : D 2 = true := by simp_all
      obtain ⟨b, x, y, rfl, hl, ht, _⟩ := HI.out.s7 hA'
      obtain ⟨g, c', rfl, _, _⟩ := HI.out.s11 hB'
      have c0 := ht.c0
      have c1 := ht.c1
      have f0 := ht.f0
      have f1 := ht.f1
      obtain ⟨hs, hw⟩ := stored2 ht.row (.slice (some ⟨g, 0, none⟩) zs.length c') (.int .i64 (M : Int))
      have hs := Lib.hid hs
      have hw := Lib.hid hw
      go_simp
      exact HK.out _ _ ⟨_, _, _, _, _, _, _, _, rfl, ⟨(HI.out.st.within hw.out (.inl (Nat.lt_of_lt_of_le hn hl))), (HI.out.bl.trans (hw.out.below hl HI.out.bl.size)), (by simpa using HI.out.s9), (by simpa using HI.out.s10), (fun h => by obtain ⟨g, c', e, hwg, ho⟩ := HI.out.s11 (by simpa using h); exact ⟨g, c', e, hwg, own_same ho (hw.out.block _ (own_lt ho) (by have := own_two_ne ho ht; omega))⟩), (by simpa using HI.out.s12), (by simpa using HI.out.s13), (fun h => by obtain ⟨g, c', e, hwg, ho⟩ := HI.out.s14 (by simpa using h); exact ⟨g, c', e, hwg, own_same ho (hw.out.block _ (own_lt ho) (by have := own_two_ne ho ht; omega))⟩), (fun _ => ⟨b, _, _, rfl, hl, ⟨hs.out⟩, fun _ => rfl⟩), (fun h => by obtain ⟨b', x', y', e, hl', ht', h2⟩ := HI.out.s8 (by simpa using h); exact ⟨b', x', y', e, hl', ht'.within hw.out (by have : b' ≠ b := fun e3 => HI.out.ne hA' (by simpa using h) (by rw [e, e3]); omega), fun h3 => h2 (by simpa using h3)⟩), (by simpa using HI.out.ne), (fun _ => ⟨by simp [hB'], by simp [hA']⟩), (fun h => by have h2 := HI.out.o9 (by simpa using h); simp [h2.1, h2.2])⟩⟩
    · have hA' : D 7 = true := by simp_all
      have hB' : D 5 = true := by simp_all
      obtain ⟨b, x, y, rfl, hl, ht, _⟩ := HI.out.s8 hA'
      obtain ⟨g, c', rfl, _, _⟩ := HI.out.s14 hB'
      have c0 := ht.c0
      have c1 := ht.c1
      have f0 := ht.f0
      have f1 := ht.f1
      obtain ⟨hs, hw⟩ := stored2 ht.row (.slice (some ⟨g, 0, none⟩) zs.length c') (.int .i64 (M : Int))
      have hs := Lib.hid hs
      have hw := Lib.hid hw
      go_simp
      exact HK.out _ _ ⟨_, _, _, _, _, _, _, _, rfl, ⟨(HI.out.st.within hw.out (.inl (Nat.lt_of_lt_of_le hn hl))), (HI.out.bl.trans (hw.out.below hl HI.out.bl.size)), (by simpa using HI.out.s9), (by simpa using HI.out.s10), (fun h => by obtain ⟨g, c', e, hwg, ho⟩ := HI.out.s11 (by simpa using h); exact ⟨g, c', e, hwg, own_same ho (hw.out.block _ (own_lt ho) (by have := own_two_ne ho ht; omega))⟩), (by simpa using HI.out.s12), (by simpa using HI.out.s13), (fun h => by obtain ⟨g, c', e, hwg, ho⟩ := HI.out.s14 (by simpa using h); exact ⟨g, c', e, hwg, own_same ho (hw.out.block _ (own_lt ho) (by have := own_two_ne ho ht; omega))⟩), (fun h => by obtain ⟨b', x', y', e, hl', ht', h2⟩ := HI.out.s7 (by simpa using h); exact ⟨b', x', y', e, hl', ht'.within hw.out (by have : b' ≠ b := fun e3 => HI.out.ne (by simpa using h) hA' (by rw [e, e3]); omega), fun h3 => h2 (by simpa using h3)⟩), (fun _ => ⟨b, _, _, rfl, hl, ⟨hs.out⟩, fun _ => rfl⟩), (by simpa using HI.out.ne), (fun h => by have h2 := HI.out.o8 (by simpa using h); simp [h2.1, h2.2]), (fun _ => ⟨by simp [hB'], by simp [hA']⟩)⟩⟩
  case hd =>
    rintro D _ W ⟨v7, v8, v9, v10, v11, v12, v13, v14, rfl, hI⟩ hall
    obtain ⟨b7, x7, y7, rfl, hl7, ht7, h7⟩ := hI.s7 (hall 6 (by decide))
    obtain ⟨b8, x8, y8, rfl, hl8, ht8, h8⟩ := hI.s8 (hall 7 (by decide))
    obtain ⟨g1, c1, rfl, hg1, ho1⟩ := hI.s11 (hall 2 (by decide))
    obtain ⟨g2, c2', rfl, hg2, ho2⟩ := hI.s14 (hall 5 (by decide))
    obtain ⟨rfl, rfl⟩ : x7 = .slice (some ⟨g1, 0, none⟩) zs.length c1 ∧ y7 = .int .i64 (M : Int) := by
      have e := h7 (hall 8 (by decide))
      simp at e
      exact ⟨e.1.symm, e.2.symm⟩
    obtain ⟨rfl, rfl⟩ : x8 = .slice (some ⟨g2, 0, none⟩) zs.length c2' ∧ y8 = .int .i64 (M : Int) := by
      have e := h8 (hall 9 (by decide))
      simp at e
      exact ⟨e.1.symm, e.2.symm⟩
    obtain rfl := hI.s9 (hall 0 (by decide))
    obtain rfl := hI.s10 (hall 1 (by decide))
    obtain rfl := hI.s12 (hall 3 (by decide))
    obtain rfl := hI.s13 (hall 4 (by decide))
    have H7 := Lib.hid ht7
    have H8 := Lib.hid ht8
    have HO1 := Lib.hid (own_insB ho1)
    have HO2 := Lib.hid (own_insB ho2)
    replace HT := Lib.hid hI.st
    replace HB := Lib.hid (HB.out.trans (hI.bl.mono HB.out.size))
    replace HS := Lib.hid ((HS.out.step (Below.refl _ w0)).ofB hI.bl)
    replace HS2 := Lib.hid (HS2.out.ofB hI.bl)
    clear hI hall ht7 ht8 ho1 ho2 h7 h8 HL
    simp only [nAct]
    refine NoPanic.normal ?_
    have t0 := HT.out.c0
    have t1 := HT.out.c1
    have p0 := H7.out.c0
    have p1 := H7.out.c1
    go_wp2_with fail
    refine (HQ1.out g1 c1 W HO1.out HS.out).mono ?_
    rintro e w3 ⟨rfl, hb3⟩
    replace HT := Lib.hid (HT.out.step hb3)
    replace H7 := Lib.hid (H7.out.step hb3)
    replace H8 := Lib.hid (H8.out.step hb3)
    replace HO1 := Lib.hid (HO1.out.step hb3)
    replace HO2 := Lib.hid (HO2.out.step hb3)
    replace HB := Lib.hid (below_trans HB.out hb3)
    replace HS := Lib.hid (HS.out.step hb3)
    replace HS2 := Lib.hid (HS2.out.step hb3)
    clear hb3 HQ1 t0 t1 p0 p1
    cases q1 with
    | true =>
      have E : Hid (snofL M zs k = -1) := Lib.hid (by rw [HV.out]; rfl)
      go_wp2
      go_ret
      exact ⟨by rw [E.out]; rfl, HB.out⟩
    | false =>
      have t0 := HT.out.c0
      have t1 := HT.out.c1
      have p0 := H8.out.c0
      have p1 := H8.out.c1
      go_wp2_with fail
      refine (HQ2.out g2 c2' w3 HO2.out HS.out).mono ?_
      rintro e w4 ⟨rfl, hb4⟩
      replace HT := Lib.hid (HT.out.step hb4)
      replace H7 := Lib.hid (H7.out.step hb4)
      replace H8 := Lib.hid (H8.out.step hb4)
      replace HO1 := Lib.hid (HO1.out.step hb4)
      replace HO2 := Lib.hid (HO2.out.step hb4)
      replace HB := Lib.hid (below_trans HB.out hb4)
      replace HS2 := Lib.hid (HS2.out.step hb4)
      clear hb4 HQ2 t0 t1 p0 p1 HS
      cases q2 with
      | true =>
        have E : Hid (snofL M zs k = -1) := Lib.hid (by rw [HV.out]; rfl)
        go_wp2
        go_ret
        exact ⟨by rw [E.out]; rfl, HB.out⟩
      | false =>
        obtain ⟨X, hX, hXl⟩ : ∃ X : Nat, X = max ny nn ∧ X ≤ 9 := ⟨_, rfl, by omega⟩
        have E : Hid (snofL M zs k = 1 + (X : Int)) := Lib.hid (by rw [HV.out, hX]; simp)
        have HM : Hid (∀ W, Calls Try.prog 86 #[.int .i64 (ny : Int), .int .i64 (nn : Int)] W fun e w' => e = .returned (.int .i64 (X : Int)) ∧ w' = W) := Lib.hid (fun W => by
          have h := l1Most_any (ny : Int) (nn : Int) W
          have e : (if (nn : Int) ≤ (ny : Int) then (ny : Int) else (nn : Int)) = (X : Int) := by split <;> omega
          rwa [e] at h)
        have hkyl : ky < (needsL M zs.length).length := by rw [HNL.out]; exact hky
        have hknl : kn < (needsL M zs.length).length := by rw [HNL.out]; exact hkn
        obtain ⟨b2, o2, hA2, _, hbb, hc2⟩ := HS2.out.ints.at_ (k := ky) hkyl
        subst hA2
        rw [HNy.out hkyl] at hc2
        obtain ⟨b2', o2', hA2', _, hbb', hc2b⟩ := HS2.out.ints.at_ (k := kn) hknl
        injection hA2' with hA2'
        injection hA2' with e1 e2
        subst e1 e2
        rw [HNn.out hknl] at hc2b
        have hbw := HS2.out.top
        have HCy : Hid (∀ W', Below w4.heap.size w4 W' → W'.cell? ⟨b2, o2 + ky, none⟩ = some (.int .i64 (ny : Int))) := Lib.hid (fun W' h => (World.cell?_of_block (h.block b2 (by omega))).trans hc2)
        have HCn : Hid (∀ W', Below w4.heap.size w4 W' → W'.cell? ⟨b2, o2 + kn, none⟩ = some (.int .i64 (nn : Int))) := Lib.hid (fun W' h => (World.cell?_of_block (h.block b2 (by omega))).trans hc2b)
        have hkyI : (ky : Int) < (((M + 2) ^ zs.length : Nat) : Int) := by omega
        have hknI : (kn : Int) < (((M + 2) ^ zs.length : Nat) : Int) := by omega
        clear hX HV HNy HNn hkyl hknl hc2 hc2b HNL hky hkn
        generalize (M + 2) ^ zs.length = top at hpw hkyI hknI ⊢
        go_wp2_with fail
        go_region_held3 (fun w' => w'.cell? ⟨b7, 0, none⟩ = some (.slice (some ⟨g1, 0, none⟩) zs.length c1) ∧ w'.cell? ⟨b7, 1, none⟩ = some (.int .i64 (M : Int)) ∧ w'.cell? ⟨b8, 0, none⟩ = some (.slice (some ⟨g2, 0, none⟩) zs.length c2') ∧ w'.cell? ⟨b8, 1, none⟩ = some (.int .i64 (M : Int)) ∧ w'.cell? ⟨b2, o2 + ky, none⟩ = some (.int .i64 (ny : Int)) ∧ w'.cell? ⟨b2, o2 + kn, none⟩ = some (.int .i64 (nn : Int)))
          (first
           | exact ⟨(H7.out.step (Below.refl _ w4).drew).c0, (H7.out.step (Below.refl _ w4).drew).c1, (H8.out.step (Below.refl _ w4).drew).c0, (H8.out.step (Below.refl _ w4).drew).c1, HCy.out _ (Below.refl _ w4).drew, HCn.out _ (Below.refl _ w4).drew⟩
           | exact ⟨(H7.out.step HZ1.out).c0, (H7.out.step HZ1.out).c1, (H8.out.step HZ1.out).c0, (H8.out.step HZ1.out).c1, HCy.out _ HZ1.out, HCn.out _ HZ1.out⟩
           | exact ⟨(H7.out.step HZ2.out).c0, (H7.out.step HZ2.out).c1, (H8.out.step HZ2.out).c0, (H8.out.step HZ2.out).c1, HCy.out _ HZ2.out, HCn.out _ HZ2.out⟩)
          (first
           | (go_at_call 86; refine (HM.out _).mono ?_; rintro e w9 ⟨rfl, hww⟩; subst hww)
           | (go_at_call 72; refine (HK2.out g2 c2' _ (HO2.out.step HZ1.out)).mono ?_; rintro e w6 ⟨rfl, hb⟩; have HZ2 := Lib.hid (below_trans HZ1.out hb); clear hb)
           | (go_at_call 72; refine (HK1.out g1 c1 _ (HO1.out.step (Below.refl _ w4).drew)).mono ?_; rintro e w5 ⟨rfl, hb⟩; have HZ1 := Lib.hid (below_trans (Below.refl _ w4).drew hb); clear hb))
        all_goals
          go_wp2
          go_ret
          exact ⟨by rw [E.out, IntWalk.i64_in (1 + (X : Int)) (by omega)]; rfl, below_trans HB.out HZ2.out⟩
set_option maxRecDepth 100000 in
set_option maxHeartbeats 8000000 in
theorem l6Best_any (A : Option Addr) (c lo hi : Nat) (zs : List Int) (M : Nat) (A2 : Option Addr) (c2 lo2 hi2 : Nat) (w : World) (hS : Ins w lo hi A zs) (hS2 : Ins w lo2 hi2 A2 (needsL M zs.length)) (hs : Short M zs) (hd : doneL zs = false) :
    Calls Try.prog 48 #[.agg #[.slice A zs.length c, .int .i64 (M : Int)], .slice A2 ((M + 2) ^ zs.length) c2] w fun e w' => e = .returned (.int .i64 ((planS M zs).2 : Int)) ∧ Below w.heap.size w w' := by
  have hl5 := hs.len
  have hpw := pow_top hs.m hs.pos hs.len
  obtain ⟨hb1, hb2⟩ := best6_first hs hd
  have hbd : 1 ≤ (planS M zs).2 ∧ (planS M zs).2 ≤ 5 := by
    have := span_bd hs
    rcases done_iff hs with ⟨h, _⟩ | ⟨_, _, _, h1, h2⟩
    · rw [hd] at h; cases h
    · omega
  have HB1 := Lib.hid hb1
  have HB2 := Lib.hid hb2
  have HX := Lib.hid (Arg.next (Below.refl w.heap.size w) (.slice A zs.length c) (.int .i64 (M : Int)) 44 w.heap.size rfl)
  have HS := Lib.hid (hS.step HX.out.below)
  have HS2 := Lib.hid (hS2.step HX.out.below)
  have HN := Lib.hid (fun k W h h2 (hk : k ≤ 12) => l6NeedOf_any A c lo hi zs M k A2 c2 lo2 hi2 W h h2 hs hk)
  have HK := Lib.hid (fun W h => l6Key_any A c lo hi zs M W h hs)
  have hky := keyTo_lt hs.fit
  have HNy := Lib.hid (fun h => needsL_at hs h)
  have HNL := Lib.hid (needsL_len M zs.length)
  clear hS hS2 hs hd hb1 hb2
  generalize (planS M zs).2 = best at hbd HB1 HB2 ⊢
  generalize keyS M zs = ky at HK hky HNy
  generalize needL M zs = ny at HNy HB1 HB2
  have hkyl : ky < (needsL M zs.length).length := by rw [HNL.out]; exact hky
  have hkyI : (ky : Int) < (((M + 2) ^ zs.length : Nat) : Int) := by omega
  have HTp : Hid ((M + 2) ^ zs.length = (M + 2) ^ zs.length) := Lib.hid rfl
  generalize (M + 2) ^ zs.length = top at hpw hkyI HN hky HTp ⊢
  clear hky HTp HNL
  go_enter Try.func48, Try.ntmps48
  go_wp2_with fail
  generalize w.alloc (.cells #[.slice A zs.length c, .int .i64 (M : Int)] 44) = w0 at HX HS HS2 ⊢
  go_loopw [5] (fun i wr => ∃ (j : Nat), j + 1 ≤ best ∧ i = .int .i64 ((j : Int) + 1) ∧ Hid (Below w0.heap.size w0 wr)) (fun i _ => best - (intOf i).toNat)
  case atStart => exact ⟨0, by omega, rfl, Lib.hid (Below.refl _ _)⟩
  case round =>
    obtain ⟨j, hj, rfl, HB⟩ := hrel
    rename World => w1
    replace HX := Lib.hid (HX.out.step HB.out)
    replace HS := Lib.hid (HS.out.step HB.out)
    have HS3 := Lib.hid (HS2.out.step HB.out)
    obtain ⟨b2, o2, hA2, _, hbb, hc2⟩ := HS3.out.ints.at_ (k := ky) hkyl
    subst hA2
    rw [HNy.out hkyl] at hc2
    have hbw := HS3.out.top
    have HCy : Hid (∀ W', Below w1.heap.size w1 W' → W'.cell? ⟨b2, o2 + ky, none⟩ = some (.int .i64 (ny : Int))) := Lib.hid (fun W' h => (World.cell?_of_block (h.block b2 (by omega))).trans hc2)
    have HNk := Lib.hid (fun W h h2 => HN.out (j + 1) W h h2 (by omega))
    rw [show (((j + 1 : Nat) : Nat) : Int) = (j : Int) + 1 from by simp] at HNk
    have HEq : Hid (snofL M zs (j + 1) = (ny : Int) → j + 1 = best) := Lib.hid (fun h => by
      rcases Nat.lt_or_ge (j + 1) best with h1 | h1
      · exact absurd h (HB2.out (j + 1) (by omega) h1)
      · omega)
    have HNe : Hid (¬ snofL M zs (j + 1) = (ny : Int) → j + 1 < best) := Lib.hid (fun h => by
      rcases Nat.lt_or_ge (j + 1) best with h1 | h1
      · exact h1
      · exact absurd (by rw [show j + 1 = best by omega]; exact HB1.out) h)
    generalize snofL M zs (j + 1) = sv at HNk HEq HNe
    clear hc2 HN
    by_cases hsv : sv = (ny : Int)
    · have he := HEq.out hsv
      clear HEq HNe
      have hne : (sv != (ny : Int)) = false := by simp [hsv]
      subst hsv
      go_wp2_with fail
      go_region_held3 (fun w' => w'.cell? ⟨w.heap.size, 0, none⟩ = some (.slice A zs.length c) ∧ w'.cell? ⟨w.heap.size, 1, none⟩ = some (.int .i64 (M : Int)) ∧ w'.cell? ⟨b2, o2 + ky, none⟩ = some (.int .i64 (ny : Int)))
        (first
         | exact ⟨(HX.out.step (Below.refl _ w1).drew).c0, (HX.out.step (Below.refl _ w1).drew).c1, HCy.out _ (Below.refl _ w1).drew⟩
         | exact ⟨(HX.out.step HZ1.out).c0, (HX.out.step HZ1.out).c1, HCy.out _ HZ1.out⟩
         | exact ⟨(HX.out.step HZ2.out).c0, (HX.out.step HZ2.out).c1, HCy.out _ HZ2.out⟩)
        (first
         | (go_at_call 72; refine (HK.out _ (HS.out.step HZ1.out)).mono ?_; rintro e w6 ⟨rfl, hb⟩; have HZ2 := Lib.hid (below_trans HZ1.out hb); clear hb)
         | (go_at_call 74; refine (HNk.out _ (HS.out.step (Below.refl _ w1).drew) (HS3.out.step (Below.refl _ w1).drew)).mono ?_; rintro e w5 ⟨rfl, hb⟩; have HZ1 := Lib.hid (below_trans (Below.refl _ w1).drew hb); clear hb))
      all_goals
        go_wp2
        go_ret
        exact ⟨by rw [← he]; rfl, below_trans HX.out.below HZ2.out⟩
    · have hlt := HNe.out hsv
      clear HEq HNe
      have hne : (sv != (ny : Int)) = true := by simp [hsv]
      go_wp2_with fail
      go_region_held3 (fun w' => w'.cell? ⟨w.heap.size, 0, none⟩ = some (.slice A zs.length c) ∧ w'.cell? ⟨w.heap.size, 1, none⟩ = some (.int .i64 (M : Int)) ∧ w'.cell? ⟨b2, o2 + ky, none⟩ = some (.int .i64 (ny : Int)))
        (first
         | exact ⟨(HX.out.step (Below.refl _ w1).drew).c0, (HX.out.step (Below.refl _ w1).drew).c1, HCy.out _ (Below.refl _ w1).drew⟩
         | exact ⟨(HX.out.step HZ1.out).c0, (HX.out.step HZ1.out).c1, HCy.out _ HZ1.out⟩
         | exact ⟨(HX.out.step HZ2.out).c0, (HX.out.step HZ2.out).c1, HCy.out _ HZ2.out⟩)
        (first
         | (go_at_call 72; refine (HK.out _ (HS.out.step HZ1.out)).mono ?_; rintro e w6 ⟨rfl, hb⟩; have HZ2 := Lib.hid (below_trans HZ1.out hb); clear hb)
         | (go_at_call 74; refine (HNk.out _ (HS.out.step (Below.refl _ w1).drew) (HS3.out.step (Below.refl _ w1).drew)).mono ?_; rintro e w5 ⟨rfl, hb⟩; have HZ1 := Lib.hid (below_trans (Below.refl _ w1).drew hb); clear hb))
      all_goals
        go_wp2
        go_roundw
        case rel => exact ⟨j + 1, by omega, by simp, Lib.hid (below_trans HB.out HZ2.out)⟩
        case measure => simp [intOf]; omega
end Go.Proofs.Ytnomgnjfamideab
