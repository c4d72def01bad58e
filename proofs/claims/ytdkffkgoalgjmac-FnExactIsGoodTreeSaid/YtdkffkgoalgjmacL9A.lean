/- Trees of questions: leaves, and branches that are read. -/
import Derived.Test.YtdkffkgoalgjmacL9T
import Derived.Deep.RegionHeld3
namespace Go.Proofs.Ytdkffkgoalgjmac
open Go.RowKit Go.ChangeShapes Go.WideShapes
set_option linter.unusedVariables false

theorem leafNode_any (w : World) :
    Calls Try.prog 157 #[] w fun e w' => e = .returned (.agg #[.int .i64 (-1), .int .i64 (-1), .int .i64 (-1)]) ∧ Below w.heap.size w w' := by
  go_enter Try.func157, Try.ntmps157
  go_wp2
  refine bodyPost_ret (v := .agg #[.int .i64 (-1), .int .i64 (-1), .int .i64 (-1)]) (by simp [results, go_sem]) rfl ?_
  exact ⟨rfl, (Below.refl _ _).alloc (Nat.le_refl _) _⟩
theorem l9Leaf_any (w : World) :
    Calls Try.prog 153 #[] w fun e w' => e = .returned (.agg #[.int .i64 (-1), .int .i64 (-1), .int .i64 (-1)]) ∧ Below w.heap.size w w' := by
  go_enter Try.func153, Try.ntmps153
  go_wp2
  refine bodyPost_ret (v := .agg #[.int .i64 (-1), .int .i64 (-1), .int .i64 (-1)]) (by simp [results, go_sem]) rfl ?_
  exact ⟨rfl, (Below.refl _ _).alloc (Nat.le_refl _) _⟩
/-- Whether two nodes are the same. -/
def ndB (x y : Int × Int × Int) : Bool := decide (x = y)
theorem ndB_eq (a b c d e f : Int) : (decide (a = d) && (decide (b = e) && decide (c = f))) = ndB (a, b, c) (d, e, f) := by
  unfold ndB
  rw [Bool.eq_iff_iff]
  simp only [Bool.and_eq_true, decide_eq_true_eq, Prod.mk.injEq]
set_option maxHeartbeats 2000000 in
theorem eq_node (a b c d e f : Int) (w : World) : (Op.equalIn 10000 125 (.agg #[.int .i64 a, .int .i64 b, .int .i64 c]) (.agg #[.int .i64 d, .int .i64 e, .int .i64 f])).run Try.prog w = .ok (ndB (a, b, c) (d, e, f)) w := by
  rw [← ndB_eq]
  have u3 := Try.underlying3
  have a3 := Try.isAgg3
  have z3 := Try.sizeOf3
  have hS : Try.prog.underlying 125 = some (.struct (Try.prog.fieldsOf 125)) := by kernel_rfl
  have hp : Try.prog.stoodInHeld 125 = false := by kernel_rfl
  rw [show (10000 : Nat) = 9999 + 1 from rfl, run_equalIn_agg w 9999 125 _ _ hS hp]
  simp only [Program.fieldsOf, Try.underlying125]
  go_simp
  by_cases h1 : a = d <;> by_cases h2 : b = e <;> by_cases h3 : c = f <;> simp [h1, h2, h3]
theorem ndB_t {x y : Int × Int × Int} (h : x = y) : ndB x y = true := by simp [ndB, h]
theorem ndB_f {x y : Int × Int × Int} (h : x ≠ y) : ndB x y = false := by simp [ndB, h]

set_option maxHeartbeats 4000000 in
theorem isLeaf_any (a b c : Int) (r : Bool) (w : World) (hr : ndB (a, b, c) lf9 = r) :
    Calls Try.prog 126 #[.agg #[.int .i64 a, .int .i64 b, .int .i64 c]] w fun e w' => e = .returned (.bool r) ∧ Below w.heap.size w w' := by
  have HT := Lib.hid (Three.new w (.int .i64 a) (.int .i64 b) (.int .i64 c) 125 w.heap.size rfl)
  have HB := Lib.hid ((Below.refl w.heap.size w).alloc (Nat.le_refl _) (.cells #[.int .i64 a, .int .i64 b, .int .i64 c] 125))
  have HL := Lib.hid (fun W => leafNode_any W)
  have heq : ∀ w, (Op.equalIn 10000 125 (.agg #[.int .i64 a, .int .i64 b, .int .i64 c]) (.agg #[.int .i64 (-1), .int .i64 (-1), .int .i64 (-1)])).run Try.prog w = .ok r w := fun w => by rw [← hr]; exact eq_node a b c (-1) (-1) (-1) w
  clear hr
  go_enter Try.func126, Try.ntmps126
  go_wp2_with fail
  generalize w.alloc (.cells #[.int .i64 a, .int .i64 b, .int .i64 c] 125) = w0 at HT HB ⊢
  go_region_held3 (fun w' => w'.cell? ⟨w.heap.size, 0, none⟩ = some (.int .i64 a) ∧ w'.cell? ⟨w.heap.size, 1, none⟩ = some (.int .i64 b) ∧ w'.cell? ⟨w.heap.size, 2, none⟩ = some (.int .i64 c))
    (first
     | exact ⟨(HT.out.step (Below.refl _ w0).drew).c0, (HT.out.step (Below.refl _ w0).drew).c1, (HT.out.step (Below.refl _ w0).drew).c2⟩
     | exact ⟨HT_1.out.c0, HT_1.out.c1, HT_1.out.c2⟩)
    (first
     | (go_at_call 157; (with_reducible refine (HL.out w0.drew).mono ?_); rintro e v1 ⟨rfl, hb⟩; have HZ1 := Lib.hid (below_trans (Below.refl _ w0).drew hb); have HT_1 := Lib.hid (HT.out.step HZ1.out); have HB_1 := Lib.hid (below_trans HB.out HZ1.out); clear hb))
  all_goals
    go_wp2
    go_ret
    exact ⟨rfl, HB_1.out⟩
set_option maxHeartbeats 1000000 in
theorem behind9_yes (a b c : Int) (w : World) :
    Calls Try.prog 127 #[.agg #[.int .i64 a, .int .i64 b, .int .i64 c], .bool true] w fun e w' => e = .returned (.int .i64 b) ∧ Below w.heap.size w w' := by
  go_enter Try.func127, Try.ntmps127
  go_wp2
  go_ret
  exact ⟨rfl, (Below.refl _ _).alloc (Nat.le_refl _) _⟩
set_option maxHeartbeats 1000000 in
theorem behind9_no (a b c : Int) (w : World) :
    Calls Try.prog 127 #[.agg #[.int .i64 a, .int .i64 b, .int .i64 c], .bool false] w fun e w' => e = .returned (.int .i64 c) ∧ Below w.heap.size w w' := by
  go_enter Try.func127, Try.ntmps127
  go_wp2
  go_ret
  exact ⟨rfl, (Below.refl _ _).alloc (Nat.le_refl _) _⟩

/-- A pointer to what stands for a tree, in blocks below hi. -/
def Br (w : World) (hi : Nat) : T9 → Option Addr → Prop
  | .leaf, v => v = none
  | .br q y m, v => ∃ b vy vm, v = some ⟨b, 0, none⟩ ∧ b < hi ∧ w.cell? ⟨b, 0, none⟩ = some (.int .i64 q) ∧ w.cell? ⟨b, 1, none⟩ = some (.pointer vy) ∧ w.cell? ⟨b, 2, none⟩ = some (.pointer vm) ∧ Br w hi y vy ∧ Br w hi m vm
theorem Br.past {w w' : World} {hi B : Nat} (hp : Past B w w') (h1 : hi ≤ B) (h2 : hi ≤ w.heap.size) : ∀ {t : T9} {v : Option Addr}, Br w hi t v → Br w' hi t v
  | .leaf, v, h => h
  | .br q y m, v, h => by
    obtain ⟨b, vy, vm, e, hb, c0, c1, c2, hy, hm⟩ := h
    have hbb := hp.block b (by omega) (by omega)
    exact ⟨b, vy, vm, e, hb, (World.cell?_of_block hbb).trans c0, (World.cell?_of_block hbb).trans c1, (World.cell?_of_block hbb).trans c2, hy.past hp h1 h2, hm.past hp h1 h2⟩
theorem Br.step {w w' : World} {hi : Nat} {t : T9} {v : Option Addr} (h : Br w hi t v) (hb : Below w.heap.size w w') (h2 : hi ≤ w.heap.size) : Br w' hi t v :=
  h.past (B := w.heap.size) (Past.of_below hb) h2 h2
theorem Br.wide {w : World} {hi hi' : Nat} (h1 : hi ≤ hi') : ∀ {t : T9} {v : Option Addr}, Br w hi t v → Br w hi' t v
  | .leaf, v, h => h
  | .br q y m, v, h => by
    obtain ⟨b, vy, vm, e, hb, c0, c1, c2, hy, hm⟩ := h
    exact ⟨b, vy, vm, e, by omega, c0, c1, c2, hy.wide h1, hm.wide h1⟩
/-- A pointer to what stands for a tree, in blocks that are there. -/
structure BrI (w : World) (hi : Nat) (t : T9) (v : Option Addr) : Prop where
  br : Br w hi t v
  top : hi ≤ w.heap.size
theorem BrI.step {w w' : World} {hi : Nat} {t : T9} {v : Option Addr} (h : BrI w hi t v) (hb : Below w.heap.size w w') : BrI w' hi t v := ⟨h.br.step hb h.top, Nat.le_trans h.top hb.size⟩
theorem BrI.past {w w' : World} {hi B : Nat} {t : T9} {v : Option Addr} (h : BrI w hi t v) (hp : Past B w w') (h1 : hi ≤ B) : BrI w' hi t v := ⟨h.br.past hp h1 h.top, Nat.le_trans h.top hp.size⟩
theorem BrI.joined {w : World} {q : Int} {y m : T9} {vy vm : Option Addr} {hy hm b : Nat} (h1 : BrI w hy y vy) (h2 : BrI w hm m vm) (h3 : Three w b (.int .i64 q) (.pointer vy) (.pointer vm) 166) : BrI w w.heap.size (.br q y m) (some ⟨b, 0, none⟩) :=
  ⟨⟨b, vy, vm, rfl, h3.lt, h3.c0, h3.c1, h3.c2, h1.br.wide h1.top, h2.br.wide h2.top⟩, Nat.le_refl _⟩

set_option maxRecDepth 100000 in
set_option maxHeartbeats 8000000 in
theorem branchAt_any (n : Int) (A : Option Addr) (c lo hi : Nat) (ns : List (Int × Int × Int)) (hn : ns.length ≤ 1048576) : ∀ (k : Nat) (place : Int) (w : World), k ≤ 6 → NIns w lo hi A ns →
    Calls Try.prog 168 #[.int .i64 n, .slice A ns.length c, .int .i64 place, .int .i64 (k : Int)] w fun e w' => ∃ v, e = .returned (.pointer v) ∧ BrI w' w'.heap.size (read9 n ns k place) v ∧ Below w.heap.size w w'
  | 0, place, w, hk, hS => by
    clear hS
    go_enter Try.func168, Try.ntmps168
    go_wp2
    go_ret
    exact ⟨_, rfl, ⟨rfl, Nat.le_refl _⟩, Below.refl _ _⟩
  | k + 1, place, w, hk, hS => by
    have IH := Lib.hid (fun p W h => branchAt_any n A c lo hi ns hn k p W (by omega) h)
    obtain ⟨L, hL⟩ : ∃ L : Int, L = ((k + 1 : Nat) : Int) := ⟨_, rfl⟩
    have hL1 : 1 ≤ L := by omega
    have hL6 : L ≤ 6 := by omega
    have hL0 : ¬ L = 0 := by omega
    have hLb : (L == 0) = false := by simpa using hL0
    have HLk := Lib.hid (show L - 1 = (k : Int) by omega)
    rw [← hL]
    clear hL
    by_cases h0 : 0 ≤ place
    · by_cases h1 : place < (ns.length : Int)
      · obtain ⟨p, rfl⟩ : ∃ p : Nat, place = (p : Int) := ⟨place.toNat, by omega⟩
        have hp : p < ns.length := by omega
        have hnp : ¬ ns.length ≤ p := by omega
        obtain ⟨b, o, rfl, _, hbl, hc0, hc1, hc2⟩ := hS.nds.at_ hp
        have HQ := Lib.hid (fun W => isQuestion_any n ns[p].1 W)
        have hg : ns.getD p lf9 = ns[p] := by simp [List.getD, hp]
        cases hq : qOK n ns[p].1 with
        | false =>
          rw [hq] at HQ
          have HE : Hid (read9 n ns (k + 1) (p : Int) = .leaf) := Lib.hid (read9_leaf (fun h => by
            have h2 := h.2.2
            rw [Int.toNat_natCast, hg, hq] at h2
            cases h2))
          clear hg hq hS
          generalize ns[p] = x at hc0 hc1 hc2 HQ
          go_enter Try.func168, Try.ntmps168
          go_wp2_with (go_at_call 134; (with_reducible refine (HQ.out _).mono ?_); rintro e wX ⟨rfl, hw⟩; have hw := hw.symm; subst hw)
          go_ret
          rw [HE.out]
          exact ⟨_, rfl, ⟨rfl, Nat.le_refl _⟩, Below.refl _ _⟩
        | true =>
          rw [hq] at HQ
          have HE : Hid (read9 n ns (k + 1) (p : Int) = .br ns[p].1 (read9 n ns k ns[p].2.1) (read9 n ns k ns[p].2.2)) := Lib.hid (by
            conv => lhs; unfold read9
            rw [Int.toNat_natCast, hg, if_pos ⟨by omega, by omega, hq⟩])
          have HS := Lib.hid hS
          clear hg hq hS
          generalize ns[p] = x at hc0 hc1 hc2 HQ HE
          have HT := Lib.hid (Three.new w (.int .i64 x.1) (.int .i64 x.2.1) (.int .i64 x.2.2) 125 w.heap.size rfl)
          have HB := Lib.hid ((Below.refl w.heap.size w).alloc (Nat.le_refl _) (.cells #[.int .i64 x.1, .int .i64 x.2.1, .int .i64 x.2.2] 125))
          have HI := Lib.hid (HS.out.step HB.out)
          clear HS
          go_enter Try.func168, Try.ntmps168
          go_wp2_with (go_at_call 134; (with_reducible refine (HQ.out _).mono ?_); rintro e wX ⟨rfl, hw⟩; have hw := hw.symm; subst hw)
          generalize w.alloc (.cells #[.int .i64 x.1, .int .i64 x.2.1, .int .i64 x.2.2] 125) = w0 at HT HB HI ⊢
          clear hc0 hc1 hc2 HQ
          have hwr : IntKind.i64.wrap (L - 1) = (k : Int) := by rw [HLk.out]; exact IntWalk.i64_in _ (by omega)
          go_region_held3 (fun w' => w'.cell? ⟨w.heap.size, 0, none⟩ = some (.int .i64 x.1) ∧ w'.cell? ⟨w.heap.size, 1, none⟩ = some (.int .i64 x.2.1) ∧ w'.cell? ⟨w.heap.size, 2, none⟩ = some (.int .i64 x.2.2))
            (first
             | exact ⟨(HT.out.step (Below.refl _ w0).drew).c0, (HT.out.step (Below.refl _ w0).drew).c1, (HT.out.step (Below.refl _ w0).drew).c2⟩
             | exact ⟨(HT_2.out.step ((Below.refl _ v2).alloc (Nat.le_refl _) _)).c0, (HT_2.out.step ((Below.refl _ v2).alloc (Nat.le_refl _) _)).c1, (HT_2.out.step ((Below.refl _ v2).alloc (Nat.le_refl _) _)).c2⟩
             | exact ⟨HT_2.out.c0, HT_2.out.c1, HT_2.out.c2⟩
             | exact ⟨HT_1.out.c0, HT_1.out.c1, HT_1.out.c2⟩)
            (first
             | (go_at_call 168; (with_reducible refine (IH.out x.2.2 _ HI_1.out).mono ?_); rintro e v2 ⟨vm, rfl, hm, hb⟩; have HZ2 := Lib.hid (below_trans HZ1.out hb); have HT_2 := Lib.hid (HT.out.step HZ2.out); have HB_2 := Lib.hid (below_trans HB.out HZ2.out); have HY_2 := Lib.hid (HY_1.out.step hb); have HM_2 := Lib.hid hm; clear hb hm)
             | (go_at_call 168; (with_reducible refine (IH.out x.2.1 w0.drew (HI.out.step (Below.refl _ w0).drew)).mono ?_); rintro e v1 ⟨vy, rfl, hy, hb⟩; have HZ1 := Lib.hid (below_trans (Below.refl _ w0).drew hb); have HT_1 := Lib.hid (HT.out.step HZ1.out); have HI_1 := Lib.hid (HI.out.step HZ1.out); have HY_1 := Lib.hid hy; clear hb hy))
          all_goals
            go_wp2
            go_ret
            have hbz := (Below.refl v2.heap.size v2).alloc (Nat.le_refl _) (.cells #[.int .i64 x.1, .pointer vy, .pointer vm] 166)
            refine ⟨_, rfl, ?_, below_trans HB_2.out hbz⟩
            rw [HE.out]
            exact (HY_2.out.step hbz).joined (HM_2.out.step hbz) (Three.new v2 (.int .i64 x.1) (.pointer vy) (.pointer vm) 166 v2.heap.size rfl)
      · have HE : Hid (read9 n ns (k + 1) place = .leaf) := Lib.hid (read9_leaf (fun h => h1 h.2.1))
        clear hS
        have h2 : (ns.length : Int) ≤ place := by omega
        go_enter Try.func168, Try.ntmps168
        go_wp2
        go_ret
        rw [HE.out]
        exact ⟨_, rfl, ⟨rfl, Nat.le_refl _⟩, Below.refl _ _⟩
    · have HE : Hid (read9 n ns (k + 1) place = .leaf) := Lib.hid (read9_leaf (fun h => h0 h.1))
      clear hS
      have h2 : place < 0 := by omega
      go_enter Try.func168, Try.ntmps168
      go_wp2
      go_ret
      rw [HE.out]
      exact ⟨_, rfl, ⟨rfl, Nat.le_refl _⟩, Below.refl _ _⟩
end Go.Proofs.Ytdkffkgoalgjmac
