/- LessPlay: of the specification, where the State is taken. -/
import Derived.Test.YtnomgnjfamideabL6s
import Derived.Test.YtnomgnjfamideabL6x
import Derived.Deep.LoopGhost
namespace Go.Proofs.Ytnomgnjfamideab
open Go.RowKit Go.ChangeShapes Go.WideShapes Go.Maps
set_option linter.unusedVariables false

theorem SI.grownQ {n k : Nat} {wr w' : World} {A : Option Addr} {lo hi : Nat} {L : List Int} {v : Value} {xs : List Value} {o : Obj} (h : SI n wr A lo hi L) (hr : wr.ownsRow (n + 1) 72 2 v k xs) (hg : (wr.alloc o).grownBy w' v.ownBlock) : SI n w' A lo hi L := by
  rcases h with h | ⟨g, rfl, rfl, rfl, h⟩
  · exact .inl ⟨h.1.past (pastGrownA hr hg) (by omega), h.2⟩
  · exact .inr ⟨_, rfl, rfl, rfl, grown_ownA hr h (by decide) hg⟩
structure WP (w : World) (n gn : Nat) (M : Nat) (x lie : Int) (zs : List Int) (i : Nat) (A : Option Addr) (c lo hi : Nat) (v : Value) (wr : World) : Prop where
  bx : Two wr n (.slice A zs.length c) (.int .i64 (M : Int)) 44
  si : SI n wr A lo hi (pSt M x lie zs i)
  nd : Own wr gn (gn + 1) (some ⟨gn, 0, none⟩) (needsL M zs.length)
  row : wr.ownsRow (n + 1) 72 2 v (pL M x lie zs i).length (cellsA (pL M x lie zs i))
  bl : Below w.heap.size w wr
set_option maxRecDepth 100000 in
set_option maxHeartbeats 16000000 in
theorem lessPlay_smain0 (x lie : Int) (A : Option Addr) (c lo hi : Nat) (zs : List Int) (M : Nat) (w : World) (hS : Ins w lo hi A zs) (hs : Short M zs) (j : Nat) (hj : x = (j : Int)) (hjl : j < zs.length) (z : Int) (hz : zs[j] = z) (hz0 : ¬ z < 0) (hlo : ¬ lie < -1) (hl0 : ¬ 0 ≤ lie) (hend : lie < ((pL M x lie zs 10).length : Int)) :
    Calls Try.prog 19 #[.agg #[.slice A zs.length c, .int .i64 (M : Int)], .int .i64 x, .int .i64 lie] w fun e w' => ∃ v, e = .returned (.tuple #[v, .bool true]) ∧ w'.ownsRow w.heap.size 72 2 v (pL M x lie zs 10).length (cellsA (pL M x lie zs 10)) ∧ Below w.heap.size w w' := by
  obtain ⟨i0, hi0, hz00, hz1, hz2⟩ := info_parts infoA
  have hhi := hS.top
  obtain ⟨bz, oz, hA, _, hbz, hcz⟩ := hS.ints.at_ hjl
  subst hA
  rw [hz] at hcz
  have HX1 := Lib.hid (Arg.next (Below.refl w.heap.size w) (.slice (some ⟨bz, oz, none⟩) zs.length c) (.int .i64 (M : Int)) 44 w.heap.size rfl)
  have HT1 := Lib.hid (Two.new w (.slice (some ⟨bz, oz, none⟩) zs.length c) (.int .i64 (M : Int)) 44 w.heap.size rfl)
  have hba := (Below.refl _ (w.alloc (.cells #[.slice (some ⟨bz, oz, none⟩) zs.length c, .int .i64 (M : Int)] 44))).alloc (Nat.le_refl _) (.cells #[] 72)
  have HRw := Lib.hid (A0_any (w.alloc (.cells #[.slice (some ⟨bz, oz, none⟩) zs.length c, .int .i64 (M : Int)] 44)) (w.heap.size + 1) (by simp))
  have hsm : (w.alloc (.cells #[.slice (some ⟨bz, oz, none⟩) zs.length c, .int .i64 (M : Int)] 44)).heap.size = w.heap.size + 1 := by simp
  rw [hsm] at HRw
  have HX := Lib.hid (HX1.out.step hba)
  have HTw := Lib.hid (HT1.out.step hba)
  have HI := Lib.hid (hS.step HX.out.below)
  have HH := Lib.hid (fun W h => l6Short_any (some ⟨bz, oz, none⟩) c lo hi zs (M : Int) W h (by have := hs.len; omega))
  rw [shortB_iff.2 ⟨M, rfl, hs⟩] at HH
  have HND := Lib.hid (fun W => l6Needs_any zs.length M W hs.m hs.pos hs.len)
  have HSH := Lib.hid hs
  have hl5 := hs.len
  have hl1 := hs.pos
  have hmm := hs.m
  have W1 : IntKind.i64.wrap ((zs.length : Int) - 1) = (zs.length : Int) - 1 := IntWalk.i64_in _ (by omega)
  subst hj
  have HIN := Lib.hid (fun W => l1In_any (j : Int) 0 ((zs.length : Int) - 1) W)
  rw [show inB (j : Int) 0 ((zs.length : Int) - 1) = true from inB_iff.2 ⟨by omega, by omega⟩] at HIN
  generalize hP : pL M (j : Int) lie zs 10 = P at hend ⊢
  have HP := Lib.hid hP
  have HEND := Lib.hid hend
  clear hP
  have HC : Hid (∀ W', Below ((w.alloc (.cells #[.slice (some ⟨bz, oz, none⟩) zs.length c, .int .i64 (M : Int)] 44)).alloc (.cells #[] 72)).heap.size ((w.alloc (.cells #[.slice (some ⟨bz, oz, none⟩) zs.length c, .int .i64 (M : Int)] 44)).alloc (.cells #[] 72)) W' → W'.cell? ⟨bz, oz + j, none⟩ = some (.int .i64 z)) := Lib.hid (fun W' h => (World.cell?_of_block ((below_trans HX.out.below h).block bz (Nat.lt_of_lt_of_le hbz hhi))).trans hcz)
  have HM10 := mass_ten hs
  clear hcz hbz hz hS hba HX1 HT1 hs hend hsm
  have hj0 : (0 : Int) ≤ (j : Int) := by omega
  have hjn : (j : Int) < (zs.length : Int) := by omega
  have hzd := decide_eq_false hz0
  have hld := decide_eq_false hlo
  have hl0d := decide_eq_false hl0
  go_enter Try.func19, Try.ntmps19
  go_wp2_with fail
  generalize (w.alloc (.cells #[.slice (some ⟨bz, oz, none⟩) zs.length c, .int .i64 (M : Int)] 44)).alloc (.cells #[] 72) = w0 at HX HTw HI HRw HC ⊢
  refine wp_region_held_drew (S := fun w' => w'.cell? ⟨w.heap.size, 0, none⟩ = some (.slice (some ⟨bz, oz, none⟩) zs.length c) ∧ w'.cell? ⟨w.heap.size, 1, none⟩ = some (.int .i64 (M : Int)) ∧ w'.cell? ⟨bz, oz + j, none⟩ = some (.int .i64 z)) (by kernel_rfl) ?_ (fun hHeld => ?_)
  · (try dsimp only); exact ⟨(HX.out.step ((Below.refl _ w0).drew)).c0, (HX.out.step ((Below.refl _ w0).drew)).c1, HC.out _ ((Below.refl _ w0).drew)⟩
  refine wpAnyH_take (i := 0) (v := ?v0) rfl (by kernel_rfl) (by kernel_rfl) (by kernel_rfl) (fun _ _ _ h => h) (Or.inl ⟨by rfl, ?y0⟩) (by assumption) ?r0
  case y0 => (intro w hSw; (try dsimp only at hSw); go_simp; try with_reducible rfl)
  change wpAnyH _ _ _ _ _ _ _ (Act.put _ (some 13) _) _
  simp only [Act.put, List.setIfInBounds_toArray, List.set_cons_zero, List.set_cons_succ]
  refine wpAnyH_ready (rs := [1]) (by kernel_rfl) (by simp) ?_
  refine AllReadyH.cons rfl (fun K hK => ?_) AllReadyH.nil
  go_simp
  (go_at_call 44; refine (HH.out _ (HI.out.step (Below.refl _ w0).drew)).mono ?_; rintro e v1 ⟨rfl, hb⟩; have HZ1 := Lib.hid (below_trans (Below.refl _ w0).drew hb); clear hb)
  skip
  refine hK.out _ _ ?_ (fun hHeld => ?_)
  · (try dsimp only); exact ⟨(HX.out.step (HZ1.out)).c0, (HX.out.step (HZ1.out)).c1, HC.out _ (HZ1.out)⟩
  clear hK K
  try change wpAnyH _ _ _ _ _ _ _ (Act.put _ (some 14) _) _
  try simp only [Act.put, List.setIfInBounds_toArray, List.set_cons_zero, List.set_cons_succ]
  refine wpAnyH_take (i := 2) (v := ?v2) rfl (by kernel_rfl) (by kernel_rfl) (by kernel_rfl) (fun _ _ _ h => h) (Or.inl ⟨by rfl, ?y2⟩) (by assumption) ?r2
  case y2 => (intro w hSw; (try dsimp only at hSw); go_simp; try with_reducible rfl)
  change wpAnyH _ _ _ _ _ _ _ (Act.put _ (some 15) _) _
  simp only [Act.put, List.setIfInBounds_toArray, List.set_cons_zero, List.set_cons_succ]
  refine wpAnyH_take (i := 3) (v := ?v3) rfl (by kernel_rfl) (by kernel_rfl) (by kernel_rfl) (fun _ _ _ h => h) (Or.inl ⟨by rfl, ?y3⟩) (by assumption) ?r3
  case y3 => (intro w hSw; (try dsimp only at hSw); go_simp; try with_reducible rfl)
  change wpAnyH _ _ _ _ _ _ _ (Act.put _ (some 16) _) _
  simp only [Act.put, List.setIfInBounds_toArray, List.set_cons_zero, List.set_cons_succ]
  refine wpAnyH_take (i := 4) (v := ?v4) rfl (by kernel_rfl) (by kernel_rfl) (by kernel_rfl) (fun _ _ _ h => h) (Or.inl ⟨by rfl, ?y4⟩) (by assumption) ?r4
  case y4 => (intro w hSw; (try dsimp only at hSw); go_simp; try with_reducible rfl)
  change wpAnyH _ _ _ _ _ _ _ (Act.put _ (some 17) _) _
  simp only [Act.put, List.setIfInBounds_toArray, List.set_cons_zero, List.set_cons_succ]
  refine wpAnyH_take (i := 5) (v := ?v5) rfl (by kernel_rfl) (by kernel_rfl) (by kernel_rfl) (fun _ _ _ h => h) (Or.inl ⟨by rfl, ?y5⟩) (by assumption) ?r5
  case y5 => (intro w hSw; (try dsimp only at hSw); go_simp; try with_reducible rfl)
  change wpAnyH _ _ _ _ _ _ _ (Act.put _ (some 18) _) _
  simp only [Act.put, List.setIfInBounds_toArray, List.set_cons_zero, List.set_cons_succ]
  refine wpAnyH_take (i := 6) (v := ?v6) rfl (by kernel_rfl) (by kernel_rfl) (by kernel_rfl) (fun _ _ _ h => h) (Or.inl ⟨by rfl, ?y6⟩) (by assumption) ?r6
  case y6 => (intro w hSw; (try dsimp only at hSw); go_simp; try with_reducible rfl)
  change wpAnyH _ _ _ _ _ _ _ (Act.put _ (some 19) _) _
  simp only [Act.put, List.setIfInBounds_toArray, List.set_cons_zero, List.set_cons_succ]
  refine wpAnyH_take (i := 7) (v := ?v7) rfl (by kernel_rfl) (by kernel_rfl) (by kernel_rfl) (fun _ _ _ h => h) (Or.inl ⟨by rfl, ?y7⟩) (by assumption) ?r7
  case y7 => (intro w hSw; (try dsimp only at hSw); go_simp; try with_reducible rfl)
  change wpAnyH _ _ _ _ _ _ _ (Act.put _ (some 20) _) _
  simp only [Act.put, List.setIfInBounds_toArray, List.set_cons_zero, List.set_cons_succ]
  refine wpAnyH_take (i := 8) (v := ?v8) rfl (by kernel_rfl) (by kernel_rfl) (by kernel_rfl) (fun _ _ _ h => h) (Or.inl ⟨by rfl, ?y8⟩) (by assumption) ?r8
  case y8 => (intro w hSw; (try dsimp only at hSw); go_simp; try with_reducible rfl)
  change wpAnyH _ _ _ _ _ _ _ (Act.put _ (some 21) _) _
  simp only [Act.put, List.setIfInBounds_toArray, List.set_cons_zero, List.set_cons_succ]
  refine wpAnyH_ready (rs := [9]) (by kernel_rfl) (by simp) ?_
  refine AllReadyH.cons rfl (fun K hK => ?_) AllReadyH.nil
  go_simp
  (go_at_call 45; refine (HIN.out _).mono ?_; rintro e v2 ⟨rfl, hww⟩; have hww := hww.symm; subst hww)
  skip
  refine hK.out _ _ ?_ (fun hHeld => ?_)
  · (try dsimp only); exact ⟨(HX.out.step (HZ1.out)).c0, (HX.out.step (HZ1.out)).c1, HC.out _ (HZ1.out)⟩
  clear hK K
  try change wpAnyH _ _ _ _ _ _ _ (Act.put _ (some 22) _) _
  try simp only [Act.put, List.setIfInBounds_toArray, List.set_cons_zero, List.set_cons_succ]
  refine wpAnyH_take (i := 10) (v := ?v10) rfl (by kernel_rfl) (by kernel_rfl) (by kernel_rfl) (fun _ _ _ h => h) (Or.inl ⟨by rfl, ?y10⟩) (by assumption) ?r10
  case y10 => (intro w hSw; (try dsimp only at hSw); go_simp; try with_reducible rfl)
  change wpAnyH _ _ _ _ _ _ _ (Act.put _ (some 23) _) _
  simp only [Act.put, List.setIfInBounds_toArray, List.set_cons_zero, List.set_cons_succ]
  refine wpAnyH_take (i := 11) (v := ?v11) rfl (by kernel_rfl) (by kernel_rfl) (by kernel_rfl) (fun _ _ _ h => h) (Or.inl ⟨by rfl, ?y11⟩) (by assumption) ?r11
  case y11 => (intro w hSw; (try dsimp only at hSw); go_simp; try with_reducible rfl)
  change wpAnyH _ _ _ _ _ _ _ (Act.put _ (some 24) _) _
  simp only [Act.put, List.setIfInBounds_toArray, List.set_cons_zero, List.set_cons_succ]
  refine wpAnyH_take (i := 12) (v := ?v12) rfl (by kernel_rfl) (by kernel_rfl) (by kernel_rfl) (fun _ _ _ h => h) (Or.inl ⟨by rfl, ?y12⟩) (by assumption) ?r12
  case y12 => (intro w hSw; (try dsimp only at hSw); go_simp; try with_reducible rfl)
  change wpAnyH _ _ _ _ _ _ _ (Act.put _ (some 25) _) _
  simp only [Act.put, List.setIfInBounds_toArray, List.set_cons_zero, List.set_cons_succ]
  refine wpAnyH_take (i := 13) (v := ?v13) rfl (by kernel_rfl) (by kernel_rfl) (by kernel_rfl) (fun _ _ _ h => h) (Or.inl ⟨by rfl, ?y13⟩) (by assumption) ?r13
  case y13 => (intro w hSw; (try dsimp only at hSw); go_simp; try with_reducible rfl)
  change wpAnyH _ _ _ _ _ _ _ (Act.put _ (some 26) _) _
  simp only [Act.put, List.setIfInBounds_toArray, List.set_cons_zero, List.set_cons_succ]
  refine wpAnyH_take (i := 14) (v := ?v14) rfl (by kernel_rfl) (by kernel_rfl) (by kernel_rfl) (fun _ _ _ h => h) (Or.inl ⟨by rfl, ?y14⟩) (by assumption) ?r14
  case y14 => (intro w hSw; (try dsimp only at hSw); go_simp; try with_reducible rfl)
  change wpAnyH _ _ _ _ _ _ _ (Act.put _ (some 27) _) _
  simp only [Act.put, List.setIfInBounds_toArray, List.set_cons_zero, List.set_cons_succ]
  refine wpAnyH_take (i := 15) (v := ?v15) rfl (by kernel_rfl) (by kernel_rfl) (by kernel_rfl) (fun _ _ _ h => h) (Or.inl ⟨by rfl, ?y15⟩) (by assumption) ?r15
  case y15 => (intro w hSw; (try dsimp only at hSw); go_simp; try with_reducible rfl)
  change wpAnyH _ _ _ _ _ _ _ (Act.put _ (some 28) _) _
  simp only [Act.put, List.setIfInBounds_toArray, List.set_cons_zero, List.set_cons_succ]
  refine wpAnyH_take (i := 16) (v := ?v16) rfl (by kernel_rfl) (by kernel_rfl) (by kernel_rfl) (fun _ _ _ h => h) (Or.inl ⟨by rfl, ?y16⟩) (by assumption) ?r16
  case y16 => (intro w hSw; (try dsimp only at hSw); go_simp; try with_reducible rfl)
  change wpAnyH _ _ _ _ _ _ _ (Act.put _ (some 29) _) _
  simp only [Act.put, List.setIfInBounds_toArray, List.set_cons_zero, List.set_cons_succ]
  refine wpAnyH_take (i := 17) (v := ?v17) rfl (by kernel_rfl) (by kernel_rfl) (by kernel_rfl) (fun _ _ _ h => h) (Or.inl ⟨by rfl, ?y17⟩) (by assumption) ?r17
  case y17 => (intro w hSw; (try dsimp only at hSw); go_simp; try with_reducible rfl)
  change wpAnyH _ _ _ _ _ _ _ (Act.put _ (some 30) _) _
  simp only [Act.put, List.setIfInBounds_toArray, List.set_cons_zero, List.set_cons_succ]
  refine wpAnyH_take (i := 18) (v := ?v18) rfl (by kernel_rfl) (by kernel_rfl) (by kernel_rfl) (fun _ _ _ h => h) (Or.inl ⟨by rfl, ?y18⟩) (by assumption) ?r18
  case y18 => (intro w hSw; (try dsimp only at hSw); go_simp; try with_reducible rfl)
  change wpAnyH _ _ _ _ _ _ _ (Act.put _ (some 31) _) _
  simp only [Act.put, List.setIfInBounds_toArray, List.set_cons_zero, List.set_cons_succ]
  refine wpAnyH_take (i := 19) (v := ?v19) rfl (by kernel_rfl) (by kernel_rfl) (by kernel_rfl) (fun _ _ _ h => h) (Or.inl ⟨by rfl, ?y19⟩) (by assumption) ?r19
  case y19 => (intro w hSw; (try dsimp only at hSw); go_simp; try with_reducible rfl)
  change wpAnyH _ _ _ _ _ _ _ (Act.put _ (some 32) _) _
  simp only [Act.put, List.setIfInBounds_toArray, List.set_cons_zero, List.set_cons_succ]
  refine wpAnyH_take (i := 20) (v := ?v20) rfl (by kernel_rfl) (by kernel_rfl) (by kernel_rfl) (fun _ _ _ h => h) (Or.inl ⟨by rfl, ?y20⟩) (by assumption) ?r20
  case y20 => (intro w hSw; (try dsimp only at hSw); go_simp; try with_reducible rfl)
  change wpAnyH _ _ _ _ _ _ _ (Act.put _ (some 33) _) _
  simp only [Act.put, List.setIfInBounds_toArray, List.set_cons_zero, List.set_cons_succ]
  refine wpAnyH_take (i := 21) (v := ?v21) rfl (by kernel_rfl) (by kernel_rfl) (by kernel_rfl) (fun _ _ _ h => h) (Or.inl ⟨by rfl, ?y21⟩) (by assumption) ?r21
  case y21 => (intro w hSw; (try dsimp only at hSw); go_simp; try with_reducible rfl)
  change wpAnyH _ _ _ _ _ _ _ (Act.put _ (some 34) _) _
  simp only [Act.put, List.setIfInBounds_toArray, List.set_cons_zero, List.set_cons_succ]
  refine wpAnyH_take (i := 22) (v := ?v22) rfl (by kernel_rfl) (by kernel_rfl) (by kernel_rfl) (fun _ _ _ h => h) (Or.inl ⟨by rfl, ?y22⟩) (by assumption) ?r22
  case y22 => (intro w hSw; (try dsimp only at hSw); go_simp; try with_reducible rfl)
  change wpAnyH _ _ _ _ _ _ _ (Act.put _ (some 35) _) _
  simp only [Act.put, List.setIfInBounds_toArray, List.set_cons_zero, List.set_cons_succ]
  refine wpAnyH_take (i := 23) (v := ?v23) rfl (by kernel_rfl) (by kernel_rfl) (by kernel_rfl) (fun _ _ _ h => h) (Or.inl ⟨by rfl, ?y23⟩) (by assumption) ?r23
  case y23 => (intro w hSw; (try dsimp only at hSw); go_simp; try with_reducible rfl)
  change wpAnyH _ _ _ _ _ _ _ (Act.put _ (some 36) _) _
  simp only [Act.put, List.setIfInBounds_toArray, List.set_cons_zero, List.set_cons_succ]
  refine wpAnyH_take (i := 24) (v := ?v24) rfl (by kernel_rfl) (by kernel_rfl) (by kernel_rfl) (fun _ _ _ h => h) (Or.inl ⟨by rfl, ?y24⟩) (by assumption) ?r24
  case y24 => (intro w hSw; (try dsimp only at hSw); go_simp; try with_reducible rfl)
  change wpAnyH _ _ _ _ _ _ _ (Act.put _ (some 37) _) _
  simp only [Act.put, List.setIfInBounds_toArray, List.set_cons_zero, List.set_cons_succ]
  refine wpAnyH_take (i := 25) (v := ?v25) rfl (by kernel_rfl) (by kernel_rfl) (by kernel_rfl) (fun _ _ _ h => h) (Or.inl ⟨by rfl, ?y25⟩) (by assumption) ?r25
  case y25 => (intro w hSw; (try dsimp only at hSw); go_simp; try with_reducible rfl)
  change wpAnyH _ _ _ _ _ _ _ (Act.put _ (some 38) _) _
  simp only [Act.put, List.setIfInBounds_toArray, List.set_cons_zero, List.set_cons_succ]
  refine wpAnyH_take (i := 26) (v := ?v26) rfl (by kernel_rfl) (by kernel_rfl) (by kernel_rfl) (fun _ _ _ h => h) (Or.inl ⟨by rfl, ?y26⟩) (by assumption) ?r26
  case y26 => (intro w hSw; (try dsimp only at hSw); go_simp; try with_reducible rfl)
  change wpAnyH _ _ _ _ _ _ _ (Act.put _ (some 39) _) _
  simp only [Act.put, List.setIfInBounds_toArray, List.set_cons_zero, List.set_cons_succ]
  refine wpAnyH_take (i := 27) (v := ?v27) rfl (by kernel_rfl) (by kernel_rfl) (by kernel_rfl) (fun _ _ _ h => h) (Or.inl ⟨by rfl, ?y27⟩) (by assumption) ?r27
  case y27 => (intro w hSw; (try dsimp only at hSw); go_simp; try with_reducible rfl)
  change wpAnyH _ _ _ _ _ _ _ (Act.put _ (some 40) _) _
  simp only [Act.put, List.setIfInBounds_toArray, List.set_cons_zero, List.set_cons_succ]
  refine wpAnyH_take (i := 28) (v := undef) rfl (by kernel_rfl) (by kernel_rfl) (by kernel_rfl) (fun _ _ _ h => h) (Or.inr ⟨by rfl, rfl⟩) (by assumption) ?_
  change wpAnyH _ _ _ _ _ _ _ (Act.put _ (some 41) _) _
  simp only [Act.put, List.setIfInBounds_toArray, List.set_cons_zero, List.set_cons_succ]
  refine wpAnyH_take (i := 29) (v := undef) rfl (by kernel_rfl) (by kernel_rfl) (by kernel_rfl) (fun _ _ _ h => h) (Or.inr ⟨by rfl, rfl⟩) (by assumption) ?_
  change wpAnyH _ _ _ _ _ _ _ (Act.put _ (some 42) _) _
  simp only [Act.put, List.setIfInBounds_toArray, List.set_cons_zero, List.set_cons_succ]
  refine wpAnyH_take (i := 30) (v := undef) rfl (by kernel_rfl) (by kernel_rfl) (by kernel_rfl) (fun _ _ _ h => h) (Or.inr ⟨by rfl, rfl⟩) (by assumption) ?_
  change wpAnyH _ _ _ _ _ _ _ (Act.put _ (some 43) _) _
  simp only [Act.put, List.setIfInBounds_toArray, List.set_cons_zero, List.set_cons_succ]
  refine wpAnyH_take (i := 31) (v := undef) rfl (by kernel_rfl) (by kernel_rfl) (by kernel_rfl) (fun _ _ _ h => h) (Or.inr ⟨by rfl, rfl⟩) (by assumption) ?_
  change wpAnyH _ _ _ _ _ _ _ (Act.put _ (some 44) _) _
  simp only [Act.put, List.setIfInBounds_toArray, List.set_cons_zero, List.set_cons_succ]
  refine wpAnyH_take (i := 32) (v := undef) rfl (by kernel_rfl) (by kernel_rfl) (by kernel_rfl) (fun _ _ _ h => h) (Or.inr ⟨by rfl, rfl⟩) (by assumption) ?_
  change wpAnyH _ _ _ _ _ _ _ (Act.put _ (some 45) _) _
  simp only [Act.put, List.setIfInBounds_toArray, List.set_cons_zero, List.set_cons_succ]
  refine wpAnyH_take (i := 33) (v := undef) rfl (by kernel_rfl) (by kernel_rfl) (by kernel_rfl) (fun _ _ _ h => h) (Or.inr ⟨by rfl, rfl⟩) (by assumption) ?_
  change wpAnyH _ _ _ _ _ _ _ (Act.put _ (some 46) _) _
  simp only [Act.put, List.setIfInBounds_toArray, List.set_cons_zero, List.set_cons_succ]
  refine wpAnyH_take (i := 34) (v := undef) rfl (by kernel_rfl) (by kernel_rfl) (by kernel_rfl) (fun _ _ _ h => h) (Or.inr ⟨by rfl, rfl⟩) (by assumption) ?_
  change wpAnyH _ _ _ _ _ _ _ (Act.put _ (some 47) _) _
  simp only [Act.put, List.setIfInBounds_toArray, List.set_cons_zero, List.set_cons_succ]
  refine wpAnyH_take (i := 35) (v := undef) rfl (by kernel_rfl) (by kernel_rfl) (by kernel_rfl) (fun _ _ _ h => h) (Or.inr ⟨by rfl, rfl⟩) (by assumption) ?_
  change wpAnyH _ _ _ _ _ _ _ (Act.put _ (some 48) _) _
  simp only [Act.put, List.setIfInBounds_toArray, List.set_cons_zero, List.set_cons_succ]
  refine wpAnyH_take (i := 36) (v := ?v36) rfl (by kernel_rfl) (by kernel_rfl) (by kernel_rfl) (fun _ _ _ h => h) (Or.inl ⟨by rfl, ?y36⟩) (by assumption) ?r36
  case y36 => (intro w hSw; (try dsimp only at hSw); go_simp; try with_reducible rfl)
  change wpAnyH _ _ _ _ _ _ _ (Act.put _ (some 49) _) _
  simp only [Act.put, List.setIfInBounds_toArray, List.set_cons_zero, List.set_cons_succ]
  refine wpAnyH_take (i := 37) (v := ?v37) rfl (by kernel_rfl) (by kernel_rfl) (by kernel_rfl) (fun _ _ _ h => h) (Or.inl ⟨by rfl, ?y37⟩) (by assumption) ?r37
  case y37 => (intro w hSw; (try dsimp only at hSw); go_simp; try with_reducible rfl)
  change wpAnyH _ _ _ _ _ _ _ (Act.put _ (some 50) _) _
  simp only [Act.put, List.setIfInBounds_toArray, List.set_cons_zero, List.set_cons_succ]
  refine wpAnyH_done (by kernel_rfl) ?_ _
  all_goals
    clear HH HC HIN W1 hzd hld hl0d
    replace HX := Lib.hid (HX.out.step HZ1.out)
    replace HTw := Lib.hid (HTw.out.step HZ1.out)
    have HSI : Hid (SI w.heap.size v1 (some ⟨bz, oz, none⟩) lo hi zs) := Lib.hid (.inl ⟨HI.out.step HZ1.out, hhi⟩)
    replace HRw := Lib.hid (pastA HRw.out (Past.of_below HZ1.out))
    have HB1 := Lib.hid HX.out.below
    clear HX HI HZ1
    have x0 := HTw.out.c0
    have x1 := HTw.out.c1
    generalize hv0 : (Value.slice (some ⟨w.heap.size + 1, 0, none⟩) 0 0) = v0 at HRw ⊢
    clear hv0
    go_wp2_with fail
    refine (HND.out v1).mono ?_
    rintro e w2 ⟨gn, cn, rfl, hgn, hon, hb⟩
    have hn2 := HTw.out.lt
    have HW0 : Hid (WP w w.heap.size gn M (j : Int) lie zs 0 (some ⟨bz, oz, none⟩) c lo hi v0 w2) := Lib.hid ⟨HTw.out.step hb, HSI.out.step hb, hon, pastA HRw.out (Past.of_below hb), below_trans HB1.out hb⟩
    have hgn1 : w.heap.size < gn := by omega
    clear hb hon HND HTw HSI HRw HB1 x0 x1
    go_wp2_with fail
    go_loopg [8] (massL M zs) (fun g v wr => ∃ (i : Nat) (A' : Option Addr) (c' lo' hi' : Nat), g = massL M (pSt M (j : Int) lie zs i) ∧ i + g ≤ 10 ∧ Hid (WP w w.heap.size gn M (j : Int) lie zs i A' c' lo' hi' v wr))
    case atStart => exact ⟨0, _, c, lo, hi, rfl, by omega, HW0⟩
    case round =>
      clear HW0
      obtain ⟨i, A', c', lo', hi', hg, hi10, HW⟩ := hrel
      rename World => w5
      have HSi := Lib.hid (pSt_short (x := (j : Int)) (lie := lie) HSH.out i)
      have HBX := Lib.hid HW.out.bx
      have HSI := Lib.hid HW.out.si
      have HNd := Lib.hid HW.out.nd
      have HRow := Lib.hid HW.out.row
      have HBl := Lib.hid HW.out.bl
      have HDn := fun W h => l6Done_any A' c' lo' hi' (pSt M (j : Int) lie zs i) (M : Int) W h (by rw [HSi.out.2]; omega)
      rw [HSi.out.2] at HDn
      have HDn := Lib.hid HDn
      have x0 := HBX.out.c0
      have x1 := HBX.out.c1
      obtain ⟨Av, cv, rfl⟩ := ownsRow_sliceA HRow.out
      clear HW
      cases hdn : doneL (pSt M (j : Int) lie zs i) with
      | true =>
        have HE := Lib.hid (play_end hdn (show i ≤ 10 by omega)).2
        rw [hdn] at HDn
        rw [HE.out, HP.out] at HRow ⊢
        have hend := HEND.out
        clear hdn HE HP
        go_wp2_with fail
        refine (HDn.out w5 HSI.out.ins).mono ?_
        rintro e w6 ⟨rfl, hb⟩
        replace HRow := Lib.hid (baseA (pastA HRow.out (Past.of_below hb)) (Nat.le_succ _))
        replace HBl := Lib.hid (below_trans HBl.out hb)
        clear hb
        have hend2 : ¬ (P.length : Int) ≤ lie := by omega
        have hendd := decide_eq_false hend2
        go_wp2
        go_ret2
        exact ⟨_, rfl, HRow.out, HBl.out⟩
      | false =>
        rw [hdn] at HDn
        have hpi := plan_in HSi.out.1 hdn
        have hsp := span_bd HSi.out.1
        have hlen := HSi.out.2
        have hk12 : (planS M (pSt M (j : Int) lie zs i)).2 ≤ 12 := by omega
        have HBs := fun g2 c2 W h h2 => l6Best_any A' c' lo' hi' (pSt M (j : Int) lie zs i) M (some ⟨g2, 0, none⟩) c2 g2 (g2 + 1) W h h2 HSi.out.1 hdn
        have HAf := fun W y h => l6After_any A' c' lo' hi' (pSt M (j : Int) lie zs i) M (planS M (pSt M (j : Int) lie zs i)).2 y W h HSi.out.1 hk12
        rw [hlen] at HBs HAf
        have HBs := Lib.hid HBs
        have HAf := Lib.hid HAf
        have HMS := Lib.hid (pSt_mass (x := (j : Int)) (lie := lie) HSH.out hdn)
        have HN1 := Lib.hid (pSt_next hdn)
        have HNL := Lib.hid (pL_next hdn)
        have hwl := pL_len M (j : Int) lie zs i
        have HY : Hid (yesP M (j : Int) lie (pSt M (j : Int) lie zs i) (pL M (j : Int) lie zs i).length = (decide ((j : Int) < ((planS M (pSt M (j : Int) lie zs i)).2 : Int)) != decide (((pL M (j : Int) lie zs i).length : Int) = lie))) := Lib.hid rfl
        rw [HY.out] at HN1 HNL
        clear hdn hpi hsp hlen HY
        generalize hn : (pL M (j : Int) lie zs i).length = n at HNL HN1 HRow hwl ⊢
        generalize hpb2 : (planS M (pSt M (j : Int) lie zs i)).2 = pb at HBs HAf hk12 HN1 HNL ⊢
        clear hpb2
        have hp := pow_le pb hk12
        generalize htop : (M + 2) ^ zs.length = top at HBs ⊢
        have HTP := Lib.hid htop
        clear htop
        go_wp2_with fail
        refine (HDn.out w5 HSI.out.ins).mono ?_
        rintro e w6 ⟨rfl, hb⟩
        replace HBX := Lib.hid (HBX.out.step hb)
        replace HSI := Lib.hid (HSI.out.step hb)
        replace HNd := Lib.hid (own_same HNd.out (hb.block _ (own_lt HNd.out)))
        replace HRow := Lib.hid (pastA HRow.out (Past.of_below hb))
        replace HBl := Lib.hid (below_trans HBl.out hb)
        clear hb HDn x0 x1
        have x0 := HBX.out.c0
        have x1 := HBX.out.c1
        go_wp2_with fail
        refine (HBs.out gn cn w6 HSI.out.ins (own_insB HNd.out)).mono ?_
        rintro e w7 ⟨rfl, hb⟩
        replace HBX := Lib.hid (HBX.out.step hb)
        replace HSI := Lib.hid (HSI.out.step hb)
        replace HNd := Lib.hid (own_same HNd.out (hb.block _ (own_lt HNd.out)))
        replace HRow := Lib.hid (pastA HRow.out (Past.of_below hb))
        replace HBl := Lib.hid (below_trans HBl.out hb)
        clear hb HBs x0 x1
        go_upto_region 8 with fail
        have hn10 : n ≤ 10 := by omega
        have HNn := Lib.hid hn
        have HHg := Lib.hid hg
        have HHi := Lib.hid hi10
        have hye : (decide ((j : Int) < (pb : Int)) != decide ((n : Int) = lie)) = !(decide (j < pb) == ((n : Int) == lie)) := by
          have h1 : decide ((j : Int) < (pb : Int)) = decide (j < pb) := by simp
          have h2 : ((n : Int) == lie) = decide ((n : Int) = lie) := rfl
          rw [h1, h2]
          cases decide (j < pb) <;> cases decide ((n : Int) = lie) <;> rfl
        rw [hye] at HN1 HNL
        clear hn hg hi10 hwl hye
        generalize (!(decide (j < pb) == ((n : Int) == lie))) = y at HN1 HNL ⊢
        generalize Value.slice Av n cv = vv at HRow ⊢
        have hbx := (Below.refl w7.heap.size w7).alloc (Nat.le_refl _) (.cells #[.int .i64 ((2 : Int) ^ pb - 1), .bool y] 72)
        have hown := HRow.out
        have hB9 := HBX.out.lt
        go_upto_region 9 with (at_builtin; refine wpList_append_own _ rfl (.tmp 72) (.tmp 78) 41 rfl (w.heap.size + 1) 72 i0 (.agg #[.int .i64 0, .bool false]) 2 16 Try.underlying41 hi0 hz00 hz1 hz2 rfl (by decide) _ _ _ rfl (hown.alloc _) ⟨w7.heap.size, 0, none⟩ 1 1 [.int .i64 ((2 : Int) ^ pb - 1), .bool y] rfl rfl (cell_two_new _ _ _ _) (by simp [Value.oneCell']) (by unfold maxLen; omega) (by omega) (by simp; omega) ?_; intro v' w10 hown' hgrow _)
        have HRow9 := Lib.hid (askd_snoc6 hown' HNn.out.symm)
        have hpst := pastGrownA hown hgrow
        replace HBX := Lib.hid (grown_twoA hown HBX.out (by decide) hgrow)
        replace HSI := Lib.hid (HSI.out.grownQ hown hgrow)
        replace HNd := Lib.hid (grown_ownA hown HNd.out (by decide) hgrow)
        replace HBl := Lib.hid (HBl.out.trans (hpst.below (Nat.le_succ _) HBl.out.size))
        rw [← HNL.out] at HRow9
        clear hpst hown' hgrow hown HRow hbx
        have x0 := HBX.out.c0
        have x1 := HBX.out.c1
        go_wp2_with fail
        refine (HAf.out w10 y HSI.out.ins).mono ?_
        rintro e w11 ⟨g9, c9, rfl, hg9, ho9, hb⟩
        replace HBX := Lib.hid (HBX.out.step hb)
        replace HNd := Lib.hid (own_same HNd.out (hb.block _ (own_lt HNd.out)))
        replace HRow9 := Lib.hid (pastA HRow9.out (Past.of_below hb))
        replace HBl := Lib.hid (below_trans HBl.out hb)
        have HO9 : Hid (Own w11 g9 (g9 + 1) (some ⟨g9, 0, none⟩) (pSt M (j : Int) lie zs (i + 1))) := Lib.hid (by rw [HN1.out]; exact ho9)
        clear hb ho9 x0 x1 HAf HSI
        have x0 := HBX.out.c0
        have x1 := HBX.out.c1
        have x2 := HBX.out.f0
        have x3 := HBX.out.f1
        obtain ⟨hs1, hw1⟩ := stored2 HBX.out.row (.slice (some ⟨g9, 0, none⟩) zs.length c9) (.int .i64 (M : Int))
        have hng : g9 ≠ w.heap.size := own_two_ne HO9.out HBX.out
        have HWf : Hid (WP w w.heap.size gn M (j : Int) lie zs (i + 1) (some ⟨g9, 0, none⟩) c9 g9 (g9 + 1) v' ((w11.setCell ⟨w.heap.size, 0, none⟩ (.slice (some ⟨g9, 0, none⟩) zs.length c9)).setCell ⟨w.heap.size, 1, none⟩ (.int .i64 (M : Int)))) := Lib.hid ⟨⟨hs1⟩, .inr ⟨g9, rfl, rfl, rfl, own_same HO9.out (hw1.block g9 (own_lt HO9.out) (by omega))⟩, own_same HNd.out (hw1.block gn (own_lt HNd.out) (.inr (by omega))), row_twoA HRow9.out HBX.out (by decide) hw1, HBl.out.trans (hw1.below (Nat.le_refl _) HBl.out.size)⟩
        clear hs1 hw1 HO9 HNd HRow9 HBX HBl HN1 HNL
        go_wp2
        have htp := HTP.out
        clear HTP
        subst htp
        go_roundg (massL M (pSt M (j : Int) lie zs (i + 1)))
        case measure => have := HMS.out; have := HHg.out; omega
        case rel => exact ⟨i + 1, _, _, _, _, rfl, by have := HMS.out; have := HHg.out; have := HHi.out; omega, HWf⟩
set_option maxRecDepth 100000 in
set_option maxHeartbeats 16000000 in
theorem lessPlay_smain1 (x lie : Int) (A : Option Addr) (c lo hi : Nat) (zs : List Int) (M : Nat) (w : World) (hS : Ins w lo hi A zs) (hs : Short M zs) (j : Nat) (hj : x = (j : Int)) (hjl : j < zs.length) (z : Int) (hz : zs[j] = z) (hz0 : ¬ z < 0) (hlo : ¬ lie < -1) (hl0 : 0 ≤ lie) (hzM : ¬ (M : Int) ≤ z) (hend : lie < ((pL M x lie zs 10).length : Int)) :
    Calls Try.prog 19 #[.agg #[.slice A zs.length c, .int .i64 (M : Int)], .int .i64 x, .int .i64 lie] w fun e w' => ∃ v, e = .returned (.tuple #[v, .bool true]) ∧ w'.ownsRow w.heap.size 72 2 v (pL M x lie zs 10).length (cellsA (pL M x lie zs 10)) ∧ Below w.heap.size w w' := by
  obtain ⟨i0, hi0, hz00, hz1, hz2⟩ := info_parts infoA
  have hhi := hS.top
  obtain ⟨bz, oz, hA, _, hbz, hcz⟩ := hS.ints.at_ hjl
  subst hA
  rw [hz] at hcz
  have HX1 := Lib.hid (Arg.next (Below.refl w.heap.size w) (.slice (some ⟨bz, oz, none⟩) zs.length c) (.int .i64 (M : Int)) 44 w.heap.size rfl)
  have HT1 := Lib.hid (Two.new w (.slice (some ⟨bz, oz, none⟩) zs.length c) (.int .i64 (M : Int)) 44 w.heap.size rfl)
  have hba := (Below.refl _ (w.alloc (.cells #[.slice (some ⟨bz, oz, none⟩) zs.length c, .int .i64 (M : Int)] 44))).alloc (Nat.le_refl _) (.cells #[] 72)
  have HRw := Lib.hid (A0_any (w.alloc (.cells #[.slice (some ⟨bz, oz, none⟩) zs.length c, .int .i64 (M : Int)] 44)) (w.heap.size + 1) (by simp))
  have hsm : (w.alloc (.cells #[.slice (some ⟨bz, oz, none⟩) zs.length c, .int .i64 (M : Int)] 44)).heap.size = w.heap.size + 1 := by simp
  rw [hsm] at HRw
  have HX := Lib.hid (HX1.out.step hba)
  have HTw := Lib.hid (HT1.out.step hba)
  have HI := Lib.hid (hS.step HX.out.below)
  have HH := Lib.hid (fun W h => l6Short_any (some ⟨bz, oz, none⟩) c lo hi zs (M : Int) W h (by have := hs.len; omega))
  rw [shortB_iff.2 ⟨M, rfl, hs⟩] at HH
  have HND := Lib.hid (fun W => l6Needs_any zs.length M W hs.m hs.pos hs.len)
  have HSH := Lib.hid hs
  have hl5 := hs.len
  have hl1 := hs.pos
  have hmm := hs.m
  have W1 : IntKind.i64.wrap ((zs.length : Int) - 1) = (zs.length : Int) - 1 := IntWalk.i64_in _ (by omega)
  subst hj
  have HIN := Lib.hid (fun W => l1In_any (j : Int) 0 ((zs.length : Int) - 1) W)
  rw [show inB (j : Int) 0 ((zs.length : Int) - 1) = true from inB_iff.2 ⟨by omega, by omega⟩] at HIN
  generalize hP : pL M (j : Int) lie zs 10 = P at hend ⊢
  have HP := Lib.hid hP
  have HEND := Lib.hid hend
  clear hP
  have HC : Hid (∀ W', Below ((w.alloc (.cells #[.slice (some ⟨bz, oz, none⟩) zs.length c, .int .i64 (M : Int)] 44)).alloc (.cells #[] 72)).heap.size ((w.alloc (.cells #[.slice (some ⟨bz, oz, none⟩) zs.length c, .int .i64 (M : Int)] 44)).alloc (.cells #[] 72)) W' → W'.cell? ⟨bz, oz + j, none⟩ = some (.int .i64 z)) := Lib.hid (fun W' h => (World.cell?_of_block ((below_trans HX.out.below h).block bz (Nat.lt_of_lt_of_le hbz hhi))).trans hcz)
  have HM10 := mass_ten hs
  clear hcz hbz hz hS hba HX1 HT1 hs hend hsm
  have hj0 : (0 : Int) ≤ (j : Int) := by omega
  have hjn : (j : Int) < (zs.length : Int) := by omega
  have hzd := decide_eq_false hz0
  have hld := decide_eq_false hlo
  have hzMd := decide_eq_false hzM
  go_enter Try.func19, Try.ntmps19
  go_wp2_with fail
  generalize (w.alloc (.cells #[.slice (some ⟨bz, oz, none⟩) zs.length c, .int .i64 (M : Int)] 44)).alloc (.cells #[] 72) = w0 at HX HTw HI HRw HC ⊢
  refine wp_region_held_drew (S := fun w' => w'.cell? ⟨w.heap.size, 0, none⟩ = some (.slice (some ⟨bz, oz, none⟩) zs.length c) ∧ w'.cell? ⟨w.heap.size, 1, none⟩ = some (.int .i64 (M : Int)) ∧ w'.cell? ⟨bz, oz + j, none⟩ = some (.int .i64 z)) (by kernel_rfl) ?_ (fun hHeld => ?_)
  · (try dsimp only); exact ⟨(HX.out.step ((Below.refl _ w0).drew)).c0, (HX.out.step ((Below.refl _ w0).drew)).c1, HC.out _ ((Below.refl _ w0).drew)⟩
  refine wpAnyH_take (i := 0) (v := ?v0) rfl (by kernel_rfl) (by kernel_rfl) (by kernel_rfl) (fun _ _ _ h => h) (Or.inl ⟨by rfl, ?y0⟩) (by assumption) ?r0
  case y0 => (intro w hSw; (try dsimp only at hSw); go_simp; try with_reducible rfl)
  change wpAnyH _ _ _ _ _ _ _ (Act.put _ (some 13) _) _
  simp only [Act.put, List.setIfInBounds_toArray, List.set_cons_zero, List.set_cons_succ]
  refine wpAnyH_ready (rs := [1]) (by kernel_rfl) (by simp) ?_
  refine AllReadyH.cons rfl (fun K hK => ?_) AllReadyH.nil
  go_simp
  (go_at_call 44; refine (HH.out _ (HI.out.step (Below.refl _ w0).drew)).mono ?_; rintro e v1 ⟨rfl, hb⟩; have HZ1 := Lib.hid (below_trans (Below.refl _ w0).drew hb); clear hb)
  skip
  refine hK.out _ _ ?_ (fun hHeld => ?_)
  · (try dsimp only); exact ⟨(HX.out.step (HZ1.out)).c0, (HX.out.step (HZ1.out)).c1, HC.out _ (HZ1.out)⟩
  clear hK K
  try change wpAnyH _ _ _ _ _ _ _ (Act.put _ (some 14) _) _
  try simp only [Act.put, List.setIfInBounds_toArray, List.set_cons_zero, List.set_cons_succ]
  refine wpAnyH_take (i := 2) (v := ?v2) rfl (by kernel_rfl) (by kernel_rfl) (by kernel_rfl) (fun _ _ _ h => h) (Or.inl ⟨by rfl, ?y2⟩) (by assumption) ?r2
  case y2 => (intro w hSw; (try dsimp only at hSw); go_simp; try with_reducible rfl)
  change wpAnyH _ _ _ _ _ _ _ (Act.put _ (some 15) _) _
  simp only [Act.put, List.setIfInBounds_toArray, List.set_cons_zero, List.set_cons_succ]
  refine wpAnyH_take (i := 3) (v := ?v3) rfl (by kernel_rfl) (by kernel_rfl) (by kernel_rfl) (fun _ _ _ h => h) (Or.inl ⟨by rfl, ?y3⟩) (by assumption) ?r3
  case y3 => (intro w hSw; (try dsimp only at hSw); go_simp; try with_reducible rfl)
  change wpAnyH _ _ _ _ _ _ _ (Act.put _ (some 16) _) _
  simp only [Act.put, List.setIfInBounds_toArray, List.set_cons_zero, List.set_cons_succ]
  refine wpAnyH_take (i := 4) (v := ?v4) rfl (by kernel_rfl) (by kernel_rfl) (by kernel_rfl) (fun _ _ _ h => h) (Or.inl ⟨by rfl, ?y4⟩) (by assumption) ?r4
  case y4 => (intro w hSw; (try dsimp only at hSw); go_simp; try with_reducible rfl)
  change wpAnyH _ _ _ _ _ _ _ (Act.put _ (some 17) _) _
  simp only [Act.put, List.setIfInBounds_toArray, List.set_cons_zero, List.set_cons_succ]
  refine wpAnyH_take (i := 5) (v := ?v5) rfl (by kernel_rfl) (by kernel_rfl) (by kernel_rfl) (fun _ _ _ h => h) (Or.inl ⟨by rfl, ?y5⟩) (by assumption) ?r5
  case y5 => (intro w hSw; (try dsimp only at hSw); go_simp; try with_reducible rfl)
  change wpAnyH _ _ _ _ _ _ _ (Act.put _ (some 18) _) _
  simp only [Act.put, List.setIfInBounds_toArray, List.set_cons_zero, List.set_cons_succ]
  refine wpAnyH_take (i := 6) (v := ?v6) rfl (by kernel_rfl) (by kernel_rfl) (by kernel_rfl) (fun _ _ _ h => h) (Or.inl ⟨by rfl, ?y6⟩) (by assumption) ?r6
  case y6 => (intro w hSw; (try dsimp only at hSw); go_simp; try with_reducible rfl)
  change wpAnyH _ _ _ _ _ _ _ (Act.put _ (some 19) _) _
  simp only [Act.put, List.setIfInBounds_toArray, List.set_cons_zero, List.set_cons_succ]
  refine wpAnyH_take (i := 7) (v := ?v7) rfl (by kernel_rfl) (by kernel_rfl) (by kernel_rfl) (fun _ _ _ h => h) (Or.inl ⟨by rfl, ?y7⟩) (by assumption) ?r7
  case y7 => (intro w hSw; (try dsimp only at hSw); go_simp; try with_reducible rfl)
  change wpAnyH _ _ _ _ _ _ _ (Act.put _ (some 20) _) _
  simp only [Act.put, List.setIfInBounds_toArray, List.set_cons_zero, List.set_cons_succ]
  refine wpAnyH_take (i := 8) (v := ?v8) rfl (by kernel_rfl) (by kernel_rfl) (by kernel_rfl) (fun _ _ _ h => h) (Or.inl ⟨by rfl, ?y8⟩) (by assumption) ?r8
  case y8 => (intro w hSw; (try dsimp only at hSw); go_simp; try with_reducible rfl)
  change wpAnyH _ _ _ _ _ _ _ (Act.put _ (some 21) _) _
  simp only [Act.put, List.setIfInBounds_toArray, List.set_cons_zero, List.set_cons_succ]
  refine wpAnyH_ready (rs := [9]) (by kernel_rfl) (by simp) ?_
  refine AllReadyH.cons rfl (fun K hK => ?_) AllReadyH.nil
  go_simp
  (go_at_call 45; refine (HIN.out _).mono ?_; rintro e v2 ⟨rfl, hww⟩; have hww := hww.symm; subst hww)
  skip
  refine hK.out _ _ ?_ (fun hHeld => ?_)
  · (try dsimp only); exact ⟨(HX.out.step (HZ1.out)).c0, (HX.out.step (HZ1.out)).c1, HC.out _ (HZ1.out)⟩
  clear hK K
  try change wpAnyH _ _ _ _ _ _ _ (Act.put _ (some 22) _) _
  try simp only [Act.put, List.setIfInBounds_toArray, List.set_cons_zero, List.set_cons_succ]
  refine wpAnyH_take (i := 10) (v := ?v10) rfl (by kernel_rfl) (by kernel_rfl) (by kernel_rfl) (fun _ _ _ h => h) (Or.inl ⟨by rfl, ?y10⟩) (by assumption) ?r10
  case y10 => (intro w hSw; (try dsimp only at hSw); go_simp; try with_reducible rfl)
  change wpAnyH _ _ _ _ _ _ _ (Act.put _ (some 23) _) _
  simp only [Act.put, List.setIfInBounds_toArray, List.set_cons_zero, List.set_cons_succ]
  refine wpAnyH_take (i := 11) (v := ?v11) rfl (by kernel_rfl) (by kernel_rfl) (by kernel_rfl) (fun _ _ _ h => h) (Or.inl ⟨by rfl, ?y11⟩) (by assumption) ?r11
  case y11 => (intro w hSw; (try dsimp only at hSw); go_simp; try with_reducible rfl)
  change wpAnyH _ _ _ _ _ _ _ (Act.put _ (some 24) _) _
  simp only [Act.put, List.setIfInBounds_toArray, List.set_cons_zero, List.set_cons_succ]
  refine wpAnyH_take (i := 12) (v := ?v12) rfl (by kernel_rfl) (by kernel_rfl) (by kernel_rfl) (fun _ _ _ h => h) (Or.inl ⟨by rfl, ?y12⟩) (by assumption) ?r12
  case y12 => (intro w hSw; (try dsimp only at hSw); go_simp; try with_reducible rfl)
  change wpAnyH _ _ _ _ _ _ _ (Act.put _ (some 25) _) _
  simp only [Act.put, List.setIfInBounds_toArray, List.set_cons_zero, List.set_cons_succ]
  refine wpAnyH_take (i := 13) (v := ?v13) rfl (by kernel_rfl) (by kernel_rfl) (by kernel_rfl) (fun _ _ _ h => h) (Or.inl ⟨by rfl, ?y13⟩) (by assumption) ?r13
  case y13 => (intro w hSw; (try dsimp only at hSw); go_simp; try with_reducible rfl)
  change wpAnyH _ _ _ _ _ _ _ (Act.put _ (some 26) _) _
  simp only [Act.put, List.setIfInBounds_toArray, List.set_cons_zero, List.set_cons_succ]
  refine wpAnyH_take (i := 14) (v := ?v14) rfl (by kernel_rfl) (by kernel_rfl) (by kernel_rfl) (fun _ _ _ h => h) (Or.inl ⟨by rfl, ?y14⟩) (by assumption) ?r14
  case y14 => (intro w hSw; (try dsimp only at hSw); go_simp; try with_reducible rfl)
  change wpAnyH _ _ _ _ _ _ _ (Act.put _ (some 27) _) _
  simp only [Act.put, List.setIfInBounds_toArray, List.set_cons_zero, List.set_cons_succ]
  refine wpAnyH_take (i := 15) (v := ?v15) rfl (by kernel_rfl) (by kernel_rfl) (by kernel_rfl) (fun _ _ _ h => h) (Or.inl ⟨by rfl, ?y15⟩) (by assumption) ?r15
  case y15 => (intro w hSw; (try dsimp only at hSw); go_simp; try with_reducible rfl)
  change wpAnyH _ _ _ _ _ _ _ (Act.put _ (some 28) _) _
  simp only [Act.put, List.setIfInBounds_toArray, List.set_cons_zero, List.set_cons_succ]
  refine wpAnyH_take (i := 16) (v := ?v16) rfl (by kernel_rfl) (by kernel_rfl) (by kernel_rfl) (fun _ _ _ h => h) (Or.inl ⟨by rfl, ?y16⟩) (by assumption) ?r16
  case y16 => (intro w hSw; (try dsimp only at hSw); go_simp; try with_reducible rfl)
  change wpAnyH _ _ _ _ _ _ _ (Act.put _ (some 29) _) _
  simp only [Act.put, List.setIfInBounds_toArray, List.set_cons_zero, List.set_cons_succ]
  refine wpAnyH_take (i := 17) (v := ?v17) rfl (by kernel_rfl) (by kernel_rfl) (by kernel_rfl) (fun _ _ _ h => h) (Or.inl ⟨by rfl, ?y17⟩) (by assumption) ?r17
  case y17 => (intro w hSw; (try dsimp only at hSw); go_simp; try with_reducible rfl)
  change wpAnyH _ _ _ _ _ _ _ (Act.put _ (some 30) _) _
  simp only [Act.put, List.setIfInBounds_toArray, List.set_cons_zero, List.set_cons_succ]
  refine wpAnyH_take (i := 18) (v := ?v18) rfl (by kernel_rfl) (by kernel_rfl) (by kernel_rfl) (fun _ _ _ h => h) (Or.inl ⟨by rfl, ?y18⟩) (by assumption) ?r18
  case y18 => (intro w hSw; (try dsimp only at hSw); go_simp; try with_reducible rfl)
  change wpAnyH _ _ _ _ _ _ _ (Act.put _ (some 31) _) _
  simp only [Act.put, List.setIfInBounds_toArray, List.set_cons_zero, List.set_cons_succ]
  refine wpAnyH_take (i := 19) (v := ?v19) rfl (by kernel_rfl) (by kernel_rfl) (by kernel_rfl) (fun _ _ _ h => h) (Or.inl ⟨by rfl, ?y19⟩) (by assumption) ?r19
  case y19 => (intro w hSw; (try dsimp only at hSw); go_simp; try with_reducible rfl)
  change wpAnyH _ _ _ _ _ _ _ (Act.put _ (some 32) _) _
  simp only [Act.put, List.setIfInBounds_toArray, List.set_cons_zero, List.set_cons_succ]
  refine wpAnyH_take (i := 20) (v := ?v20) rfl (by kernel_rfl) (by kernel_rfl) (by kernel_rfl) (fun _ _ _ h => h) (Or.inl ⟨by rfl, ?y20⟩) (by assumption) ?r20
  case y20 => (intro w hSw; (try dsimp only at hSw); go_simp; try with_reducible rfl)
  change wpAnyH _ _ _ _ _ _ _ (Act.put _ (some 33) _) _
  simp only [Act.put, List.setIfInBounds_toArray, List.set_cons_zero, List.set_cons_succ]
  refine wpAnyH_take (i := 21) (v := ?v21) rfl (by kernel_rfl) (by kernel_rfl) (by kernel_rfl) (fun _ _ _ h => h) (Or.inl ⟨by rfl, ?y21⟩) (by assumption) ?r21
  case y21 => (intro w hSw; (try dsimp only at hSw); go_simp; try with_reducible rfl)
  change wpAnyH _ _ _ _ _ _ _ (Act.put _ (some 34) _) _
  simp only [Act.put, List.setIfInBounds_toArray, List.set_cons_zero, List.set_cons_succ]
  refine wpAnyH_take (i := 22) (v := ?v22) rfl (by kernel_rfl) (by kernel_rfl) (by kernel_rfl) (fun _ _ _ h => h) (Or.inl ⟨by rfl, ?y22⟩) (by assumption) ?r22
  case y22 => (intro w hSw; (try dsimp only at hSw); go_simp; try with_reducible rfl)
  change wpAnyH _ _ _ _ _ _ _ (Act.put _ (some 35) _) _
  simp only [Act.put, List.setIfInBounds_toArray, List.set_cons_zero, List.set_cons_succ]
  refine wpAnyH_take (i := 23) (v := ?v23) rfl (by kernel_rfl) (by kernel_rfl) (by kernel_rfl) (fun _ _ _ h => h) (Or.inl ⟨by rfl, ?y23⟩) (by assumption) ?r23
  case y23 => (intro w hSw; (try dsimp only at hSw); go_simp; try with_reducible rfl)
  change wpAnyH _ _ _ _ _ _ _ (Act.put _ (some 36) _) _
  simp only [Act.put, List.setIfInBounds_toArray, List.set_cons_zero, List.set_cons_succ]
  refine wpAnyH_take (i := 24) (v := ?v24) rfl (by kernel_rfl) (by kernel_rfl) (by kernel_rfl) (fun _ _ _ h => h) (Or.inl ⟨by rfl, ?y24⟩) (by assumption) ?r24
  case y24 => (intro w hSw; (try dsimp only at hSw); go_simp; try with_reducible rfl)
  change wpAnyH _ _ _ _ _ _ _ (Act.put _ (some 37) _) _
  simp only [Act.put, List.setIfInBounds_toArray, List.set_cons_zero, List.set_cons_succ]
  refine wpAnyH_take (i := 25) (v := ?v25) rfl (by kernel_rfl) (by kernel_rfl) (by kernel_rfl) (fun _ _ _ h => h) (Or.inl ⟨by rfl, ?y25⟩) (by assumption) ?r25
  case y25 => (intro w hSw; (try dsimp only at hSw); go_simp; try with_reducible rfl)
  change wpAnyH _ _ _ _ _ _ _ (Act.put _ (some 38) _) _
  simp only [Act.put, List.setIfInBounds_toArray, List.set_cons_zero, List.set_cons_succ]
  refine wpAnyH_take (i := 26) (v := ?v26) rfl (by kernel_rfl) (by kernel_rfl) (by kernel_rfl) (fun _ _ _ h => h) (Or.inl ⟨by rfl, ?y26⟩) (by assumption) ?r26
  case y26 => (intro w hSw; (try dsimp only at hSw); go_simp; try with_reducible rfl)
  change wpAnyH _ _ _ _ _ _ _ (Act.put _ (some 39) _) _
  simp only [Act.put, List.setIfInBounds_toArray, List.set_cons_zero, List.set_cons_succ]
  refine wpAnyH_take (i := 27) (v := ?v27) rfl (by kernel_rfl) (by kernel_rfl) (by kernel_rfl) (fun _ _ _ h => h) (Or.inl ⟨by rfl, ?y27⟩) (by assumption) ?r27
  case y27 => (intro w hSw; (try dsimp only at hSw); go_simp; try with_reducible rfl)
  change wpAnyH _ _ _ _ _ _ _ (Act.put _ (some 40) _) _
  simp only [Act.put, List.setIfInBounds_toArray, List.set_cons_zero, List.set_cons_succ]
  refine wpAnyH_take (i := 28) (v := ?v28) rfl (by kernel_rfl) (by kernel_rfl) (by kernel_rfl) (fun _ _ _ h => h) (Or.inl ⟨by rfl, ?y28⟩) (by assumption) ?r28
  case y28 => (intro w hSw; (try dsimp only at hSw); go_simp; try with_reducible rfl)
  change wpAnyH _ _ _ _ _ _ _ (Act.put _ (some 41) _) _
  simp only [Act.put, List.setIfInBounds_toArray, List.set_cons_zero, List.set_cons_succ]
  refine wpAnyH_take (i := 29) (v := ?v29) rfl (by kernel_rfl) (by kernel_rfl) (by kernel_rfl) (fun _ _ _ h => h) (Or.inl ⟨by rfl, ?y29⟩) (by assumption) ?r29
  case y29 => (intro w hSw; (try dsimp only at hSw); go_simp; try with_reducible rfl)
  change wpAnyH _ _ _ _ _ _ _ (Act.put _ (some 42) _) _
  simp only [Act.put, List.setIfInBounds_toArray, List.set_cons_zero, List.set_cons_succ]
  refine wpAnyH_take (i := 30) (v := ?v30) rfl (by kernel_rfl) (by kernel_rfl) (by kernel_rfl) (fun _ _ _ h => h) (Or.inl ⟨by rfl, ?y30⟩) (by assumption) ?r30
  case y30 => (intro w hSw; (try dsimp only at hSw); go_simp; try with_reducible rfl)
  change wpAnyH _ _ _ _ _ _ _ (Act.put _ (some 43) _) _
  simp only [Act.put, List.setIfInBounds_toArray, List.set_cons_zero, List.set_cons_succ]
  refine wpAnyH_take (i := 31) (v := ?v31) rfl (by kernel_rfl) (by kernel_rfl) (by kernel_rfl) (fun _ _ _ h => h) (Or.inl ⟨by rfl, ?y31⟩) (by assumption) ?r31
  case y31 => (intro w hSw; (try dsimp only at hSw); go_simp; try with_reducible rfl)
  change wpAnyH _ _ _ _ _ _ _ (Act.put _ (some 44) _) _
  simp only [Act.put, List.setIfInBounds_toArray, List.set_cons_zero, List.set_cons_succ]
  refine wpAnyH_take (i := 32) (v := ?v32) rfl (by kernel_rfl) (by kernel_rfl) (by kernel_rfl) (fun _ _ _ h => h) (Or.inl ⟨by rfl, ?y32⟩) (by assumption) ?r32
  case y32 => (intro w hSw; (try dsimp only at hSw); go_simp; try with_reducible rfl)
  change wpAnyH _ _ _ _ _ _ _ (Act.put _ (some 45) _) _
  simp only [Act.put, List.setIfInBounds_toArray, List.set_cons_zero, List.set_cons_succ]
  refine wpAnyH_take (i := 33) (v := ?v33) rfl (by kernel_rfl) (by kernel_rfl) (by kernel_rfl) (fun _ _ _ h => h) (Or.inl ⟨by rfl, ?y33⟩) (by assumption) ?r33
  case y33 => (intro w hSw; (try dsimp only at hSw); go_simp; try with_reducible rfl)
  change wpAnyH _ _ _ _ _ _ _ (Act.put _ (some 46) _) _
  simp only [Act.put, List.setIfInBounds_toArray, List.set_cons_zero, List.set_cons_succ]
  refine wpAnyH_take (i := 34) (v := ?v34) rfl (by kernel_rfl) (by kernel_rfl) (by kernel_rfl) (fun _ _ _ h => h) (Or.inl ⟨by rfl, ?y34⟩) (by assumption) ?r34
  case y34 => (intro w hSw; (try dsimp only at hSw); go_simp; try with_reducible rfl)
  change wpAnyH _ _ _ _ _ _ _ (Act.put _ (some 47) _) _
  simp only [Act.put, List.setIfInBounds_toArray, List.set_cons_zero, List.set_cons_succ]
  refine wpAnyH_take (i := 35) (v := ?v35) rfl (by kernel_rfl) (by kernel_rfl) (by kernel_rfl) (fun _ _ _ h => h) (Or.inl ⟨by rfl, ?y35⟩) (by assumption) ?r35
  case y35 => (intro w hSw; (try dsimp only at hSw); go_simp; try with_reducible rfl)
  change wpAnyH _ _ _ _ _ _ _ (Act.put _ (some 48) _) _
  simp only [Act.put, List.setIfInBounds_toArray, List.set_cons_zero, List.set_cons_succ]
  refine wpAnyH_take (i := 36) (v := ?v36) rfl (by kernel_rfl) (by kernel_rfl) (by kernel_rfl) (fun _ _ _ h => h) (Or.inl ⟨by rfl, ?y36⟩) (by assumption) ?r36
  case y36 => (intro w hSw; (try dsimp only at hSw); go_simp; try with_reducible rfl)
  change wpAnyH _ _ _ _ _ _ _ (Act.put _ (some 49) _) _
  simp only [Act.put, List.setIfInBounds_toArray, List.set_cons_zero, List.set_cons_succ]
  refine wpAnyH_take (i := 37) (v := ?v37) rfl (by kernel_rfl) (by kernel_rfl) (by kernel_rfl) (fun _ _ _ h => h) (Or.inl ⟨by rfl, ?y37⟩) (by assumption) ?r37
  case y37 => (intro w hSw; (try dsimp only at hSw); go_simp; try with_reducible rfl)
  change wpAnyH _ _ _ _ _ _ _ (Act.put _ (some 50) _) _
  simp only [Act.put, List.setIfInBounds_toArray, List.set_cons_zero, List.set_cons_succ]
  refine wpAnyH_done (by kernel_rfl) ?_ _
  all_goals
    clear HH HC HIN W1 hzd hld hzMd
    replace HX := Lib.hid (HX.out.step HZ1.out)
    replace HTw := Lib.hid (HTw.out.step HZ1.out)
    have HSI : Hid (SI w.heap.size v1 (some ⟨bz, oz, none⟩) lo hi zs) := Lib.hid (.inl ⟨HI.out.step HZ1.out, hhi⟩)
    replace HRw := Lib.hid (pastA HRw.out (Past.of_below HZ1.out))
    have HB1 := Lib.hid HX.out.below
    clear HX HI HZ1
    have x0 := HTw.out.c0
    have x1 := HTw.out.c1
    generalize hv0 : (Value.slice (some ⟨w.heap.size + 1, 0, none⟩) 0 0) = v0 at HRw ⊢
    clear hv0
    go_wp2_with fail
    refine (HND.out v1).mono ?_
    rintro e w2 ⟨gn, cn, rfl, hgn, hon, hb⟩
    have hn2 := HTw.out.lt
    have HW0 : Hid (WP w w.heap.size gn M (j : Int) lie zs 0 (some ⟨bz, oz, none⟩) c lo hi v0 w2) := Lib.hid ⟨HTw.out.step hb, HSI.out.step hb, hon, pastA HRw.out (Past.of_below hb), below_trans HB1.out hb⟩
    have hgn1 : w.heap.size < gn := by omega
    clear hb hon HND HTw HSI HRw HB1 x0 x1
    go_wp2_with fail
    go_loopg [8] (massL M zs) (fun g v wr => ∃ (i : Nat) (A' : Option Addr) (c' lo' hi' : Nat), g = massL M (pSt M (j : Int) lie zs i) ∧ i + g ≤ 10 ∧ Hid (WP w w.heap.size gn M (j : Int) lie zs i A' c' lo' hi' v wr))
    case atStart => exact ⟨0, _, c, lo, hi, rfl, by omega, HW0⟩
    case round =>
      clear HW0
      obtain ⟨i, A', c', lo', hi', hg, hi10, HW⟩ := hrel
      rename World => w5
      have HSi := Lib.hid (pSt_short (x := (j : Int)) (lie := lie) HSH.out i)
      have HBX := Lib.hid HW.out.bx
      have HSI := Lib.hid HW.out.si
      have HNd := Lib.hid HW.out.nd
      have HRow := Lib.hid HW.out.row
      have HBl := Lib.hid HW.out.bl
      have HDn := fun W h => l6Done_any A' c' lo' hi' (pSt M (j : Int) lie zs i) (M : Int) W h (by rw [HSi.out.2]; omega)
      rw [HSi.out.2] at HDn
      have HDn := Lib.hid HDn
      have x0 := HBX.out.c0
      have x1 := HBX.out.c1
      obtain ⟨Av, cv, rfl⟩ := ownsRow_sliceA HRow.out
      clear HW
      cases hdn : doneL (pSt M (j : Int) lie zs i) with
      | true =>
        have HE := Lib.hid (play_end hdn (show i ≤ 10 by omega)).2
        rw [hdn] at HDn
        rw [HE.out, HP.out] at HRow ⊢
        have hend := HEND.out
        clear hdn HE HP
        go_wp2_with fail
        refine (HDn.out w5 HSI.out.ins).mono ?_
        rintro e w6 ⟨rfl, hb⟩
        replace HRow := Lib.hid (baseA (pastA HRow.out (Past.of_below hb)) (Nat.le_succ _))
        replace HBl := Lib.hid (below_trans HBl.out hb)
        clear hb
        have hend2 : ¬ (P.length : Int) ≤ lie := by omega
        have hendd := decide_eq_false hend2
        go_wp2
        go_ret2
        exact ⟨_, rfl, HRow.out, HBl.out⟩
      | false =>
        rw [hdn] at HDn
        have hpi := plan_in HSi.out.1 hdn
        have hsp := span_bd HSi.out.1
        have hlen := HSi.out.2
        have hk12 : (planS M (pSt M (j : Int) lie zs i)).2 ≤ 12 := by omega
        have HBs := fun g2 c2 W h h2 => l6Best_any A' c' lo' hi' (pSt M (j : Int) lie zs i) M (some ⟨g2, 0, none⟩) c2 g2 (g2 + 1) W h h2 HSi.out.1 hdn
        have HAf := fun W y h => l6After_any A' c' lo' hi' (pSt M (j : Int) lie zs i) M (planS M (pSt M (j : Int) lie zs i)).2 y W h HSi.out.1 hk12
        rw [hlen] at HBs HAf
        have HBs := Lib.hid HBs
        have HAf := Lib.hid HAf
        have HMS := Lib.hid (pSt_mass (x := (j : Int)) (lie := lie) HSH.out hdn)
        have HN1 := Lib.hid (pSt_next hdn)
        have HNL := Lib.hid (pL_next hdn)
        have hwl := pL_len M (j : Int) lie zs i
        have HY : Hid (yesP M (j : Int) lie (pSt M (j : Int) lie zs i) (pL M (j : Int) lie zs i).length = (decide ((j : Int) < ((planS M (pSt M (j : Int) lie zs i)).2 : Int)) != decide (((pL M (j : Int) lie zs i).length : Int) = lie))) := Lib.hid rfl
        rw [HY.out] at HN1 HNL
        clear hdn hpi hsp hlen HY
        generalize hn : (pL M (j : Int) lie zs i).length = n at HNL HN1 HRow hwl ⊢
        generalize hpb2 : (planS M (pSt M (j : Int) lie zs i)).2 = pb at HBs HAf hk12 HN1 HNL ⊢
        clear hpb2
        have hp := pow_le pb hk12
        generalize htop : (M + 2) ^ zs.length = top at HBs ⊢
        have HTP := Lib.hid htop
        clear htop
        go_wp2_with fail
        refine (HDn.out w5 HSI.out.ins).mono ?_
        rintro e w6 ⟨rfl, hb⟩
        replace HBX := Lib.hid (HBX.out.step hb)
        replace HSI := Lib.hid (HSI.out.step hb)
        replace HNd := Lib.hid (own_same HNd.out (hb.block _ (own_lt HNd.out)))
        replace HRow := Lib.hid (pastA HRow.out (Past.of_below hb))
        replace HBl := Lib.hid (below_trans HBl.out hb)
        clear hb HDn x0 x1
        have x0 := HBX.out.c0
        have x1 := HBX.out.c1
        go_wp2_with fail
        refine (HBs.out gn cn w6 HSI.out.ins (own_insB HNd.out)).mono ?_
        rintro e w7 ⟨rfl, hb⟩
        replace HBX := Lib.hid (HBX.out.step hb)
        replace HSI := Lib.hid (HSI.out.step hb)
        replace HNd := Lib.hid (own_same HNd.out (hb.block _ (own_lt HNd.out)))
        replace HRow := Lib.hid (pastA HRow.out (Past.of_below hb))
        replace HBl := Lib.hid (below_trans HBl.out hb)
        clear hb HBs x0 x1
        go_upto_region 8 with fail
        have hn10 : n ≤ 10 := by omega
        have HNn := Lib.hid hn
        have HHg := Lib.hid hg
        have HHi := Lib.hid hi10
        have hye : (decide ((j : Int) < (pb : Int)) != decide ((n : Int) = lie)) = !(decide (j < pb) == ((n : Int) == lie)) := by
          have h1 : decide ((j : Int) < (pb : Int)) = decide (j < pb) := by simp
          have h2 : ((n : Int) == lie) = decide ((n : Int) = lie) := rfl
          rw [h1, h2]
          cases decide (j < pb) <;> cases decide ((n : Int) = lie) <;> rfl
        rw [hye] at HN1 HNL
        clear hn hg hi10 hwl hye
        generalize (!(decide (j < pb) == ((n : Int) == lie))) = y at HN1 HNL ⊢
        generalize Value.slice Av n cv = vv at HRow ⊢
        have hbx := (Below.refl w7.heap.size w7).alloc (Nat.le_refl _) (.cells #[.int .i64 ((2 : Int) ^ pb - 1), .bool y] 72)
        have hown := HRow.out
        have hB9 := HBX.out.lt
        go_upto_region 9 with (at_builtin; refine wpList_append_own _ rfl (.tmp 72) (.tmp 78) 41 rfl (w.heap.size + 1) 72 i0 (.agg #[.int .i64 0, .bool false]) 2 16 Try.underlying41 hi0 hz00 hz1 hz2 rfl (by decide) _ _ _ rfl (hown.alloc _) ⟨w7.heap.size, 0, none⟩ 1 1 [.int .i64 ((2 : Int) ^ pb - 1), .bool y] rfl rfl (cell_two_new _ _ _ _) (by simp [Value.oneCell']) (by unfold maxLen; omega) (by omega) (by simp; omega) ?_; intro v' w10 hown' hgrow _)
        have HRow9 := Lib.hid (askd_snoc6 hown' HNn.out.symm)
        have hpst := pastGrownA hown hgrow
        replace HBX := Lib.hid (grown_twoA hown HBX.out (by decide) hgrow)
        replace HSI := Lib.hid (HSI.out.grownQ hown hgrow)
        replace HNd := Lib.hid (grown_ownA hown HNd.out (by decide) hgrow)
        replace HBl := Lib.hid (HBl.out.trans (hpst.below (Nat.le_succ _) HBl.out.size))
        rw [← HNL.out] at HRow9
        clear hpst hown' hgrow hown HRow hbx
        have x0 := HBX.out.c0
        have x1 := HBX.out.c1
        go_wp2_with fail
        refine (HAf.out w10 y HSI.out.ins).mono ?_
        rintro e w11 ⟨g9, c9, rfl, hg9, ho9, hb⟩
        replace HBX := Lib.hid (HBX.out.step hb)
        replace HNd := Lib.hid (own_same HNd.out (hb.block _ (own_lt HNd.out)))
        replace HRow9 := Lib.hid (pastA HRow9.out (Past.of_below hb))
        replace HBl := Lib.hid (below_trans HBl.out hb)
        have HO9 : Hid (Own w11 g9 (g9 + 1) (some ⟨g9, 0, none⟩) (pSt M (j : Int) lie zs (i + 1))) := Lib.hid (by rw [HN1.out]; exact ho9)
        clear hb ho9 x0 x1 HAf HSI
        have x0 := HBX.out.c0
        have x1 := HBX.out.c1
        have x2 := HBX.out.f0
        have x3 := HBX.out.f1
        obtain ⟨hs1, hw1⟩ := stored2 HBX.out.row (.slice (some ⟨g9, 0, none⟩) zs.length c9) (.int .i64 (M : Int))
        have hng : g9 ≠ w.heap.size := own_two_ne HO9.out HBX.out
        have HWf : Hid (WP w w.heap.size gn M (j : Int) lie zs (i + 1) (some ⟨g9, 0, none⟩) c9 g9 (g9 + 1) v' ((w11.setCell ⟨w.heap.size, 0, none⟩ (.slice (some ⟨g9, 0, none⟩) zs.length c9)).setCell ⟨w.heap.size, 1, none⟩ (.int .i64 (M : Int)))) := Lib.hid ⟨⟨hs1⟩, .inr ⟨g9, rfl, rfl, rfl, own_same HO9.out (hw1.block g9 (own_lt HO9.out) (by omega))⟩, own_same HNd.out (hw1.block gn (own_lt HNd.out) (.inr (by omega))), row_twoA HRow9.out HBX.out (by decide) hw1, HBl.out.trans (hw1.below (Nat.le_refl _) HBl.out.size)⟩
        clear hs1 hw1 HO9 HNd HRow9 HBX HBl HN1 HNL
        go_wp2
        have htp := HTP.out
        clear HTP
        subst htp
        go_roundg (massL M (pSt M (j : Int) lie zs (i + 1)))
        case measure => have := HMS.out; have := HHg.out; omega
        case rel => exact ⟨i + 1, _, _, _, _, rfl, by have := HMS.out; have := HHg.out; have := HHi.out; omega, HWf⟩
set_option maxRecDepth 100000 in
set_option maxHeartbeats 16000000 in
theorem lessPlay_spast (x lie : Int) (A : Option Addr) (c lo hi : Nat) (zs : List Int) (M : Nat) (w : World) (hS : Ins w lo hi A zs) (hs : Short M zs) (j : Nat) (hj : x = (j : Int)) (hjl : j < zs.length) (z : Int) (hz : zs[j] = z) (hz0 : ¬ z < 0) (hlo : ¬ lie < -1) (hl0 : 0 ≤ lie) (hzM : ¬ (M : Int) ≤ z) (hend : ((pL M x lie zs 10).length : Int) ≤ lie) :
    Calls Try.prog 19 #[.agg #[.slice A zs.length c, .int .i64 (M : Int)], .int .i64 x, .int .i64 lie] w fun e w' => ∃ B c', e = .returned (.tuple #[.slice B ([] : List (Int × Bool)).length c', .bool false]) ∧ AMade w' w.heap.size w'.heap.size B ([] : List (Int × Bool)) ∧ Below w.heap.size w w' := by
  obtain ⟨i0, hi0, hz00, hz1, hz2⟩ := info_parts infoA
  have hhi := hS.top
  obtain ⟨bz, oz, hA, _, hbz, hcz⟩ := hS.ints.at_ hjl
  subst hA
  rw [hz] at hcz
  have HX1 := Lib.hid (Arg.next (Below.refl w.heap.size w) (.slice (some ⟨bz, oz, none⟩) zs.length c) (.int .i64 (M : Int)) 44 w.heap.size rfl)
  have HT1 := Lib.hid (Two.new w (.slice (some ⟨bz, oz, none⟩) zs.length c) (.int .i64 (M : Int)) 44 w.heap.size rfl)
  have hba := (Below.refl _ (w.alloc (.cells #[.slice (some ⟨bz, oz, none⟩) zs.length c, .int .i64 (M : Int)] 44))).alloc (Nat.le_refl _) (.cells #[] 72)
  have HRw := Lib.hid (A0_any (w.alloc (.cells #[.slice (some ⟨bz, oz, none⟩) zs.length c, .int .i64 (M : Int)] 44)) (w.heap.size + 1) (by simp))
  have hsm : (w.alloc (.cells #[.slice (some ⟨bz, oz, none⟩) zs.length c, .int .i64 (M : Int)] 44)).heap.size = w.heap.size + 1 := by simp
  rw [hsm] at HRw
  have HX := Lib.hid (HX1.out.step hba)
  have HTw := Lib.hid (HT1.out.step hba)
  have HI := Lib.hid (hS.step HX.out.below)
  have HH := Lib.hid (fun W h => l6Short_any (some ⟨bz, oz, none⟩) c lo hi zs (M : Int) W h (by have := hs.len; omega))
  rw [shortB_iff.2 ⟨M, rfl, hs⟩] at HH
  have HND := Lib.hid (fun W => l6Needs_any zs.length M W hs.m hs.pos hs.len)
  have HSH := Lib.hid hs
  have hl5 := hs.len
  have hl1 := hs.pos
  have hmm := hs.m
  have W1 : IntKind.i64.wrap ((zs.length : Int) - 1) = (zs.length : Int) - 1 := IntWalk.i64_in _ (by omega)
  subst hj
  have HIN := Lib.hid (fun W => l1In_any (j : Int) 0 ((zs.length : Int) - 1) W)
  rw [show inB (j : Int) 0 ((zs.length : Int) - 1) = true from inB_iff.2 ⟨by omega, by omega⟩] at HIN
  generalize hP : pL M (j : Int) lie zs 10 = P at hend ⊢
  have HP := Lib.hid hP
  have HEND := Lib.hid hend
  clear hP
  have HC : Hid (∀ W', Below ((w.alloc (.cells #[.slice (some ⟨bz, oz, none⟩) zs.length c, .int .i64 (M : Int)] 44)).alloc (.cells #[] 72)).heap.size ((w.alloc (.cells #[.slice (some ⟨bz, oz, none⟩) zs.length c, .int .i64 (M : Int)] 44)).alloc (.cells #[] 72)) W' → W'.cell? ⟨bz, oz + j, none⟩ = some (.int .i64 z)) := Lib.hid (fun W' h => (World.cell?_of_block ((below_trans HX.out.below h).block bz (Nat.lt_of_lt_of_le hbz hhi))).trans hcz)
  have HM10 := mass_ten hs
  clear hcz hbz hz hS hba HX1 HT1 hs hend hsm
  have hj0 : (0 : Int) ≤ (j : Int) := by omega
  have hjn : (j : Int) < (zs.length : Int) := by omega
  have hzd := decide_eq_false hz0
  have hld := decide_eq_false hlo
  have hzMd := decide_eq_false hzM
  go_enter Try.func19, Try.ntmps19
  go_wp2_with fail
  generalize (w.alloc (.cells #[.slice (some ⟨bz, oz, none⟩) zs.length c, .int .i64 (M : Int)] 44)).alloc (.cells #[] 72) = w0 at HX HTw HI HRw HC ⊢
  refine wp_region_held_drew (S := fun w' => w'.cell? ⟨w.heap.size, 0, none⟩ = some (.slice (some ⟨bz, oz, none⟩) zs.length c) ∧ w'.cell? ⟨w.heap.size, 1, none⟩ = some (.int .i64 (M : Int)) ∧ w'.cell? ⟨bz, oz + j, none⟩ = some (.int .i64 z)) (by kernel_rfl) ?_ (fun hHeld => ?_)
  · (try dsimp only); exact ⟨(HX.out.step ((Below.refl _ w0).drew)).c0, (HX.out.step ((Below.refl _ w0).drew)).c1, HC.out _ ((Below.refl _ w0).drew)⟩
  refine wpAnyH_take (i := 0) (v := ?v0) rfl (by kernel_rfl) (by kernel_rfl) (by kernel_rfl) (fun _ _ _ h => h) (Or.inl ⟨by rfl, ?y0⟩) (by assumption) ?r0
  case y0 => (intro w hSw; (try dsimp only at hSw); go_simp; try with_reducible rfl)
  change wpAnyH _ _ _ _ _ _ _ (Act.put _ (some 13) _) _
  simp only [Act.put, List.setIfInBounds_toArray, List.set_cons_zero, List.set_cons_succ]
  refine wpAnyH_ready (rs := [1]) (by kernel_rfl) (by simp) ?_
  refine AllReadyH.cons rfl (fun K hK => ?_) AllReadyH.nil
  go_simp
  (go_at_call 44; refine (HH.out _ (HI.out.step (Below.refl _ w0).drew)).mono ?_; rintro e v1 ⟨rfl, hb⟩; have HZ1 := Lib.hid (below_trans (Below.refl _ w0).drew hb); clear hb)
  skip
  refine hK.out _ _ ?_ (fun hHeld => ?_)
  · (try dsimp only); exact ⟨(HX.out.step (HZ1.out)).c0, (HX.out.step (HZ1.out)).c1, HC.out _ (HZ1.out)⟩
  clear hK K
  try change wpAnyH _ _ _ _ _ _ _ (Act.put _ (some 14) _) _
  try simp only [Act.put, List.setIfInBounds_toArray, List.set_cons_zero, List.set_cons_succ]
  refine wpAnyH_take (i := 2) (v := ?v2) rfl (by kernel_rfl) (by kernel_rfl) (by kernel_rfl) (fun _ _ _ h => h) (Or.inl ⟨by rfl, ?y2⟩) (by assumption) ?r2
  case y2 => (intro w hSw; (try dsimp only at hSw); go_simp; try with_reducible rfl)
  change wpAnyH _ _ _ _ _ _ _ (Act.put _ (some 15) _) _
  simp only [Act.put, List.setIfInBounds_toArray, List.set_cons_zero, List.set_cons_succ]
  refine wpAnyH_take (i := 3) (v := ?v3) rfl (by kernel_rfl) (by kernel_rfl) (by kernel_rfl) (fun _ _ _ h => h) (Or.inl ⟨by rfl, ?y3⟩) (by assumption) ?r3
  case y3 => (intro w hSw; (try dsimp only at hSw); go_simp; try with_reducible rfl)
  change wpAnyH _ _ _ _ _ _ _ (Act.put _ (some 16) _) _
  simp only [Act.put, List.setIfInBounds_toArray, List.set_cons_zero, List.set_cons_succ]
  refine wpAnyH_take (i := 4) (v := ?v4) rfl (by kernel_rfl) (by kernel_rfl) (by kernel_rfl) (fun _ _ _ h => h) (Or.inl ⟨by rfl, ?y4⟩) (by assumption) ?r4
  case y4 => (intro w hSw; (try dsimp only at hSw); go_simp; try with_reducible rfl)
  change wpAnyH _ _ _ _ _ _ _ (Act.put _ (some 17) _) _
  simp only [Act.put, List.setIfInBounds_toArray, List.set_cons_zero, List.set_cons_succ]
  refine wpAnyH_take (i := 5) (v := ?v5) rfl (by kernel_rfl) (by kernel_rfl) (by kernel_rfl) (fun _ _ _ h => h) (Or.inl ⟨by rfl, ?y5⟩) (by assumption) ?r5
  case y5 => (intro w hSw; (try dsimp only at hSw); go_simp; try with_reducible rfl)
  change wpAnyH _ _ _ _ _ _ _ (Act.put _ (some 18) _) _
  simp only [Act.put, List.setIfInBounds_toArray, List.set_cons_zero, List.set_cons_succ]
  refine wpAnyH_take (i := 6) (v := ?v6) rfl (by kernel_rfl) (by kernel_rfl) (by kernel_rfl) (fun _ _ _ h => h) (Or.inl ⟨by rfl, ?y6⟩) (by assumption) ?r6
  case y6 => (intro w hSw; (try dsimp only at hSw); go_simp; try with_reducible rfl)
  change wpAnyH _ _ _ _ _ _ _ (Act.put _ (some 19) _) _
  simp only [Act.put, List.setIfInBounds_toArray, List.set_cons_zero, List.set_cons_succ]
  refine wpAnyH_take (i := 7) (v := ?v7) rfl (by kernel_rfl) (by kernel_rfl) (by kernel_rfl) (fun _ _ _ h => h) (Or.inl ⟨by rfl, ?y7⟩) (by assumption) ?r7
  case y7 => (intro w hSw; (try dsimp only at hSw); go_simp; try with_reducible rfl)
  change wpAnyH _ _ _ _ _ _ _ (Act.put _ (some 20) _) _
  simp only [Act.put, List.setIfInBounds_toArray, List.set_cons_zero, List.set_cons_succ]
  refine wpAnyH_take (i := 8) (v := ?v8) rfl (by kernel_rfl) (by kernel_rfl) (by kernel_rfl) (fun _ _ _ h => h) (Or.inl ⟨by rfl, ?y8⟩) (by assumption) ?r8
  case y8 => (intro w hSw; (try dsimp only at hSw); go_simp; try with_reducible rfl)
  change wpAnyH _ _ _ _ _ _ _ (Act.put _ (some 21) _) _
  simp only [Act.put, List.setIfInBounds_toArray, List.set_cons_zero, List.set_cons_succ]
  refine wpAnyH_ready (rs := [9]) (by kernel_rfl) (by simp) ?_
  refine AllReadyH.cons rfl (fun K hK => ?_) AllReadyH.nil
  go_simp
  (go_at_call 45; refine (HIN.out _).mono ?_; rintro e v2 ⟨rfl, hww⟩; have hww := hww.symm; subst hww)
  skip
  refine hK.out _ _ ?_ (fun hHeld => ?_)
  · (try dsimp only); exact ⟨(HX.out.step (HZ1.out)).c0, (HX.out.step (HZ1.out)).c1, HC.out _ (HZ1.out)⟩
  clear hK K
  try change wpAnyH _ _ _ _ _ _ _ (Act.put _ (some 22) _) _
  try simp only [Act.put, List.setIfInBounds_toArray, List.set_cons_zero, List.set_cons_succ]
  refine wpAnyH_take (i := 10) (v := ?v10) rfl (by kernel_rfl) (by kernel_rfl) (by kernel_rfl) (fun _ _ _ h => h) (Or.inl ⟨by rfl, ?y10⟩) (by assumption) ?r10
  case y10 => (intro w hSw; (try dsimp only at hSw); go_simp; try with_reducible rfl)
  change wpAnyH _ _ _ _ _ _ _ (Act.put _ (some 23) _) _
  simp only [Act.put, List.setIfInBounds_toArray, List.set_cons_zero, List.set_cons_succ]
  refine wpAnyH_take (i := 11) (v := ?v11) rfl (by kernel_rfl) (by kernel_rfl) (by kernel_rfl) (fun _ _ _ h => h) (Or.inl ⟨by rfl, ?y11⟩) (by assumption) ?r11
  case y11 => (intro w hSw; (try dsimp only at hSw); go_simp; try with_reducible rfl)
  change wpAnyH _ _ _ _ _ _ _ (Act.put _ (some 24) _) _
  simp only [Act.put, List.setIfInBounds_toArray, List.set_cons_zero, List.set_cons_succ]
  refine wpAnyH_take (i := 12) (v := ?v12) rfl (by kernel_rfl) (by kernel_rfl) (by kernel_rfl) (fun _ _ _ h => h) (Or.inl ⟨by rfl, ?y12⟩) (by assumption) ?r12
  case y12 => (intro w hSw; (try dsimp only at hSw); go_simp; try with_reducible rfl)
  change wpAnyH _ _ _ _ _ _ _ (Act.put _ (some 25) _) _
  simp only [Act.put, List.setIfInBounds_toArray, List.set_cons_zero, List.set_cons_succ]
  refine wpAnyH_take (i := 13) (v := ?v13) rfl (by kernel_rfl) (by kernel_rfl) (by kernel_rfl) (fun _ _ _ h => h) (Or.inl ⟨by rfl, ?y13⟩) (by assumption) ?r13
  case y13 => (intro w hSw; (try dsimp only at hSw); go_simp; try with_reducible rfl)
  change wpAnyH _ _ _ _ _ _ _ (Act.put _ (some 26) _) _
  simp only [Act.put, List.setIfInBounds_toArray, List.set_cons_zero, List.set_cons_succ]
  refine wpAnyH_take (i := 14) (v := ?v14) rfl (by kernel_rfl) (by kernel_rfl) (by kernel_rfl) (fun _ _ _ h => h) (Or.inl ⟨by rfl, ?y14⟩) (by assumption) ?r14
  case y14 => (intro w hSw; (try dsimp only at hSw); go_simp; try with_reducible rfl)
  change wpAnyH _ _ _ _ _ _ _ (Act.put _ (some 27) _) _
  simp only [Act.put, List.setIfInBounds_toArray, List.set_cons_zero, List.set_cons_succ]
  refine wpAnyH_take (i := 15) (v := ?v15) rfl (by kernel_rfl) (by kernel_rfl) (by kernel_rfl) (fun _ _ _ h => h) (Or.inl ⟨by rfl, ?y15⟩) (by assumption) ?r15
  case y15 => (intro w hSw; (try dsimp only at hSw); go_simp; try with_reducible rfl)
  change wpAnyH _ _ _ _ _ _ _ (Act.put _ (some 28) _) _
  simp only [Act.put, List.setIfInBounds_toArray, List.set_cons_zero, List.set_cons_succ]
  refine wpAnyH_take (i := 16) (v := ?v16) rfl (by kernel_rfl) (by kernel_rfl) (by kernel_rfl) (fun _ _ _ h => h) (Or.inl ⟨by rfl, ?y16⟩) (by assumption) ?r16
  case y16 => (intro w hSw; (try dsimp only at hSw); go_simp; try with_reducible rfl)
  change wpAnyH _ _ _ _ _ _ _ (Act.put _ (some 29) _) _
  simp only [Act.put, List.setIfInBounds_toArray, List.set_cons_zero, List.set_cons_succ]
  refine wpAnyH_take (i := 17) (v := ?v17) rfl (by kernel_rfl) (by kernel_rfl) (by kernel_rfl) (fun _ _ _ h => h) (Or.inl ⟨by rfl, ?y17⟩) (by assumption) ?r17
  case y17 => (intro w hSw; (try dsimp only at hSw); go_simp; try with_reducible rfl)
  change wpAnyH _ _ _ _ _ _ _ (Act.put _ (some 30) _) _
  simp only [Act.put, List.setIfInBounds_toArray, List.set_cons_zero, List.set_cons_succ]
  refine wpAnyH_take (i := 18) (v := ?v18) rfl (by kernel_rfl) (by kernel_rfl) (by kernel_rfl) (fun _ _ _ h => h) (Or.inl ⟨by rfl, ?y18⟩) (by assumption) ?r18
  case y18 => (intro w hSw; (try dsimp only at hSw); go_simp; try with_reducible rfl)
  change wpAnyH _ _ _ _ _ _ _ (Act.put _ (some 31) _) _
  simp only [Act.put, List.setIfInBounds_toArray, List.set_cons_zero, List.set_cons_succ]
  refine wpAnyH_take (i := 19) (v := ?v19) rfl (by kernel_rfl) (by kernel_rfl) (by kernel_rfl) (fun _ _ _ h => h) (Or.inl ⟨by rfl, ?y19⟩) (by assumption) ?r19
  case y19 => (intro w hSw; (try dsimp only at hSw); go_simp; try with_reducible rfl)
  change wpAnyH _ _ _ _ _ _ _ (Act.put _ (some 32) _) _
  simp only [Act.put, List.setIfInBounds_toArray, List.set_cons_zero, List.set_cons_succ]
  refine wpAnyH_take (i := 20) (v := ?v20) rfl (by kernel_rfl) (by kernel_rfl) (by kernel_rfl) (fun _ _ _ h => h) (Or.inl ⟨by rfl, ?y20⟩) (by assumption) ?r20
  case y20 => (intro w hSw; (try dsimp only at hSw); go_simp; try with_reducible rfl)
  change wpAnyH _ _ _ _ _ _ _ (Act.put _ (some 33) _) _
  simp only [Act.put, List.setIfInBounds_toArray, List.set_cons_zero, List.set_cons_succ]
  refine wpAnyH_take (i := 21) (v := ?v21) rfl (by kernel_rfl) (by kernel_rfl) (by kernel_rfl) (fun _ _ _ h => h) (Or.inl ⟨by rfl, ?y21⟩) (by assumption) ?r21
  case y21 => (intro w hSw; (try dsimp only at hSw); go_simp; try with_reducible rfl)
  change wpAnyH _ _ _ _ _ _ _ (Act.put _ (some 34) _) _
  simp only [Act.put, List.setIfInBounds_toArray, List.set_cons_zero, List.set_cons_succ]
  refine wpAnyH_take (i := 22) (v := ?v22) rfl (by kernel_rfl) (by kernel_rfl) (by kernel_rfl) (fun _ _ _ h => h) (Or.inl ⟨by rfl, ?y22⟩) (by assumption) ?r22
  case y22 => (intro w hSw; (try dsimp only at hSw); go_simp; try with_reducible rfl)
  change wpAnyH _ _ _ _ _ _ _ (Act.put _ (some 35) _) _
  simp only [Act.put, List.setIfInBounds_toArray, List.set_cons_zero, List.set_cons_succ]
  refine wpAnyH_take (i := 23) (v := ?v23) rfl (by kernel_rfl) (by kernel_rfl) (by kernel_rfl) (fun _ _ _ h => h) (Or.inl ⟨by rfl, ?y23⟩) (by assumption) ?r23
  case y23 => (intro w hSw; (try dsimp only at hSw); go_simp; try with_reducible rfl)
  change wpAnyH _ _ _ _ _ _ _ (Act.put _ (some 36) _) _
  simp only [Act.put, List.setIfInBounds_toArray, List.set_cons_zero, List.set_cons_succ]
  refine wpAnyH_take (i := 24) (v := ?v24) rfl (by kernel_rfl) (by kernel_rfl) (by kernel_rfl) (fun _ _ _ h => h) (Or.inl ⟨by rfl, ?y24⟩) (by assumption) ?r24
  case y24 => (intro w hSw; (try dsimp only at hSw); go_simp; try with_reducible rfl)
  change wpAnyH _ _ _ _ _ _ _ (Act.put _ (some 37) _) _
  simp only [Act.put, List.setIfInBounds_toArray, List.set_cons_zero, List.set_cons_succ]
  refine wpAnyH_take (i := 25) (v := ?v25) rfl (by kernel_rfl) (by kernel_rfl) (by kernel_rfl) (fun _ _ _ h => h) (Or.inl ⟨by rfl, ?y25⟩) (by assumption) ?r25
  case y25 => (intro w hSw; (try dsimp only at hSw); go_simp; try with_reducible rfl)
  change wpAnyH _ _ _ _ _ _ _ (Act.put _ (some 38) _) _
  simp only [Act.put, List.setIfInBounds_toArray, List.set_cons_zero, List.set_cons_succ]
  refine wpAnyH_take (i := 26) (v := ?v26) rfl (by kernel_rfl) (by kernel_rfl) (by kernel_rfl) (fun _ _ _ h => h) (Or.inl ⟨by rfl, ?y26⟩) (by assumption) ?r26
  case y26 => (intro w hSw; (try dsimp only at hSw); go_simp; try with_reducible rfl)
  change wpAnyH _ _ _ _ _ _ _ (Act.put _ (some 39) _) _
  simp only [Act.put, List.setIfInBounds_toArray, List.set_cons_zero, List.set_cons_succ]
  refine wpAnyH_take (i := 27) (v := ?v27) rfl (by kernel_rfl) (by kernel_rfl) (by kernel_rfl) (fun _ _ _ h => h) (Or.inl ⟨by rfl, ?y27⟩) (by assumption) ?r27
  case y27 => (intro w hSw; (try dsimp only at hSw); go_simp; try with_reducible rfl)
  change wpAnyH _ _ _ _ _ _ _ (Act.put _ (some 40) _) _
  simp only [Act.put, List.setIfInBounds_toArray, List.set_cons_zero, List.set_cons_succ]
  refine wpAnyH_take (i := 28) (v := ?v28) rfl (by kernel_rfl) (by kernel_rfl) (by kernel_rfl) (fun _ _ _ h => h) (Or.inl ⟨by rfl, ?y28⟩) (by assumption) ?r28
  case y28 => (intro w hSw; (try dsimp only at hSw); go_simp; try with_reducible rfl)
  change wpAnyH _ _ _ _ _ _ _ (Act.put _ (some 41) _) _
  simp only [Act.put, List.setIfInBounds_toArray, List.set_cons_zero, List.set_cons_succ]
  refine wpAnyH_take (i := 29) (v := ?v29) rfl (by kernel_rfl) (by kernel_rfl) (by kernel_rfl) (fun _ _ _ h => h) (Or.inl ⟨by rfl, ?y29⟩) (by assumption) ?r29
  case y29 => (intro w hSw; (try dsimp only at hSw); go_simp; try with_reducible rfl)
  change wpAnyH _ _ _ _ _ _ _ (Act.put _ (some 42) _) _
  simp only [Act.put, List.setIfInBounds_toArray, List.set_cons_zero, List.set_cons_succ]
  refine wpAnyH_take (i := 30) (v := ?v30) rfl (by kernel_rfl) (by kernel_rfl) (by kernel_rfl) (fun _ _ _ h => h) (Or.inl ⟨by rfl, ?y30⟩) (by assumption) ?r30
  case y30 => (intro w hSw; (try dsimp only at hSw); go_simp; try with_reducible rfl)
  change wpAnyH _ _ _ _ _ _ _ (Act.put _ (some 43) _) _
  simp only [Act.put, List.setIfInBounds_toArray, List.set_cons_zero, List.set_cons_succ]
  refine wpAnyH_take (i := 31) (v := ?v31) rfl (by kernel_rfl) (by kernel_rfl) (by kernel_rfl) (fun _ _ _ h => h) (Or.inl ⟨by rfl, ?y31⟩) (by assumption) ?r31
  case y31 => (intro w hSw; (try dsimp only at hSw); go_simp; try with_reducible rfl)
  change wpAnyH _ _ _ _ _ _ _ (Act.put _ (some 44) _) _
  simp only [Act.put, List.setIfInBounds_toArray, List.set_cons_zero, List.set_cons_succ]
  refine wpAnyH_take (i := 32) (v := ?v32) rfl (by kernel_rfl) (by kernel_rfl) (by kernel_rfl) (fun _ _ _ h => h) (Or.inl ⟨by rfl, ?y32⟩) (by assumption) ?r32
  case y32 => (intro w hSw; (try dsimp only at hSw); go_simp; try with_reducible rfl)
  change wpAnyH _ _ _ _ _ _ _ (Act.put _ (some 45) _) _
  simp only [Act.put, List.setIfInBounds_toArray, List.set_cons_zero, List.set_cons_succ]
  refine wpAnyH_take (i := 33) (v := ?v33) rfl (by kernel_rfl) (by kernel_rfl) (by kernel_rfl) (fun _ _ _ h => h) (Or.inl ⟨by rfl, ?y33⟩) (by assumption) ?r33
  case y33 => (intro w hSw; (try dsimp only at hSw); go_simp; try with_reducible rfl)
  change wpAnyH _ _ _ _ _ _ _ (Act.put _ (some 46) _) _
  simp only [Act.put, List.setIfInBounds_toArray, List.set_cons_zero, List.set_cons_succ]
  refine wpAnyH_take (i := 34) (v := ?v34) rfl (by kernel_rfl) (by kernel_rfl) (by kernel_rfl) (fun _ _ _ h => h) (Or.inl ⟨by rfl, ?y34⟩) (by assumption) ?r34
  case y34 => (intro w hSw; (try dsimp only at hSw); go_simp; try with_reducible rfl)
  change wpAnyH _ _ _ _ _ _ _ (Act.put _ (some 47) _) _
  simp only [Act.put, List.setIfInBounds_toArray, List.set_cons_zero, List.set_cons_succ]
  refine wpAnyH_take (i := 35) (v := ?v35) rfl (by kernel_rfl) (by kernel_rfl) (by kernel_rfl) (fun _ _ _ h => h) (Or.inl ⟨by rfl, ?y35⟩) (by assumption) ?r35
  case y35 => (intro w hSw; (try dsimp only at hSw); go_simp; try with_reducible rfl)
  change wpAnyH _ _ _ _ _ _ _ (Act.put _ (some 48) _) _
  simp only [Act.put, List.setIfInBounds_toArray, List.set_cons_zero, List.set_cons_succ]
  refine wpAnyH_take (i := 36) (v := ?v36) rfl (by kernel_rfl) (by kernel_rfl) (by kernel_rfl) (fun _ _ _ h => h) (Or.inl ⟨by rfl, ?y36⟩) (by assumption) ?r36
  case y36 => (intro w hSw; (try dsimp only at hSw); go_simp; try with_reducible rfl)
  change wpAnyH _ _ _ _ _ _ _ (Act.put _ (some 49) _) _
  simp only [Act.put, List.setIfInBounds_toArray, List.set_cons_zero, List.set_cons_succ]
  refine wpAnyH_take (i := 37) (v := ?v37) rfl (by kernel_rfl) (by kernel_rfl) (by kernel_rfl) (fun _ _ _ h => h) (Or.inl ⟨by rfl, ?y37⟩) (by assumption) ?r37
  case y37 => (intro w hSw; (try dsimp only at hSw); go_simp; try with_reducible rfl)
  change wpAnyH _ _ _ _ _ _ _ (Act.put _ (some 50) _) _
  simp only [Act.put, List.setIfInBounds_toArray, List.set_cons_zero, List.set_cons_succ]
  refine wpAnyH_done (by kernel_rfl) ?_ _
  all_goals
    clear HH HC HIN W1 hzd hld hzMd
    replace HX := Lib.hid (HX.out.step HZ1.out)
    replace HTw := Lib.hid (HTw.out.step HZ1.out)
    have HSI : Hid (SI w.heap.size v1 (some ⟨bz, oz, none⟩) lo hi zs) := Lib.hid (.inl ⟨HI.out.step HZ1.out, hhi⟩)
    replace HRw := Lib.hid (pastA HRw.out (Past.of_below HZ1.out))
    have HB1 := Lib.hid HX.out.below
    clear HX HI HZ1
    have x0 := HTw.out.c0
    have x1 := HTw.out.c1
    generalize hv0 : (Value.slice (some ⟨w.heap.size + 1, 0, none⟩) 0 0) = v0 at HRw ⊢
    clear hv0
    go_wp2_with fail
    refine (HND.out v1).mono ?_
    rintro e w2 ⟨gn, cn, rfl, hgn, hon, hb⟩
    have hn2 := HTw.out.lt
    have HW0 : Hid (WP w w.heap.size gn M (j : Int) lie zs 0 (some ⟨bz, oz, none⟩) c lo hi v0 w2) := Lib.hid ⟨HTw.out.step hb, HSI.out.step hb, hon, pastA HRw.out (Past.of_below hb), below_trans HB1.out hb⟩
    have hgn1 : w.heap.size < gn := by omega
    clear hb hon HND HTw HSI HRw HB1 x0 x1
    go_wp2_with fail
    go_loopg [8] (massL M zs) (fun g v wr => ∃ (i : Nat) (A' : Option Addr) (c' lo' hi' : Nat), g = massL M (pSt M (j : Int) lie zs i) ∧ i + g ≤ 10 ∧ Hid (WP w w.heap.size gn M (j : Int) lie zs i A' c' lo' hi' v wr))
    case atStart => exact ⟨0, _, c, lo, hi, rfl, by omega, HW0⟩
    case round =>
      clear HW0
      obtain ⟨i, A', c', lo', hi', hg, hi10, HW⟩ := hrel
      rename World => w5
      have HSi := Lib.hid (pSt_short (x := (j : Int)) (lie := lie) HSH.out i)
      have HBX := Lib.hid HW.out.bx
      have HSI := Lib.hid HW.out.si
      have HNd := Lib.hid HW.out.nd
      have HRow := Lib.hid HW.out.row
      have HBl := Lib.hid HW.out.bl
      have HDn := fun W h => l6Done_any A' c' lo' hi' (pSt M (j : Int) lie zs i) (M : Int) W h (by rw [HSi.out.2]; omega)
      rw [HSi.out.2] at HDn
      have HDn := Lib.hid HDn
      have x0 := HBX.out.c0
      have x1 := HBX.out.c1
      obtain ⟨Av, cv, rfl⟩ := ownsRow_sliceA HRow.out
      clear HW
      cases hdn : doneL (pSt M (j : Int) lie zs i) with
      | true =>
        have HE := Lib.hid (play_end hdn (show i ≤ 10 by omega)).2
        rw [hdn] at HDn
        rw [HE.out, HP.out] at HRow ⊢
        have hend := HEND.out
        clear hdn HE HP
        go_wp2_with fail
        refine (HDn.out w5 HSI.out.ins).mono ?_
        rintro e w6 ⟨rfl, hb⟩
        replace HRow := Lib.hid (baseA (pastA HRow.out (Past.of_below hb)) (Nat.le_succ _))
        replace HBl := Lib.hid (below_trans HBl.out hb)
        clear hb
        have hendd := decide_eq_true hend
        go_wp2
        go_ret2
        exact ⟨_, _, rfl, empty_madeA w6 w.heap.size HBl.out.size, HBl.out.alloc HBl.out.size _⟩
      | false =>
        rw [hdn] at HDn
        have hpi := plan_in HSi.out.1 hdn
        have hsp := span_bd HSi.out.1
        have hlen := HSi.out.2
        have hk12 : (planS M (pSt M (j : Int) lie zs i)).2 ≤ 12 := by omega
        have HBs := fun g2 c2 W h h2 => l6Best_any A' c' lo' hi' (pSt M (j : Int) lie zs i) M (some ⟨g2, 0, none⟩) c2 g2 (g2 + 1) W h h2 HSi.out.1 hdn
        have HAf := fun W y h => l6After_any A' c' lo' hi' (pSt M (j : Int) lie zs i) M (planS M (pSt M (j : Int) lie zs i)).2 y W h HSi.out.1 hk12
        rw [hlen] at HBs HAf
        have HBs := Lib.hid HBs
        have HAf := Lib.hid HAf
        have HMS := Lib.hid (pSt_mass (x := (j : Int)) (lie := lie) HSH.out hdn)
        have HN1 := Lib.hid (pSt_next hdn)
        have HNL := Lib.hid (pL_next hdn)
        have hwl := pL_len M (j : Int) lie zs i
        have HY : Hid (yesP M (j : Int) lie (pSt M (j : Int) lie zs i) (pL M (j : Int) lie zs i).length = (decide ((j : Int) < ((planS M (pSt M (j : Int) lie zs i)).2 : Int)) != decide (((pL M (j : Int) lie zs i).length : Int) = lie))) := Lib.hid rfl
        rw [HY.out] at HN1 HNL
        clear hdn hpi hsp hlen HY
        generalize hn : (pL M (j : Int) lie zs i).length = n at HNL HN1 HRow hwl ⊢
        generalize hpb2 : (planS M (pSt M (j : Int) lie zs i)).2 = pb at HBs HAf hk12 HN1 HNL ⊢
        clear hpb2
        have hp := pow_le pb hk12
        generalize htop : (M + 2) ^ zs.length = top at HBs ⊢
        have HTP := Lib.hid htop
        clear htop
        go_wp2_with fail
        refine (HDn.out w5 HSI.out.ins).mono ?_
        rintro e w6 ⟨rfl, hb⟩
        replace HBX := Lib.hid (HBX.out.step hb)
        replace HSI := Lib.hid (HSI.out.step hb)
        replace HNd := Lib.hid (own_same HNd.out (hb.block _ (own_lt HNd.out)))
        replace HRow := Lib.hid (pastA HRow.out (Past.of_below hb))
        replace HBl := Lib.hid (below_trans HBl.out hb)
        clear hb HDn x0 x1
        have x0 := HBX.out.c0
        have x1 := HBX.out.c1
        go_wp2_with fail
        refine (HBs.out gn cn w6 HSI.out.ins (own_insB HNd.out)).mono ?_
        rintro e w7 ⟨rfl, hb⟩
        replace HBX := Lib.hid (HBX.out.step hb)
        replace HSI := Lib.hid (HSI.out.step hb)
        replace HNd := Lib.hid (own_same HNd.out (hb.block _ (own_lt HNd.out)))
        replace HRow := Lib.hid (pastA HRow.out (Past.of_below hb))
        replace HBl := Lib.hid (below_trans HBl.out hb)
        clear hb HBs x0 x1
        go_upto_region 8 with fail
        have hn10 : n ≤ 10 := by omega
        have HNn := Lib.hid hn
        have HHg := Lib.hid hg
        have HHi := Lib.hid hi10
        have hye : (decide ((j : Int) < (pb : Int)) != decide ((n : Int) = lie)) = !(decide (j < pb) == ((n : Int) == lie)) := by
          have h1 : decide ((j : Int) < (pb : Int)) = decide (j < pb) := by simp
          have h2 : ((n : Int) == lie) = decide ((n : Int) = lie) := rfl
          rw [h1, h2]
          cases decide (j < pb) <;> cases decide ((n : Int) = lie) <;> rfl
        rw [hye] at HN1 HNL
        clear hn hg hi10 hwl hye
        generalize (!(decide (j < pb) == ((n : Int) == lie))) = y at HN1 HNL ⊢
        generalize Value.slice Av n cv = vv at HRow ⊢
        have hbx := (Below.refl w7.heap.size w7).alloc (Nat.le_refl _) (.cells #[.int .i64 ((2 : Int) ^ pb - 1), .bool y] 72)
        have hown := HRow.out
        have hB9 := HBX.out.lt
        go_upto_region 9 with (at_builtin; refine wpList_append_own _ rfl (.tmp 72) (.tmp 78) 41 rfl (w.heap.size + 1) 72 i0 (.agg #[.int .i64 0, .bool false]) 2 16 Try.underlying41 hi0 hz00 hz1 hz2 rfl (by decide) _ _ _ rfl (hown.alloc _) ⟨w7.heap.size, 0, none⟩ 1 1 [.int .i64 ((2 : Int) ^ pb - 1), .bool y] rfl rfl (cell_two_new _ _ _ _) (by simp [Value.oneCell']) (by unfold maxLen; omega) (by omega) (by simp; omega) ?_; intro v' w10 hown' hgrow _)
        have HRow9 := Lib.hid (askd_snoc6 hown' HNn.out.symm)
        have hpst := pastGrownA hown hgrow
        replace HBX := Lib.hid (grown_twoA hown HBX.out (by decide) hgrow)
        replace HSI := Lib.hid (HSI.out.grownQ hown hgrow)
        replace HNd := Lib.hid (grown_ownA hown HNd.out (by decide) hgrow)
        replace HBl := Lib.hid (HBl.out.trans (hpst.below (Nat.le_succ _) HBl.out.size))
        rw [← HNL.out] at HRow9
        clear hpst hown' hgrow hown HRow hbx
        have x0 := HBX.out.c0
        have x1 := HBX.out.c1
        go_wp2_with fail
        refine (HAf.out w10 y HSI.out.ins).mono ?_
        rintro e w11 ⟨g9, c9, rfl, hg9, ho9, hb⟩
        replace HBX := Lib.hid (HBX.out.step hb)
        replace HNd := Lib.hid (own_same HNd.out (hb.block _ (own_lt HNd.out)))
        replace HRow9 := Lib.hid (pastA HRow9.out (Past.of_below hb))
        replace HBl := Lib.hid (below_trans HBl.out hb)
        have HO9 : Hid (Own w11 g9 (g9 + 1) (some ⟨g9, 0, none⟩) (pSt M (j : Int) lie zs (i + 1))) := Lib.hid (by rw [HN1.out]; exact ho9)
        clear hb ho9 x0 x1 HAf HSI
        have x0 := HBX.out.c0
        have x1 := HBX.out.c1
        have x2 := HBX.out.f0
        have x3 := HBX.out.f1
        obtain ⟨hs1, hw1⟩ := stored2 HBX.out.row (.slice (some ⟨g9, 0, none⟩) zs.length c9) (.int .i64 (M : Int))
        have hng : g9 ≠ w.heap.size := own_two_ne HO9.out HBX.out
        have HWf : Hid (WP w w.heap.size gn M (j : Int) lie zs (i + 1) (some ⟨g9, 0, none⟩) c9 g9 (g9 + 1) v' ((w11.setCell ⟨w.heap.size, 0, none⟩ (.slice (some ⟨g9, 0, none⟩) zs.length c9)).setCell ⟨w.heap.size, 1, none⟩ (.int .i64 (M : Int)))) := Lib.hid ⟨⟨hs1⟩, .inr ⟨g9, rfl, rfl, rfl, own_same HO9.out (hw1.block g9 (own_lt HO9.out) (by omega))⟩, own_same HNd.out (hw1.block gn (own_lt HNd.out) (.inr (by omega))), row_twoA HRow9.out HBX.out (by decide) hw1, HBl.out.trans (hw1.below (Nat.le_refl _) HBl.out.size)⟩
        clear hs1 hw1 HO9 HNd HRow9 HBX HBl HN1 HNL
        go_wp2
        have htp := HTP.out
        clear HTP
        subst htp
        go_roundg (massL M (pSt M (j : Int) lie zs (i + 1)))
        case measure => have := HMS.out; have := HHg.out; omega
        case rel => exact ⟨i + 1, _, _, _, _, rfl, by have := HMS.out; have := HHg.out; have := HHi.out; omega, HWf⟩
end Go.Proofs.Ytnomgnjfamideab
