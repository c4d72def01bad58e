/- Greedy words: of impl. -/
import Derived.Test.YthjkmfjhcohhbaaGreedC
import Derived.Test.YthjkmfjhcohhbaaTaken
import Derived.Test.YthjkmfjhcohhbaaRegI
import Derived.WalkMore
import Derived.Great.BuildSlice
namespace Go.Proofs.Ythjkmfjhcohhbaa
open Go.RowKit Go.ChangeShapes Go.WideShapes
set_option linter.unusedVariables false

theorem infoW14 : (Try.prog.info? 48).map (fun i => (i.zero, i.size, i.bytes)) = some (some (.agg (bwv fun _ => false)), 14, 14) := infoW
theorem W0_any (w : World) (B : Nat) (h : B ≤ w.heap.size) : Tk (w.alloc (.cells #[] 48)) B (.slice (some ⟨w.heap.size, 0, none⟩) 0 0) [] :=
  ⟨World.ownsRow_lit w (e := 48) (size := 14) (base := B) #[] 0 h (by unfold maxLen; omega) rfl⟩

/-- The slots of the region that appends. -/
def gAct (x0 x1 u4 u5 v6 v7 x8 x9 u11 x12 x13 x14 x15 x16 x17 x18 x19 x20 x21 x22 u23 u24 u25 u26 u27 u28 u29 u30 u31 v32 v33 v34 v35 v36 v37 v38 v39 u40 u41 u42 u43 u44 u45 : Value) : Act :=
  { tmps := #[x0, x1, undef, undef, u4, u5, v6, v7, x8, x9, undef, u11, x12, x13, x14, x15, x16, x17, x18, x19, x20, x21, x22, u23, u24, u25, u26, u27, u28, u29, u30, u31, v32, v33, v34, v35, v36, v37, v38, v39, u40, u41, u42, u43, u44, u45, undef], defers := [] }
structure GInv (w0 : World) (g k d : Nat) (ws tk : Value) (D : Nat → Bool) (v6 v7 v32 v33 v34 v35 v36 v37 v38 v39 : Value) (W : World) : Prop where
  past : Past w0.heap.size w0 W
  q : D 7 = false → W14 W g k.testBit
  s32 : D 0 = true → v32 = ws
  s33 : D 1 = true → v33 = .int .i64 (k : Int)
  s34 : D 2 = true → D 3 = false → ∃ b, v34 = .slice (some ⟨b, 0, none⟩) 1 1 ∧ W.cell? ⟨b, 0, none⟩ = some (.int .i64 (k : Int))
  s35a : D 3 = false → W.ownsRow w0.heap.size 3 1 ws (gI d k).length ((gI d k).map (Value.int .i64))
  s35b : D 3 = true → W.ownsRow w0.heap.size 3 1 v35 (gI d (k + 1)).length ((gI d (k + 1)).map (Value.int .i64))
  s36 : D 4 = true → v36 = tk
  s37 : D 5 = true → v37 = .agg (bwv k.testBit)
  s38 : D 6 = true → D 7 = false → ∃ b, v38 = .slice (some ⟨b, 0, none⟩) 1 1 ∧ W14 W b k.testBit
  s39a : D 7 = false → Tk W w0.heap.size tk (gr d k)
  s39b : D 7 = true → Tk W w0.heap.size v39 (gr d (k + 1))
  s6 : v6 = if D 8 = true then v35 else ws
  s7 : v7 = if D 9 = true then v39 else tk
  o6 : D 6 = true → D 5 = true
  o7 : D 7 = true → D 3 = true ∧ D 4 = true ∧ D 6 = true
  o8 : D 8 = true → D 0 = true ∧ D 3 = true ∧ D 7 = true
  o9 : D 9 = true → D 4 = true ∧ D 7 = true
theorem cell_step {w w' : World} {a : Addr} {v : Value} (hb : Below w.heap.size w w') (h : w.cell? a = some v) : w'.cell? a = some v :=
  (World.cell?_of_block (hb.block a.block (World.block_lt_of_cell? w a h))).trans h
theorem one_cells {w : World} {b : Nat} {x : Value} (h : w.cell? ⟨b, 0, none⟩ = some x) : ∀ (j : Nat) (u : Value), [x][j]? = some u → w.cell? ((⟨b, 0, none⟩ : Addr).add j) = some u := by
  intro j u hu
  cases j with
  | zero =>
    simp at hu
    subst hu
    have hadd : (⟨b, 0, none⟩ : Addr).add 0 = ⟨b, 0, none⟩ := by unfold Addr.add; split <;> simp_all
    rw [hadd]
    exact h
  | succ j => simp at hu
theorem W14.cells_add {w : World} {b : Nat} {p : Nat → Bool} (h : W14 w b p) : ∀ (j : Nat) (u : Value), (bwv p).toList[j]? = some u → w.cell? ((⟨b, 0, none⟩ : Addr).add j) = some u := by
  intro j u hu
  have hadd : (⟨b, 0, none⟩ : Addr).add j = ⟨b, j, none⟩ := by unfold Addr.add; split <;> simp_all
  rw [hadd, row_cellI h.row]
  rwa [Array.getElem?_toList] at hu
theorem not_of {D : Nat → Bool} {i j : Nat} (h : D i = true → D j = true) (hj : D j = false) : D i = false := by
  rcases Bool.eq_false_or_eq_true (D i) with h1 | h1
  · rw [h h1] at hj; cases hj
  · exact h1
theorem Tk.snoc {w : World} {B n : Nat} {v : Value} {L : List Nat} {x : Nat} (h : w.ownsRow B 48 14 v (n + 1) (wl L ++ (bwv x.testBit).toList)) (hn : n = L.length) : Tk w B v (L ++ [x]) := ⟨by
  subst hn
  rw [wl_snoc, List.length_append]
  exact h⟩

theorem cells14 (p : Nat → Bool) : (Value.agg (bwv p)).cells.size = 14 := by simp [Value.cells, bwv_size]
theorem wp_append_word {o : Oper} {a : Act} {w : World} {K : Act → World → Prop} {Q : Exit → Act → World → Prop} (s x : Operand) (ho : o.op = .call { callee := .builtin .append, args := #[s, x], argTypes := #[52, 52] })
    (base : Nat) (v : Value) (L : List Nat) (b k : Nat) (hs : a.eval s = v) (hT : Tk w base v L) (hx : a.eval x = .slice (some ⟨b, 0, none⟩) 1 1) (hc : W14 w b k.testBit) (hl : L.length ≤ 1000) (hbase : base ≤ w.heap.size)
    (h : ∀ v' w', Tk w' base v' (L ++ [k]) → w.grownBy w' v.ownBlock → K (a.put o.dst v') w') : o.wp Try.prog a w K Q := by
  obtain ⟨j0, hj0, hy0, hy1, hy2⟩ := info_parts infoW14
  exact wp_append_own w s x 52 ho base 48 j0 (.agg (bwv fun _ => false)) 14 14 Try.underlying52 hj0 hy0 hy1 hy2 (cells14 _) (by decide) v L.length (wl L) hs hT.own ⟨b, 0, none⟩ 1 1 (bwv k.testBit).toList hx (by simp [bwv_size]) hc.cells_add (fun u hu => (Array.all_eq_true_iff_forall_mem.1 (bwv_one _)) u (by simpa using hu)) (by unfold maxLen; omega) (by omega) hbase (fun v' w1 ho hg _ => h v' w1 (Tk.snoc ho rfl) hg)
theorem wp_build14 {o : Oper} {a : Act} {w : World} {K : Act → World → Prop} {Q : Exit → Act → World → Prop} (x : Operand) (ho : o.op = .buildSlice 52 1 #[(0, x)]) (p : Nat → Bool) (hx : a.eval x = .agg (bwv p))
    (h : K (a.put o.dst (.slice (some ⟨w.heap.size, 0, none⟩) 1 1)) (w.alloc (.cells (bwv p) 48))) : o.wp Try.prog a w K Q := by
  obtain ⟨j0, hj0, hy0, hy1, hy2⟩ := info_parts infoW14
  refine wp_buildSlice 52 48 1 #[(0, x)] ho (bwv p) j0 _ Try.underlying52 hj0 hy0 (by rw [hy1]; omega) (by rw [hy1]; omega) ?_ h
  rw [hy1]
  have e : (#[(0, x)].map fun ((i, x) : Nat × Operand) => (i, a.eval x)).toList = (([Value.agg (bwv p)]).zipIdx 0).map fun x => (x.2, x.1) := by simp [hx]
  rw [e, Great.fill_whole (by omega) [Value.agg (bwv p)] _ (fun v hv => by rw [List.mem_singleton.1 hv]; exact cells14 p) (by simp)]
  simp [Value.cells]
theorem wp_load14s {o : Oper} {a : Act} {w : World} {K : Act → World → Prop} {Q : Exit → Act → World → Prop} (hgd : o.guard = none) (x : Operand) (ho : o.op = .load 48 x)
    (g : Nat) (p : Nat → Bool) (hx : a.eval x = .pointer (some ⟨g, 0, none⟩)) (h : W14 w g p)
    (hK : K (a.put o.dst (.agg (bwv p))) w) : o.wp Try.prog a w K Q := by
  have hr := run_load14c (w := w) (b := g) (o := 0) (p := p) (fun i hi => by rw [Nat.zero_add]; exact h.cell hi)
  unfold Oper.wp execOp
  simp only [ho, hx, Instr.loadAt, Instr.sureAddr, Sem.run_bind, Sem.run_pure, Result.andThen_ok, hr]
  exact hK

set_option maxRecDepth 100000 in
set_option maxHeartbeats 4000000 in
theorem greedyWords_any (n M W : Nat) (w : World) (hG : GW M W) (hM : M ≤ 2) (hn : 1 ≤ n ∧ n ≤ 12) :
    Calls Try.prog 71 #[.int .i64 (n : Int), .int .i64 (M : Int)] w fun e w' => ∃ v, e = .returned (.tuple #[v, .bool true]) ∧ w'.ownsRow w.heap.size 3 1 v n ((gwI M n W).map (Value.int .i64)) ∧ Below w.heap.size w w' := by
  obtain ⟨i0, hi0, hz0, hz1, hz2⟩ := info_parts infoI3
  obtain ⟨j0, hj0, hy0, hy1, hy2⟩ := info_parts infoW14
  have hWe := hG.eq
  have hWl := hG.len
  have HGe := Lib.hid hG
  have HAn := Lib.hid (fun k (hk : k < 2 ^ 14) W => answersOf_any k W hk)
  have HAp := Lib.hid (fun p q W => apart_any p q W)
  have O1 := Lib.hid ((O0_any w w.heap.size (Nat.le_refl _)).alloc (.cells #[] 48))
  have O2 := Lib.hid (W0_any (w.alloc (.cells #[] 3)) w.heap.size (by simp))
  have P0 := Lib.hid (Past.of_below (B := w.heap.size) (((Below.refl w.heap.size w).alloc (Nat.le_refl _) (.cells #[] 3)).alloc (by simp) (.cells #[] 48)))
  go_enter Try.func71, Try.ntmps71
  go_wp2_with fail
  go_step3
  go_wp2_with fail
  go_step3
  go_wp2_with fail
  generalize (w.alloc (.cells #[] 3)).alloc (.cells #[] 48) = wa at O1 O2 P0 ⊢
  go_loopw [6, 7, 14] (fun ws tk i wr => ∃ (k : Nat), k ≤ 16384 ∧ i = .int .i64 k ∧ (gr (2 * M) k).length < n ∧ Hid (wr.ownsRow w.heap.size 3 1 ws (gI (2 * M) k).length ((gI (2 * M) k).map (Value.int .i64))) ∧ Hid (Tk wr w.heap.size tk (gr (2 * M) k)) ∧ Hid (Past w.heap.size w wr)) (fun _ _ i _ => 16384 - (intOf i).toNat)
  case atStart => exact ⟨0, Nat.zero_le _, rfl, by simp [gr]; omega, O1, by simpa [gr] using O2, P0⟩
  case round =>
    clear O1 O2 P0
    obtain ⟨k, hk, rfl, hlen, HO, HT, HP⟩ := hrel
    rename World => wr
    obtain ⟨At, ct, rfl⟩ := HT.out.slice
    by_cases hlt : k < 16384
    · have HAk := Lib.hid (HAn.out k hlt)
      go_wp2_with fail
      refine (HAk.out _).mono ?_
      rintro e w4 ⟨rfl, hb4⟩
      have HO4 := Lib.hid (own_step HO.out hb4)
      have HT4 := Lib.hid (HT.out.step hb4)
      have HP4 := Lib.hid (HP.out.trans (Past.of_below hb4))
      have HZ := Lib.hid (W14.new0 w4)
      have HBn := Lib.hid (below_new14 w4 k.testBit)
      have HQ := Lib.hid (HZ.out.put k.testBit)
      clear hb4 HO HT HP HAk
      go_wp2_with (first | (with_reducible refine wpList_store14 rfl (.tmp 9) (.tmp 18) rfl w4.heap.size (fun _ => false) k.testBit rfl rfl HZ.out ?_))
      have HO5 := Lib.hid (own_step HO4.out HBn.out)
      have HT5 := Lib.hid (HT4.out.step HBn.out)
      have HP5 := Lib.hid (HP4.out.trans (Past.of_below HBn.out))
      generalize ((w4.alloc (.cells #[.bool false, .bool false, .bool false, .bool false, .bool false, .bool false, .bool false, .bool false, .bool false, .bool false, .bool false, .bool false, .bool false, .bool false] 48)).setRow w4.heap.size (bwv k.testBit)) = w5 at HQ HO5 HT5 HP5 ⊢
      have hgl := HQ.out.lt
      clear HZ HBn HO4 HT4 HP4
      generalize w4.heap.size = g at HQ hgl ⊢
      have hgr := gr_len (2 * M) k
      go_loopw [21] (fun i wr => ∃ (j : Nat), j ≤ (gr (2 * M) k).length ∧ i = .int .i64 j ∧ Hid (farTo (2 * M) (gr (2 * M) k) k j) ∧ Hid (W14 wr g k.testBit) ∧ Hid (wr.ownsRow w.heap.size 3 1 u6 (gI (2 * M) k).length ((gI (2 * M) k).map (Value.int .i64))) ∧ Hid (Tk wr w.heap.size (.slice At (gr (2 * M) k).length ct) (gr (2 * M) k)) ∧ Hid (Past w.heap.size w wr)) (fun i _ => (gr (2 * M) k).length - (intOf i).toNat)
      case atStart => exact ⟨0, Nat.zero_le _, rfl, fun i hi => absurd hi (by omega), HQ, HO5, HT5, HP5⟩
      case round =>
        clear HQ HO5 HT5 HP5
        obtain ⟨j, hj, rfl, HF, HQ, HO, HT, HP⟩ := hrel
        rename World => wq
        by_cases hlj : j < (gr (2 * M) k).length
        · obtain ⟨gt, ct', hAt, hgB, hcs⟩ := HT.out.cells (by omega)
          injection hAt with hAt hct1 hct2
          subst hAt hct2
          obtain ⟨v, hv⟩ : ∃ v, (gr (2 * M) k).getD j 0 = v := ⟨_, rfl⟩
          have hcj := hcs j hlj
          rw [hv] at hcj
          have HCj := Lib.hid hcj
          have hap := apartN_le k v
          have HZ2 := Lib.hid (W14.new0 wq)
          have HQ2 := Lib.hid (HZ2.out.put v.testBit)
          have HBn := Lib.hid (below_new14 wq v.testBit)
          have HP2 := Lib.hid (HQ.out.step HBn.out)
          have HAk := Lib.hid (fun W => HAp.out k.testBit v.testBit W)
          rw [show cntB (fun i => k.testBit i != v.testBit i) 14 = apartN k v from rfl] at HAk
          have HY := Lib.hid (fun h : 2 * M < apartN k v => farTo_step (d := 2 * M) (x := k) (ws := gr (2 * M) k) HF.out (by rw [hv]; exact h))
          have HN := Lib.hid (fun h : ¬ 2 * M < apartN k v => farTo_not (d := 2 * M) (x := k) (ws := gr (2 * M) k) hlj (by rw [hv]; exact h))
          have HO2 := Lib.hid (own_step HO.out HBn.out)
          have HT2 := Lib.hid (HT.out.step HBn.out)
          have HX2 := Lib.hid (HP.out.trans (Past.of_below HBn.out))
          clear hcs HBn HO HT HP HF HQ hv hcj
          generalize hap0 : apartN k v = a at hap HAk HY HN
          clear hap0
          go_wp2_with (first | (with_reducible refine wpList_load14c rfl (.tmp 23) rfl gt (j * 14) v.testBit rfl HCj.out ?_) | (with_reducible refine wpList_store14 rfl (.tmp 11) (.tmp 24) rfl wq.heap.size (fun _ => false) v.testBit rfl rfl HZ2.out ?_) | (with_reducible refine wpList_load14 rfl (.tmp 9) rfl g k.testBit rfl HP2.out ?_) | (with_reducible refine wpList_load14 rfl (.tmp 11) rfl wq.heap.size v.testBit rfl HQ2.out ?_))
          refine (HAk.out _).mono ?_
          rintro e w7 ⟨rfl, hb⟩
          have HP3 := Lib.hid (HP2.out.step hb)
          have HO3 := Lib.hid (own_step HO2.out hb)
          have HT3 := Lib.hid (HT2.out.step hb)
          have HX3 := Lib.hid (HX2.out.trans (Past.of_below hb))
          clear hb HP2 HO2 HT2 HX2 HQ2 HZ2 HCj HAk
          by_cases hle : 2 * M < a
          · have hle2 : ¬ (a : Int) ≤ 2 * (M : Int) := by omega
            have HF2 := Lib.hid (HY.out hle)
            clear HY HN
            go_wp2
            go_roundw
            case rel => exact ⟨j + 1, by omega, by go_num, HF2, HP3, HO3, HT3, HX3⟩
            case measure => simp [intOf]; omega
          · have hle2 : (a : Int) ≤ 2 * (M : Int) := by omega
            have HF2 := HN.out hle
            have HG2 := Lib.hid (gr_no HF2)
            have HG3 := Lib.hid (gI_no HF2)
            clear HY HN HF2
            go_wp2
            go_roundw
            case rel => exact ⟨k + 1, by omega, by go_num, by rw [HG2.out]; exact hlen, by rw [HG3.out]; exact HO3, by rw [HG2.out]; exact HT3, HX3⟩
            case measure => simp [intOf]; omega
        · obtain rfl : j = (gr (2 * M) k).length := by omega
          have HFF := Lib.hid (farTo_all HF.out)
          go_wp2_with fail
          go_cut [6, 7] from 32 to 39 (fun p6 p7 wx => Hid (wx.ownsRow w.heap.size 3 1 p6 (gI (2 * M) (k + 1)).length ((gI (2 * M) (k + 1)).map (Value.int .i64))) ∧ Hid (Tk wx w.heap.size p7 (gr (2 * M) (k + 1))) ∧ Hid (Past w.heap.size w wx))
          case first =>
            refine wp_region_inv5 (by kernel_rfl) (by kernel_rfl) (fun D A W => ∃ v6 v7 v32 v33 v34 v35 v36 v37 v38 v39, A = gAct (.int .i64 (n : Int)) (.int .i64 (M : Int)) u4 u5 v6 v7 (.int .i64 (k : Int)) (.pointer (some ⟨g, 0, none⟩)) u11 (.slice (some ⟨w.heap.size, 0, none⟩) 0 0) (.slice (some ⟨w.heap.size + 1, 0, none⟩) 0 0) (.int .i64 (k : Int)) (.bool true) (.int .i64 (k : Int)) (.int .i64 (k : Int)) (.agg (bwv k.testBit)) (.slice At (gr (2 * M) k).length ct) (.int .i64 ((gr (2 * M) k).length : Int)) (.int .i64 ((gr (2 * M) k).length : Int)) (.bool false) u23 u24 u25 u26 u27 u28 u29 u30 u31 v32 v33 v34 v35 v36 v37 v38 v39 u40 u41 u42 u43 u44 u45 ∧ GInv w g k (2 * M) u6 (.slice At (gr (2 * M) k).length ct) D v6 v7 v32 v33 v34 v35 v36 v37 v38 v39 W) ?h0 ?hs ?hd
            case h0 =>
              have hdr : Below wq.heap.size wq wq.drew := below_drew1 (Below.refl _ _)
              exact ⟨_, _, _, _, _, _, _, _, _, _, rfl, ⟨HP.out.trans (Past.of_below hdr), fun _ => HQ.out.step hdr, nofun, nofun, nofun, fun _ => own_step HO.out hdr, nofun, nofun, nofun, nofun, fun _ => HT.out.step hdr, nofun, rfl, rfl, nofun, nofun, nofun, nofun⟩⟩
            case hs =>
              rintro D _ W ⟨v6, v7, v32, v33, v34, v35, v36, v37, v38, v39, rfl, hI⟩ i o ho hD hA K hK
              have hi : i < 10 := (Array.getElem?_eq_some_iff.1 ho).1
              have HI := Lib.hid hI
              have HK := Lib.hid hK
              clear hI hK
              obtain rfl | rfl | rfl | rfl | rfl | rfl | rfl | rfl | rfl | rfl : i = 0 ∨ i = 1 ∨ i = 2 ∨ i = 3 ∨ i = 4 ∨ i = 5 ∨ i = 6 ∨ i = 7 ∨ i = 8 ∨ i = 9 := by omega
              all_goals (obtain rfl := Option.some.inj ho; clear ho hi; simp [Region.binds] at hA; unfold gAct)
              · have h8 := not_of (fun h => (HI.out.o8 h).1) hD
                have e6 := HI.out.s6
                rw [h8] at e6
                simp only [Bool.false_eq_true, if_false] at e6
                subst e6
                go_simp
                exact HK.out _ _ ⟨_, _, _, _, _, _, _, _, _, _, rfl, ⟨(by simpa using HI.out.past), (by simpa using HI.out.q), (fun _ => rfl), (by simpa using HI.out.s33), (by simpa using HI.out.s34), (by simpa using HI.out.s35a), (by simpa using HI.out.s35b), (by simpa using HI.out.s36), (by simpa using HI.out.s37), (by simpa using HI.out.s38), (by simpa using HI.out.s39a), (by simpa using HI.out.s39b), (by simpa using HI.out.s6), (by simpa using HI.out.s7), (by simpa using HI.out.o6), (by simpa using HI.out.o7), (fun h => by simp [h8] at h), (by simpa using HI.out.o9)⟩⟩
              · go_simp
                exact HK.out _ _ ⟨_, _, _, _, _, _, _, _, _, _, rfl, ⟨(by simpa using HI.out.past), (by simpa using HI.out.q), (by simpa using HI.out.s32), (fun _ => rfl), (by simpa using HI.out.s34), (by simpa using HI.out.s35a), (by simpa using HI.out.s35b), (by simpa using HI.out.s36), (by simpa using HI.out.s37), (by simpa using HI.out.s38), (by simpa using HI.out.s39a), (by simpa using HI.out.s39b), (by simpa using HI.out.s6), (by simpa using HI.out.s7), (by simpa using HI.out.o6), (by simpa using HI.out.o7), (by simpa using HI.out.o8), (by simpa using HI.out.o9)⟩⟩
              · obtain rfl := HI.out.s33 hA
                have hA1 := (Below.refl _ W).alloc (Nat.le_refl _) (.cells #[.int .i64 (k : Int)] 3)
                go_simp
                exact HK.out _ _ ⟨_, _, _, _, _, _, _, _, _, _, rfl, ⟨HI.out.past.trans (Past.of_below hA1), (fun h => (HI.out.q (by simpa using h)).step hA1), (by simpa using HI.out.s32), (fun _ => rfl), (fun _ _ => ⟨W.heap.size, rfl, by rw [World.cell?_alloc_at _ _ _ _ rfl]; rfl⟩), (fun h => own_step (HI.out.s35a (by simpa using h)) hA1), (fun h => own_step (HI.out.s35b (by simpa using h)) hA1), (by simpa using HI.out.s36), (by simpa using HI.out.s37), (fun h6 h7 => by obtain ⟨b, e, hc⟩ := HI.out.s38 (by simpa using h6) (by simpa using h7); exact ⟨b, e, hc.step hA1⟩), (fun h => (HI.out.s39a (by simpa using h)).step hA1), (fun h => (HI.out.s39b (by simpa using h)).step hA1), (by simpa using HI.out.s6), (by simpa using HI.out.s7), (by simpa using HI.out.o6), (by simpa using HI.out.o7), (by simpa using HI.out.o8), (by simpa using HI.out.o9)⟩⟩
              · obtain rfl := HI.out.s32 hA.1
                obtain ⟨b, rfl, hc⟩ := HI.out.s34 hA.2 hD
                have hown := HI.out.s35a hD
                have hgl := gI_len (2 * M) k
                have h8 := not_of (fun h => (HI.out.o8 h).2.1) hD
                have h7 := not_of (fun h => (HI.out.o7 h).1) hD
                refine wp_append_own W (.tmp 32) (.tmp 34) 22 rfl w.heap.size 3 i0 (.int .i64 0) 1 8 Try.underlying22 hi0 hz0 hz1 hz2 rfl (by decide) v32 _ _ rfl hown ⟨b, 0, none⟩ 1 1 [.int .i64 (k : Int)] rfl rfl (one_cells hc) (by simp [Value.oneCell']) (by unfold maxLen; omega) (by omega) HI.out.past.size (fun v' w1 ho hg _ => ?_)
                have hfar : farB (2 * M) (gr (2 * M) k) k = true := HFF.out
                have hoff := (HI.out.q h7).off hown
                exact HK.out _ _ ⟨_, _, _, _, _, _, _, _, _, _, rfl, ⟨(HI.out.past.trans (past_grown hg (fun x hx => (hown.lt x hx).1))), (fun _ => (HI.out.q h7).grown hg hoff), (fun _ => rfl), (by simpa using HI.out.s33), (fun _ h3 => by simp at h3), (fun h => by simp at h), (fun _ => by rw [gI_yes hfar]; exact own_snocI ho rfl), (by simpa using HI.out.s36), (by simpa using HI.out.s37), (fun h6 _ => by obtain ⟨b2, e, hc2⟩ := HI.out.s38 (by simpa using h6) h7; exact ⟨b2, e, hc2.grown hg (hc2.off hown)⟩), (fun _ => (HI.out.s39a h7).kept hg (rows_apart (HI.out.s39a h7).own hown (by decide))), (fun h => by simp [h7] at h), (by have := HI.out.s6; simp [h8] at this; simp [h8, this]), (by simpa using HI.out.s7), (by simpa using HI.out.o6), (fun h => by simp [h7] at h), (fun h => by simp [h8] at h), (by simpa using HI.out.o9)⟩⟩
              · have h7 := not_of (fun h => (HI.out.o7 h).2.1) hD
                have h9 := not_of (fun h => (HI.out.o9 h).1) hD
                have e7 := HI.out.s7
                rw [h9] at e7
                simp only [Bool.false_eq_true, if_false] at e7
                subst e7
                go_simp
                exact HK.out _ _ ⟨_, _, _, _, _, _, _, _, _, _, rfl, ⟨(by simpa using HI.out.past), (by simpa using HI.out.q), (by simpa using HI.out.s32), (by simpa using HI.out.s33), (by simpa using HI.out.s34), (by simpa using HI.out.s35a), (by simpa using HI.out.s35b), (fun _ => rfl), (by simpa using HI.out.s37), (by simpa using HI.out.s38), (by simpa using HI.out.s39a), (by simpa using HI.out.s39b), (by simpa using HI.out.s6), (by simpa using HI.out.s7), (by simpa using HI.out.o6), (fun h => by simp [h7] at h), (by simpa using HI.out.o8), (fun h => by simp [h9] at h)⟩⟩
              · have h6 := not_of HI.out.o6 hD
                have h7 := not_of (fun h => (HI.out.o7 h).2.2) h6
                have hq := HI.out.q h7
                refine wp_load14s rfl (.tmp 9) rfl g k.testBit rfl hq ?_
                exact HK.out _ _ ⟨_, _, _, _, _, _, _, _, _, _, rfl, ⟨(by simpa using HI.out.past), (by simpa using HI.out.q), (by simpa using HI.out.s32), (by simpa using HI.out.s33), (by simpa using HI.out.s34), (by simpa using HI.out.s35a), (by simpa using HI.out.s35b), (by simpa using HI.out.s36), (fun _ => rfl), (by simpa using HI.out.s38), (by simpa using HI.out.s39a), (by simpa using HI.out.s39b), (by simpa using HI.out.s6), (by simpa using HI.out.s7), (fun h => by simp [h6] at h), (by simpa using HI.out.o7), (by simpa using HI.out.o8), (by simpa using HI.out.o9)⟩⟩
              · obtain rfl := HI.out.s37 hA
                have hA1 := (Below.refl _ W).alloc (Nat.le_refl _) (.cells (bwv k.testBit) 48)
                refine wp_build14 (.tmp 37) rfl k.testBit rfl ?_
                exact HK.out _ _ ⟨_, _, _, _, _, _, _, _, _, _, rfl, ⟨HI.out.past.trans (Past.of_below hA1), (fun h => (HI.out.q (by simpa using h)).step hA1), (by simpa using HI.out.s32), (by simpa using HI.out.s33), (fun h2 h3 => by obtain ⟨b, e, hc⟩ := HI.out.s34 (by simpa using h2) (by simpa using h3); exact ⟨b, e, cell_step hA1 hc⟩), (fun h => own_step (HI.out.s35a (by simpa using h)) hA1), (fun h => own_step (HI.out.s35b (by simpa using h)) hA1), (by simpa using HI.out.s36), (fun _ => rfl), (fun _ _ => ⟨W.heap.size, rfl, W14.new W k.testBit W.heap.size rfl⟩), (fun h => (HI.out.s39a (by simpa using h)).step hA1), (fun h => (HI.out.s39b (by simpa using h)).step hA1), (by simpa using HI.out.s6), (by simpa using HI.out.s7), (fun _ => by simpa using hA), (fun h => by have h7 := HI.out.o7 (by simpa using h); simp [h7.1, h7.2.1]), (by simpa using HI.out.o8), (by simpa using HI.out.o9)⟩⟩
              · obtain ⟨hA4, hA6, hA3⟩ := hA
                obtain rfl := HI.out.s36 hA4
                obtain ⟨b, rfl, hc⟩ := HI.out.s38 hA6 hD
                have hown := (HI.out.s39a hD).own
                have h9 := not_of (fun h => (HI.out.o9 h).2) hD
                have h8 := not_of (fun h => (HI.out.o8 h).2.2) hD
                have hgl := gr_len (2 * M) k
                refine wp_append_word (.tmp 36) (.tmp 38) rfl w.heap.size _ _ b k rfl (HI.out.s39a hD) rfl hc (by omega) HI.out.past.size (fun v' w1 ho hg => ?_)
                have hfar : farB (2 * M) (gr (2 * M) k) k = true := HFF.out
                exact HK.out _ _ ⟨_, _, _, _, _, _, _, _, _, _, rfl, ⟨(HI.out.past.trans (past_grown hg (fun x hx => (hown.lt x hx).1))), (fun h => by simp at h), (by simpa using HI.out.s32), (by simpa using HI.out.s33), (fun _ h3 => by simp [hA3] at h3), (fun h => by simp [hA3] at h), (fun _ => (HI.out.s35b hA3).kept hg (rows_apart (HI.out.s35b hA3) hown (by decide))), (fun _ => rfl), (by simpa using HI.out.s37), (fun _ h => by simp at h), (fun h => by simp at h), (fun _ => by rw [gr_yes hfar]; exact ho), (by simpa using HI.out.s6), (by have := HI.out.s7; simp [h9] at this; simp [h9, this]), (by simpa using HI.out.o6), (fun _ => by simp [hA3, hA4, hA6]), (fun h => by simp [h8] at h), (fun h => by simp [h9] at h)⟩⟩
              · go_simp
                exact HK.out _ _ ⟨_, _, _, _, _, _, _, _, _, _, rfl, ⟨(by simpa using HI.out.past), (by simpa using HI.out.q), (by simpa using HI.out.s32), (by simpa using HI.out.s33), (by simpa using HI.out.s34), (by simpa using HI.out.s35a), (by simpa using HI.out.s35b), (by simpa using HI.out.s36), (by simpa using HI.out.s37), (by simpa using HI.out.s38), (by simpa using HI.out.s39a), (by simpa using HI.out.s39b), (by simp), (by simpa using HI.out.s7), (by simpa using HI.out.o6), (by simpa using HI.out.o7), (fun _ => by simp [hA.1, hA.2.1, hA.2.2.1]), (by simpa using HI.out.o9)⟩⟩
              · obtain ⟨hA7, _, _, _, _, _, hA4, _⟩ := hA
                go_simp
                exact HK.out _ _ ⟨_, _, _, _, _, _, _, _, _, _, rfl, ⟨(by simpa using HI.out.past), (by simpa using HI.out.q), (by simpa using HI.out.s32), (by simpa using HI.out.s33), (by simpa using HI.out.s34), (by simpa using HI.out.s35a), (by simpa using HI.out.s35b), (by simpa using HI.out.s36), (by simpa using HI.out.s37), (by simpa using HI.out.s38), (by simpa using HI.out.s39a), (by simpa using HI.out.s39b), (by simpa using HI.out.s6), (by simp), (by simpa using HI.out.o6), (by simpa using HI.out.o7), (by simpa using HI.out.o8), (fun _ => by simp [hA4, hA7])⟩⟩
            case hd =>
              rintro D _ W ⟨v6, v7, v32, v33, v34, v35, v36, v37, v38, v39, rfl, hI⟩ hall
              have hall : ∀ i, i < 10 → D i = true := hall
              have h6 := hI.s6
              have h7 := hI.s7
              rw [hall 8 (by omega)] at h6
              rw [hall 9 (by omega)] at h7
              simp only [if_true] at h6 h7
              have HW := Lib.hid (hI.s35b (hall 3 (by omega)))
              have HV := Lib.hid (hI.s39b (hall 7 (by omega)))
              have HX := Lib.hid hI.past
              subst h6 h7
              clear hI hall
              unfold gAct
              go_wp2_with fail
              go_meet
              case rel => exact ⟨HW, HV, HX⟩
          case rest =>
            clear HQ HO HT HP HF
            obtain ⟨HW, HV, HX⟩ := hcut
            rename World => wx
            have hl1 : (gr (2 * M) (k + 1)).length = (gr (2 * M) k).length + 1 := by rw [gr_yes HFF.out]; simp
            have hl2 := gI_len (2 * M) (k + 1)
            obtain ⟨A6, c6, rfl, _, hr6⟩ := own_res HW.out rfl
            clear hr6
            by_cases heq : (gr (2 * M) (k + 1)).length = n
            · have HE := Lib.hid (gwI_of (M := M) (n := n) (W := W) (k := k + 1) (by omega) heq)
              have heqI : (((gI (2 * M) (k + 1)).length : Int) == (n : Int)) = true := by simp; omega
              go_wp2
              rw [Exit.noGoto_ret]
              go_ret2
              refine ⟨.slice A6 (gI (2 * M) (k + 1)).length c6, rfl, ?_, HX.out.below (Nat.le_refl _) (Nat.le_refl _)⟩
              have h := HW.out
              have hn1 : (gwI M n W).length = n := by rw [← HE.out]; omega
              rw [HE.out, hn1] at h
              rw [HE.out, hn1]
              exact h
            · have heqI : (((gI (2 * M) (k + 1)).length : Int) == (n : Int)) = false := by simp; omega
              go_wp2
              go_roundw
              case rel => exact ⟨k + 1, by omega, by go_num, by omega, HW, HV, HX⟩
              case measure => simp [intOf]; omega
    · exfalso
      have := gr_mono (2 * M) (V := W) (W := k) (by omega)
      omega
end Go.Proofs.Ythjkmfjhcohhbaa
