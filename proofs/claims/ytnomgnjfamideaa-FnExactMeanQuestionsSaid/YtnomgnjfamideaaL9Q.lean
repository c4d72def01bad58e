/- Trees of questions: MeanQuestions, of both sides. -/
import Derived.Test.YtnomgnjfamideaaL9U
import Derived.Test.YtnomgnjfamideaaL7d
import Derived.Test.YtnomgnjfamideaaMrep9
namespace Go.Proofs.Ytnomgnjfamideaa
open Go.RowKit Go.ChangeShapes Go.WideShapes Go.Maps
set_option linter.unusedVariables false

/-- How many questions are asked till the leaf of a secret. -/
def deep9 (t : T9) (k : Nat) : Nat := (way9 t 0 (leaf9 k t 0)).length
theorem deep9_le {n : Int} {ns : List (Int × Int × Int)} {t : T9} (hT : Tree9 n ns t) (k : Nat) : deep9 t k ≤ 6 := by
  have h1 := way9_len t 0 (leaf9 k t 0)
  have h2 := hT.deep
  unfold deep9
  omega
def one9 (_ : Nat) : Nat := 1
theorem sumF_one9 : ∀ n, sumF one9 n = n
  | 0 => rfl
  | n + 1 => by simp only [sumF, sumF_one9 n, one9]
theorem sumT_one9 (T : Nat → Nat) (k : Nat) : sumT one9 T (k + 1) = sumT one9 T k + T k := by simp only [sumT, one9, Nat.one_mul]
theorem sumT9_le {T : Nat → Nat} (h : ∀ k, T k ≤ 6) : ∀ k, sumT one9 T k ≤ k * 6
  | 0 => Nat.le_refl _
  | k + 1 => by
    rw [sumT_one9]
    have := sumT9_le h k
    have := h k
    omega
theorem zsN_one9 (n : Nat) : zsN one9 n = List.replicate n 1 := by
  unfold zsN one9
  apply List.ext_getElem
  · simp
  · intro i h1 h2
    simp
set_option maxRecDepth 100000 in
set_option maxHeartbeats 8000000 in
theorem meanTold9 (N : Nat) (A : Option Addr) (c lo hi : Nat) (ns : List (Int × Int × Int)) (t : T9) (hT : Tree9 (N : Int) ns t) (hN : N ≤ 12) (k b : Nat) (hk : k < N) (w : World) (hB : One w b (.slice A ns.length c) 29) (hS : NIns w lo hi A ns) :
    Calls Try.prog 84 #[.int .i64 (k : Int), .pointer (some ⟨b, 0, none⟩)] w fun e w' => e = .returned (.int .i64 ((deep9 t k : Nat) : Int)) ∧ Below w.heap.size w w' := by
  have HT := Lib.hid hB
  have HI := Lib.hid hS
  have HTl := Lib.hid (fun W h => true9_impl A c lo hi ns k t W h hT.at0 (hT.le127).2 (by omega))
  have hlf := leaf9_lt k t 0
  have HW := Lib.hid (fun W h => way9_impl (N : Int) A c lo hi ns (leaf9 k t 0) t W h hT (by have := hT.len; omega))
  have hk0 : (0 : Int) ≤ (k : Int) := by omega
  clear hB hS hT hlf
  show Calls _ _ _ _ (fun e w' => e = .returned (.int .i64 (((way9 t 0 (leaf9 k t 0)).length : Nat) : Int)) ∧ Below w.heap.size w w')
  generalize leaf9 k t 0 = p at HTl HW ⊢
  go_enter Try.func84, Try.ntmps84
  go_wp2_with fail
  go_region_held3 (fun w' => w'.cell? ⟨b, 0, none⟩ = some (.slice A ns.length c))
    (first
     | exact (HT.out.step (Below.refl _ w).drew).c0
     | exact HT_2.out.c0
     | exact HT_1.out.c0)
    (first
     | (go_at_call 69; (with_reducible refine (HW.out _ HI_1.out).mono ?_); rintro e v2 ⟨Bw, dw, rfl, hm, hb⟩; have HZ2 := Lib.hid (below_trans HZ1.out hb); have HT_2 := Lib.hid (HT.out.step HZ2.out); clear hb hm)
     | (go_at_call 77; (with_reducible refine (HTl.out w.drew (HI.out.step (Below.refl _ w).drew)).mono ?_); rintro e v1 ⟨rfl, hb⟩; have HZ1 := Lib.hid (below_trans (Below.refl _ w).drew hb); have HT_1 := Lib.hid (HT.out.step HZ1.out); have HI_1 := Lib.hid (HI.out.step HZ1.out); clear hb))
  all_goals
    go_wp2
    go_ret
    exact ⟨rfl, HZ2.out⟩
set_option maxRecDepth 100000 in
set_option maxHeartbeats 16000000 in
theorem meanOf9 (N : Nat) (A : Option Addr) (c lo hi : Nat) (ns : List (Int × Int × Int)) (t : T9) (hT : Tree9 (N : Int) ns t) (hN : N ≤ 12) (h1N : 1 ≤ N) (Az : Option Addr) (cz lz hz b : Nat) (w : World) (hB : One w b (.slice A ns.length c) 29) (hS : NIns w lo hi A ns) (hZ : Ins w lz hz Az (zsN one9 N)) :
    Calls Try.prog 83 #[.slice Az N cz, .func (.func 84) #[] #[.pointer (some ⟨b, 0, none⟩)]] w fun e w' => e = .returned (.agg #[.int .i64 ((fr1 (sumT one9 (deep9 t) N) N : Nat) : Int), .int .i64 ((fr2 (sumT one9 (deep9 t) N) N : Nat) : Int)]) ∧ Below w.heap.size w w' := by
  have HR := Lib.hid (Two.new w (.int .i64 0) (.int .i64 0) 62 w.heap.size rfl)
  have HB := Lib.hid ((Below.refl w.heap.size w).alloc (Nat.le_refl _) (.cells #[.int .i64 0, .int .i64 0] 62))
  have HT := Lib.hid (hB.step HB.out)
  have HI := Lib.hid (hS.step HB.out)
  have HZ := Lib.hid (hZ.step HB.out)
  have HC := Lib.hid (fun k W hk h1 h2 => meanTold9 N A c lo hi ns t hT hN k b hk W h1 h2)
  have HD := Lib.hid (fun k => deep9_le hT k)
  generalize deep9 t = T at HC HD ⊢
  have HFR := Lib.hid (fun W => fractionOf_any (sumT one9 T N) N h1N (by have := sumT9_le HD.out N; omega) (by omega) W)
  have HSB := Lib.hid (fun k => sumT9_le HD.out k)
  have HSN := Lib.hid (fun k => sumT_one9 T k)
  clear hB hS hZ hT
  go_enter Try.func83, Try.ntmps83
  go_wp2_with fail
  generalize w.alloc (.cells #[.int .i64 0, .int .i64 0] 62) = wa at HR HB HT HI HZ ⊢
  go_loopw [5, 6, 11] (fun sum all i wr => ∃ (k : Nat), k ≤ N ∧ i = .int .i64 k ∧ sum = .int .i64 ((sumT one9 T k : Nat) : Int) ∧ all = .int .i64 (k : Int) ∧ Hid (Two wr w.heap.size (.int .i64 0) (.int .i64 0) 62) ∧ Hid (One wr b (.slice A ns.length c) 29) ∧ Hid (NIns wr lo hi A ns) ∧ Hid (Ins wr lz hz Az (zsN one9 N)) ∧ Hid (Below w.heap.size w wr)) (fun _ _ i _ => N - (intOf i).toNat)
  case atStart => exact ⟨0, Nat.zero_le _, rfl, rfl, rfl, HR, HT, HI, HZ, HB⟩
  case round =>
    clear HR HT HI HZ HB
    obtain ⟨k, hk, rfl, rfl, rfl, HR, HT, HI, HZ, HB⟩ := hrel
    rename World => wr
    by_cases hlt : k < N
    · obtain ⟨bz, oz, rfl, _, _, hc⟩ := zsN_cell HZ.out.ints hlt
      have hki : (k : Int) < (N : Int) := by omega
      rw [show one9 k = 1 from rfl] at hc
      have hc2 : wr.cell? ⟨bz, oz + k, none⟩ = some (.int .i64 1) := hc
      clear hc
      have HC2 := Lib.hid (fun W h1 h2 => HC.out k W hlt h1 h2)
      have hb1 := HSB.out k
      have hb2 := HD.out k
      have HN := Lib.hid (HSN.out k)
      generalize T k = y at HC2 hb2 HN
      generalize sumT one9 T k = s1 at HN hb1
      go_wp2_with fail
      with_reducible refine (HC2.out _ HT.out HI.out).mono ?_
      rintro e w2 ⟨rfl, hb⟩
      replace HR := Lib.hid (HR.out.step hb)
      replace HT := Lib.hid (HT.out.step hb)
      replace HI := Lib.hid (HI.out.step hb)
      replace HZ := Lib.hid (HZ.out.step hb)
      replace HB := Lib.hid (below_trans HB.out hb)
      clear hb hc2
      go_wp2
      go_roundw
      case rel => exact ⟨k + 1, by omega, by go_num, by rw [HN.out]; go_num, by go_num, HR, HT, HI, HZ, HB⟩
      case measure => simp [intOf]; omega
    · obtain rfl : k = N := by omega
      go_wp2_with fail
      with_reducible refine (HFR.out _).mono ?_
      rintro e w2 ⟨rfl, hb⟩
      replace HR := Lib.hid (HR.out.step hb)
      replace HB := Lib.hid (below_trans HB.out hb)
      clear hb HT HI HZ
      have q0 := HR.out.c0
      have q1 := HR.out.c1
      have q2 := HR.out.f0
      have q3 := HR.out.f1
      go_wp2
      obtain ⟨hs, hw⟩ := stored2 HR.out.row (.int .i64 ((fr1 (sumT one9 T k) k : Nat) : Int)) (.int .i64 ((fr2 (sumT one9 T k) k : Nat) : Int))
      generalize ((w2.setCell ⟨w.heap.size, 0, none⟩ (.int .i64 ((fr1 (sumT one9 T k) k : Nat) : Int))).setCell ⟨w.heap.size, 1, none⟩ (.int .i64 ((fr2 (sumT one9 T k) k : Nat) : Int))) = wf at hs hw ⊢
      have e0 := two0 hs
      have e1 := two1 hs
      refine bodyPost_ret (v := .agg #[.int .i64 ((fr1 (sumT one9 T k) k : Nat) : Int), .int .i64 ((fr2 (sumT one9 T k) k : Nat) : Int)]) (by simp [results, go_sem, e0, e1]) rfl ?_
      exact ⟨rfl, HB.out.trans (hw.below (Nat.le_refl _) HB.out.size)⟩
theorem qrow_ins9 {w : World} {g : Nat} {l : List Int} (h : Qrow w g l) : Ins w g (g + 1) (some ⟨g, 0, none⟩) l :=
  ⟨fun _ => ⟨g, 0, rfl, Nat.le_refl _, Nat.lt_succ_self _, fun j x hx => by rw [Nat.zero_add, row_cellI h.row]; simp [hx]⟩, h.lt⟩
set_option maxRecDepth 100000 in
set_option maxHeartbeats 16000000 in
theorem meanQuestions_impl (N : Nat) (A : Option Addr) (c lo hi : Nat) (ns : List (Int × Int × Int)) (t : T9) (w : World) (hS : NIns w lo hi A ns) (hT : Tree9 (N : Int) ns t) :
    Calls Try.prog 49 #[.int .i64 (N : Int), .agg #[.slice A ns.length c]] w fun e w' => e = .returned (.tuple #[.agg #[.int .i64 ((fr1 (sumT one9 (deep9 t) N) N : Nat) : Int), .int .i64 ((fr2 (sumT one9 (deep9 t) N) N : Nat) : Int)], .bool true]) ∧ Below w.heap.size w w' := by
  have HT := Lib.hid (One.new w (.slice A ns.length c) 29 w.heap.size rfl)
  have HB := Lib.hid ((Below.refl w.heap.size w).alloc (Nat.le_refl _) (.cells #[.slice A ns.length c] 29))
  have HR := Lib.hid (Two.new (w.alloc (.cells #[.slice A ns.length c] 29)) (.int .i64 0) (.int .i64 0) 62 (w.heap.size + 1) (by simp))
  replace HT := Lib.hid (HT.out.step ((Below.refl _ _).alloc (Nat.le_refl _) (.cells #[.int .i64 0, .int .i64 0] 62)))
  replace HB := Lib.hid (HB.out.alloc HB.out.size (.cells #[.int .i64 0, .int .i64 0] 62))
  have HI := Lib.hid (hS.step HB.out)
  have hn12 := hT.n12
  have HC := Lib.hid (fun W h => isTree_impl (N : Int) A c lo hi ns W h (by have := hT.le127; omega))
  rw [isT9_mk hT] at HC
  have HRp := Lib.hid (fun b W h => repeat_any b 1 N W h (by omega))
  have HM := Lib.hid (fun Az cz lz hz b W h1 h2 h3 => meanOf9 N A c lo hi ns t hT (by omega) (by omega) Az cz lz hz b W h1 h2 h3)
  rw [zsN_one9] at HM
  have hmf : ∀ (fn : Fn) (first cap : Array Value) (w : World), (Instr.makeFunc fn first cap).run Try.prog w = .ok (.func fn first cap) w := fun _ _ _ _ => rfl
  generalize fr1 (sumT one9 (deep9 t) N) N = X at HM ⊢
  generalize fr2 (sumT one9 (deep9 t) N) N = Y at HM ⊢
  clear hS hT
  go_enter Try.func49, Try.ntmps49
  go_wp2_with fail
  generalize (w.alloc (.cells #[.slice A ns.length c] 29)).alloc (.cells #[.int .i64 0, .int .i64 0] 62) = w0 at HB HT HR HI ⊢
  have h0 := HT.out.c0
  with_reducible refine (HC.out _ HI.out).mono ?_
  rintro e w1 ⟨rfl, hb⟩
  replace HB := Lib.hid (below_trans HB.out hb)
  replace HT := Lib.hid (HT.out.step hb)
  replace HR := Lib.hid (HR.out.step hb)
  replace HI := Lib.hid (HI.out.step hb)
  replace h0 := HT.out.c0
  clear hb
  clear h0
  go_wp2_with fail
  have hb := (Below.refl w1.heap.size w1).alloc (Nat.le_refl _) (.cells #[.int .i64 1] 3)
  have HO1 := Lib.hid (One.new w1 (.int .i64 1) 3 w1.heap.size rfl)
  replace HB := Lib.hid (below_trans HB.out hb)
  replace HT := Lib.hid (HT.out.step hb)
  replace HR := Lib.hid (HR.out.step hb)
  replace HI := Lib.hid (HI.out.step hb)
  clear hb
  generalize w1.alloc (.cells #[.int .i64 1] 3) = w2 at HB HT HR HI HO1 ⊢
  with_reducible refine (HRp.out _ _ HO1.out.c0).mono ?_
  rintro e w3 ⟨rfl, hq, hb⟩
  replace HB := Lib.hid (below_trans HB.out hb)
  replace HT := Lib.hid (HT.out.step hb)
  replace HR := Lib.hid (HR.out.step hb)
  replace HI := Lib.hid (HI.out.step hb)
  replace HO1 := Lib.hid (HO1.out.step hb)
  have HQ := Lib.hid (show Ins w3 _ _ _ _ from qrow_ins9 hq)
  clear hq
  clear hb
  clear HO1
  go_wp2_with fail
  with_reducible refine (HM.out _ _ _ _ _ _ HT.out HI.out HQ.out).mono ?_
  rintro e w4 ⟨rfl, hb⟩
  replace HB := Lib.hid (below_trans HB.out hb)
  replace HT := Lib.hid (HT.out.step hb)
  replace HR := Lib.hid (HR.out.step hb)
  replace HI := Lib.hid (HI.out.step hb)
  replace HQ := Lib.hid (HQ.out.step hb)
  clear hb
  clear HQ HI HT
  have r0 := HR.out.c0
  have r1 := HR.out.c1
  have rf0 := HR.out.f0
  have rf1 := HR.out.f1
  have hbs := HB.out.size
  obtain ⟨hs, hw⟩ := stored2 HR.out.row (.int .i64 (X : Int)) (.int .i64 (Y : Int))
  have e0 := two0 hs
  have e1 := two1 hs
  have HF := Lib.hid (HB.out.trans (hw.below (Nat.le_succ _) HB.out.size))
  clear hs hw
  go_wp2
  refine bodyPost_ret (v := .tuple #[.agg #[.int .i64 (X : Int), .int .i64 (Y : Int)], .bool true]) (by simp [results, go_sem, e0, e1]) rfl ?_
  exact ⟨rfl, HF.out⟩
set_option maxRecDepth 100000 in
set_option maxHeartbeats 16000000 in
theorem meanQuestions_spec (N : Nat) (A : Option Addr) (c lo hi : Nat) (ns : List (Int × Int × Int)) (t : T9) (w : World) (hS : NIns w lo hi A ns) (hT : Tree9 (N : Int) ns t) :
    Calls Try.prog 48 #[.int .i64 (N : Int), .agg #[.slice A ns.length c]] w fun e w' => e = .returned (.tuple #[.agg #[.int .i64 ((fr1 (sumT one9 (deep9 t) N) N : Nat) : Int), .int .i64 ((fr2 (sumT one9 (deep9 t) N) N : Nat) : Int)], .bool true]) ∧ Below w.heap.size w w' := by
  have HT := Lib.hid (One.new w (.slice A ns.length c) 29 w.heap.size rfl)
  have HB := Lib.hid ((Below.refl w.heap.size w).alloc (Nat.le_refl _) (.cells #[.slice A ns.length c] 29))
  have HR := Lib.hid (Two.new (w.alloc (.cells #[.slice A ns.length c] 29)) (.int .i64 0) (.int .i64 0) 62 (w.heap.size + 1) (by simp))
  replace HT := Lib.hid (HT.out.step ((Below.refl _ _).alloc (Nat.le_refl _) (.cells #[.int .i64 0, .int .i64 0] 62)))
  replace HB := Lib.hid (HB.out.alloc HB.out.size (.cells #[.int .i64 0, .int .i64 0] 62))
  have HI := Lib.hid (hS.step HB.out)
  have hn12 := hT.n12
  have HC := Lib.hid (fun W h => l9Tree_any (N : Int) A c lo hi ns W h (by have := hT.le127; omega))
  rw [isT9_mk hT] at HC
  have HTl := Lib.hid (fun k hk W h => true9_spec A c lo hi ns k t W h hT.at0 (hT.le127).2 (show k ≤ 12 from hk))
  have HLF := Lib.hid (fun k => show leaf9 k t 0 < ns.length from by have h1 := leaf9_lt k t 0; have := hT.len; omega)
  have HW := Lib.hid (fun k W h => way9_spec (N : Int) A c lo hi ns (leaf9 k t 0) t W h hT (HLF.out k))
  have HD := Lib.hid (fun k => deep9_le hT k)
  have HDD : Hid (∀ k, deep9 t k = (way9 t 0 (leaf9 k t 0)).length) := Lib.hid (fun _ => rfl)
  generalize deep9 t = T at HD HDD ⊢
  have HFR := Lib.hid (fun W => l7Cut_any (sumT one9 T N) N (by omega) (by have := sumT9_le HD.out N; omega) (by omega) W)
  have HSB := Lib.hid (fun k => sumT9_le HD.out k)
  have HSN := Lib.hid (fun k => sumT_one9 T k)
  clear hS hT
  go_enter Try.func48, Try.ntmps48
  go_wp2_with fail
  generalize (w.alloc (.cells #[.slice A ns.length c] 29)).alloc (.cells #[.int .i64 0, .int .i64 0] 62) = w0 at HB HT HR HI ⊢
  have h0 := HT.out.c0
  with_reducible refine (HC.out _ HI.out).mono ?_
  rintro e w1 ⟨rfl, hb⟩
  replace HB := Lib.hid (below_trans HB.out hb)
  replace HT := Lib.hid (HT.out.step hb)
  replace HR := Lib.hid (HR.out.step hb)
  replace HI := Lib.hid (HI.out.step hb)
  replace h0 := HT.out.c0
  clear hb
  clear h0
  clear HC
  go_wp2_with fail
  go_loopw [6, 7] (fun sum i wr => ∃ (k : Nat), k ≤ N ∧ i = .int .i64 k ∧ sum = .int .i64 ((sumT one9 T k : Nat) : Int) ∧ Hid (One wr w.heap.size (.slice A ns.length c) 29) ∧ Hid (Two wr (w.heap.size + 1) (.int .i64 0) (.int .i64 0) 62) ∧ Hid (NIns wr lo hi A ns) ∧ Hid (Below w.heap.size w wr)) (fun _ i _ => N - (intOf i).toNat)
  case atStart => exact ⟨0, Nat.zero_le _, rfl, rfl, HT, HR, HI, HB⟩
  case round =>
    clear HR HT HI HB
    obtain ⟨k, hk, rfl, rfl, HT, HR, HI, HB⟩ := hrel
    rename World => wr
    by_cases hlt : k < N
    · have hki : (k : Int) < (N : Int) := by omega
      have hk0 : (0 : Int) ≤ (k : Int) := by omega
      have HTl2 := Lib.hid (fun W h => HTl.out k (by omega) W h)
      have HW2 := Lib.hid (fun W h => HW.out k W h)
      have hb1 := HSB.out k
      have hb2 := HD.out k
      have HN := Lib.hid (HSN.out k)
      have hdd := HDD.out k
      generalize leaf9 k t 0 = p at HTl2 HW2 hdd
      rw [← hdd] at HW2
      clear hdd
      generalize T k = y at HW2 hb2 HN
      generalize sumT one9 T k = s1 at HN hb1
      have hwr : IntKind.i64.wrap ((s1 : Int) + (y : Int)) = (s1 : Int) + (y : Int) := IntWalk.i64_in _ (by omega)
      go_wp2_with fail
      go_region_held3 (fun w' => w'.cell? ⟨w.heap.size, 0, none⟩ = some (.slice A ns.length c))
        (first
         | exact (HT.out.step (Below.refl _ wr).drew).c0
         | exact HT_2.out.c0
         | exact HT_1.out.c0)
        (first
         | (go_at_call 67; (with_reducible refine (HW2.out _ HI_1.out).mono ?_); rintro e v2 ⟨Bw, dw, rfl, hm, hb⟩; have HZ2 := Lib.hid (below_trans HZ1.out hb); have HT_2 := Lib.hid (HT.out.step HZ2.out); have HR_2 := Lib.hid (HR.out.step HZ2.out); have HI_2 := Lib.hid (HI.out.step HZ2.out); have HB_2 := Lib.hid (below_trans HB.out HZ2.out); clear hb hm)
         | (go_at_call 75; (with_reducible refine (HTl2.out wr.drew (HI.out.step (Below.refl _ wr).drew)).mono ?_); rintro e v1 ⟨rfl, hb⟩; have HZ1 := Lib.hid (below_trans (Below.refl _ wr).drew hb); have HT_1 := Lib.hid (HT.out.step HZ1.out); have HR_1 := Lib.hid (HR.out.step HZ1.out); have HI_1 := Lib.hid (HI.out.step HZ1.out); have HB_1 := Lib.hid (below_trans HB.out HZ1.out); clear hb))
      all_goals
        clear hwr
        go_wp2
        go_roundw
        case rel => exact ⟨k + 1, by omega, by go_num, by rw [HN.out]; go_num, HT_2, HR_2, HI_2, HB_2⟩
        case measure => simp [intOf]; omega
    · obtain rfl : k = N := by omega
      clear HTl HW HT HI
      go_wp2_with fail
      with_reducible refine (HFR.out _).mono ?_
      rintro e w6 ⟨rfl, hb⟩
      replace HR := Lib.hid (HR.out.step hb)
      replace HB := Lib.hid (below_trans HB.out hb)
      clear hb
      have r0 := HR.out.c0
      have r1 := HR.out.c1
      have rf0 := HR.out.f0
      have rf1 := HR.out.f1
      have hbs := HB.out.size
      obtain ⟨hs, hw⟩ := stored2 HR.out.row (.int .i64 ((fr1 (sumT one9 T k) k : Nat) : Int)) (.int .i64 ((fr2 (sumT one9 T k) k : Nat) : Int))
      have e0 := two0 hs
      have e1 := two1 hs
      have HF := Lib.hid (HB.out.trans (hw.below (Nat.le_succ _) HB.out.size))
      clear hs hw
      go_wp2
      refine bodyPost_ret (v := .tuple #[.agg #[.int .i64 ((fr1 (sumT one9 T k) k : Nat) : Int), .int .i64 ((fr2 (sumT one9 T k) k : Nat) : Int)], .bool true]) (by simp [results, go_sem, e0, e1]) rfl ?_
      exact ⟨rfl, HF.out⟩
set_option maxRecDepth 100000 in
set_option maxHeartbeats 8000000 in
theorem meanQuestions_impl_no (n : Int) (A : Option Addr) (c lo hi : Nat) (ns : List (Int × Int × Int)) (w : World) (hS : NIns w lo hi A ns) (hn : ns.length ≤ 1048576) (hno : isT9 n ns = false) :
    Calls Try.prog 49 #[.int .i64 n, .agg #[.slice A ns.length c]] w fun e w' => e = .returned (.tuple #[.agg #[.int .i64 0, .int .i64 0], .bool false]) ∧ Below w.heap.size w w' := by
  have HT := Lib.hid (One.new w (.slice A ns.length c) 29 w.heap.size rfl)
  have HB := Lib.hid ((Below.refl w.heap.size w).alloc (Nat.le_refl _) (.cells #[.slice A ns.length c] 29))
  have HR := Lib.hid (Two.new (w.alloc (.cells #[.slice A ns.length c] 29)) (.int .i64 0) (.int .i64 0) 62 (w.heap.size + 1) (by simp))
  replace HT := Lib.hid (HT.out.step ((Below.refl _ _).alloc (Nat.le_refl _) (.cells #[.int .i64 0, .int .i64 0] 62)))
  replace HB := Lib.hid (HB.out.alloc HB.out.size (.cells #[.int .i64 0, .int .i64 0] 62))
  have HI := Lib.hid (hS.step HB.out)
  have HC := Lib.hid (fun W h => isTree_impl n A c lo hi ns W h hn)
  rw [hno] at HC
  clear hS hno
  go_enter Try.func49, Try.ntmps49
  go_wp2_with fail
  generalize (w.alloc (.cells #[.slice A ns.length c] 29)).alloc (.cells #[.int .i64 0, .int .i64 0] 62) = w0 at HB HT HR HI ⊢
  have h0 := HT.out.c0
  with_reducible refine (HC.out _ HI.out).mono ?_
  rintro e w1 ⟨rfl, hb⟩
  replace HB := Lib.hid (below_trans HB.out hb)
  replace HT := Lib.hid (HT.out.step hb)
  replace HR := Lib.hid (HR.out.step hb)
  replace HI := Lib.hid (HI.out.step hb)
  replace h0 := HT.out.c0
  clear hb
  clear h0
  have r0 := HR.out.c0
  have r1 := HR.out.c1
  have rf0 := HR.out.f0
  have rf1 := HR.out.f1
  have hbs := HB.out.size
  obtain ⟨hs, hw⟩ := stored2 HR.out.row (.int .i64 0) (.int .i64 0)
  have e0 := two0 hs
  have e1 := two1 hs
  have HF := Lib.hid (HB.out.trans (hw.below (Nat.le_succ _) HB.out.size))
  clear hs hw
  go_wp2
  refine bodyPost_ret (v := .tuple #[.agg #[.int .i64 0, .int .i64 0], .bool false]) (by simp [results, go_sem, e0, e1]) rfl ?_
  exact ⟨rfl, HF.out⟩
set_option maxRecDepth 100000 in
set_option maxHeartbeats 8000000 in
theorem meanQuestions_spec_no (n : Int) (A : Option Addr) (c lo hi : Nat) (ns : List (Int × Int × Int)) (w : World) (hS : NIns w lo hi A ns) (hn : ns.length ≤ 1048576) (hno : isT9 n ns = false) :
    Calls Try.prog 48 #[.int .i64 n, .agg #[.slice A ns.length c]] w fun e w' => e = .returned (.tuple #[.agg #[.int .i64 0, .int .i64 0], .bool false]) ∧ Below w.heap.size w w' := by
  have HT := Lib.hid (One.new w (.slice A ns.length c) 29 w.heap.size rfl)
  have HB := Lib.hid ((Below.refl w.heap.size w).alloc (Nat.le_refl _) (.cells #[.slice A ns.length c] 29))
  have HR := Lib.hid (Two.new (w.alloc (.cells #[.slice A ns.length c] 29)) (.int .i64 0) (.int .i64 0) 62 (w.heap.size + 1) (by simp))
  replace HT := Lib.hid (HT.out.step ((Below.refl _ _).alloc (Nat.le_refl _) (.cells #[.int .i64 0, .int .i64 0] 62)))
  replace HB := Lib.hid (HB.out.alloc HB.out.size (.cells #[.int .i64 0, .int .i64 0] 62))
  have HI := Lib.hid (hS.step HB.out)
  have HC := Lib.hid (fun W h => l9Tree_any n A c lo hi ns W h hn)
  rw [hno] at HC
  clear hS hno
  go_enter Try.func48, Try.ntmps48
  go_wp2_with fail
  generalize (w.alloc (.cells #[.slice A ns.length c] 29)).alloc (.cells #[.int .i64 0, .int .i64 0] 62) = w0 at HB HT HR HI ⊢
  have h0 := HT.out.c0
  with_reducible refine (HC.out _ HI.out).mono ?_
  rintro e w1 ⟨rfl, hb⟩
  replace HB := Lib.hid (below_trans HB.out hb)
  replace HT := Lib.hid (HT.out.step hb)
  replace HR := Lib.hid (HR.out.step hb)
  replace HI := Lib.hid (HI.out.step hb)
  replace h0 := HT.out.c0
  clear hb
  clear h0
  have r0 := HR.out.c0
  have r1 := HR.out.c1
  have rf0 := HR.out.f0
  have rf1 := HR.out.f1
  have hbs := HB.out.size
  obtain ⟨hs, hw⟩ := stored2 HR.out.row (.int .i64 0) (.int .i64 0)
  have e0 := two0 hs
  have e1 := two1 hs
  have HF := Lib.hid (HB.out.trans (hw.below (Nat.le_succ _) HB.out.size))
  clear hs hw
  go_wp2
  refine bodyPost_ret (v := .tuple #[.agg #[.int .i64 0, .int .i64 0], .bool false]) (by simp [results, go_sem, e0, e1]) rfl ?_
  exact ⟨rfl, HF.out⟩
theorem meanQuestions_both (n : Int) (ns : List (Int × Int × Int)) (h : ns.length ≤ 1048576) : ∃ (r0 u0 : Int) (r1 : Bool),
    (∀ (w : World) (B : Option Addr) (c lo hi : Nat), NIns w lo hi B ns → Calls Try.prog 49 #[.int .i64 n, .agg #[.slice B ns.length c]] w fun e w' => e = .returned (.tuple #[.agg #[.int .i64 r0, .int .i64 u0], .bool r1]) ∧ Below w.heap.size w w') ∧
    (∀ (w : World) (B : Option Addr) (c lo hi : Nat), NIns w lo hi B ns → Calls Try.prog 48 #[.int .i64 n, .agg #[.slice B ns.length c]] w fun e w' => e = .returned (.tuple #[.agg #[.int .i64 r0, .int .i64 u0], .bool r1]) ∧ Below w.heap.size w w') := by
  cases hno : isT9 n ns with
  | false => exact ⟨0, 0, false, fun w B c lo hi hS => meanQuestions_impl_no n B c lo hi ns w hS h hno, fun w B c lo hi hS => meanQuestions_spec_no n B c lo hi ns w hS h hno⟩
  | true =>
    obtain ⟨t, hT⟩ := isT9_of hno
    have hn12 := hT.n12
    obtain ⟨N, rfl⟩ : ∃ N : Nat, n = (N : Int) := ⟨n.toNat, by omega⟩
    exact ⟨_, _, true, fun w B c lo hi hS => meanQuestions_impl N B c lo hi ns t w hS hT, fun w B c lo hi hS => meanQuestions_spec N B c lo hi ns t w hS hT⟩
end Go.Proofs.Ytnomgnjfamideaa
