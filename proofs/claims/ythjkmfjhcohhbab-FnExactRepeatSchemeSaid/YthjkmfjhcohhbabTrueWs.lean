/- TrueWords: both. -/
import Derived.Test.YthjkmfjhcohhbabWords
import Derived.Test.YthjkmfjhcohhbabNums
namespace Go.Proofs.Ythjkmfjhcohhbab
open Go.RowKit Go.ChangeShapes Go.WideShapes
set_option linter.unusedVariables false

/-- A list and whether it is one, handed back in memory of the call's own. -/
def LAns (w : World) (l : List Int) (b : Bool) (e : Ending) (w' : World) : Prop :=
  ∃ B c', e = .returned (.tuple #[.slice B l.length c', .bool b]) ∧ Res w' w.heap.size w'.heap.size B l ∧ Below w.heap.size w w'
theorem lans_row {w w' : World} {g c' p : Nat} {l : List Int} {e : Ending} (hl : l.length = p) (he : e = .returned (.tuple #[.slice (some ⟨g, 0, none⟩) p c', .bool true])) (hg : w.heap.size ≤ g) (hr : w'.heap[g]? = some (.cells (l.map (Value.int .i64)).toArray 3 (0, 0))) (hb : Below w.heap.size w w') : LAns w l true e w' :=
  ⟨_, c', by rw [he, hl], ⟨.inr ⟨g, _, rfl, hg, row_ltI hr, hr, by simp, fun j x hx => by simp [hx]⟩, Nat.le_refl _⟩, hb⟩
theorem lans_own {w w' : World} {v : Value} {zs : List Int} {b : Bool} {e : Ending} (he : e = .returned (.tuple #[v, .bool b])) (ho : w'.ownsRow w.heap.size 3 1 v zs.length (zs.map (Value.int .i64))) (hb : Below w.heap.size w w') : LAns w zs b e w' := own_ans0 he ho hb
theorem lans_nil {w w1 : World} (hb : Below w.heap.size w w1) : LAns w [] false (.returned (.tuple #[.slice (some ⟨w1.heap.size, 0, none⟩) 0 0, .bool false])) (w1.alloc (.cells #[] 3)) :=
  ⟨_, 0, rfl, empty_res w1 w.heap.size hb.size, hb.alloc hb.size _⟩
/-- The true words as integers. -/
def twI (qs : List Int) (n : Nat) : List Int := (twL qs n).map Int.ofNat
theorem twI_len (qs : List Int) (n : Nat) : (twI qs n).length = n := by simp [twI, twL_len]
theorem twI_at {qs : List Int} {n k : Nat} (h : k < (twI qs n).length) : (twI qs n)[k] = (twN qs k : Int) := by simp [twI, twL]
theorem W14.new0 (w : World) : W14 (w.alloc (.cells #[.bool false, .bool false, .bool false, .bool false, .bool false, .bool false, .bool false, .bool false, .bool false, .bool false, .bool false, .bool false, .bool false, .bool false] 93)) w.heap.size (fun _ => false) := by
  have := W14.new w (fun _ => false) w.heap.size rfl
  rwa [bwv_zero] at this
/-- A word laid into a block of its own. -/
theorem below_new14 (w : World) (p : Nat → Bool) : Below w.heap.size w ((w.alloc (.cells #[.bool false, .bool false, .bool false, .bool false, .bool false, .bool false, .bool false, .bool false, .bool false, .bool false, .bool false, .bool false, .bool false, .bool false] 93)).setRow w.heap.size (bwv p)) :=
  below_setRow ((Below.refl _ _).alloc (Nat.le_refl _) _) (Nat.le_refl _) _

set_option maxRecDepth 100000 in
set_option maxHeartbeats 2000000 in
theorem trueWords_impl (A : Option Addr) (c lo hi : Nat) (n : Nat) (qs : List Int) (w : World) (hS : Ins w lo hi A qs) (hs : isSch n qs = true) :
    Calls Try.prog 24 #[.int .i64 (n : Int), .slice A qs.length c] w (LAns w (twI qs n) true) := by
  obtain ⟨hn, hl, hq⟩ := isSch_iff.1 hs
  have hn12 : n ≤ 12 := by omega
  have HI := Lib.hid hS
  have htop := hS.top
  have HC := Lib.hid (fun W h => isScheme_impl A c lo hi (n : Int) qs W h (by omega))
  rw [hs] at HC
  have hmk := makeInts n (by omega)
  rw [← twI_len qs n, ← rowI_nil, twI_len] at hmk
  have HT := Lib.hid (fun W h => allTrue_any A c lo hi qs n W h hl hn12)
  have HN := Lib.hid (fun k W => number_any (twN qs k).testBit W)
  have HR0 : Hid ((w.alloc (.cells (rowI (twI qs n) 0) 3)).heap[w.heap.size]? = some (.cells (rowI (twI qs n) 0) 3 (0, 0))) := alloc_row _ _ _
  have HB0 := Lib.hid ((Below.refl w.heap.size w).alloc (Nat.le_refl _) (.cells (rowI (twI qs n) 0) 3))
  clear hS hs hq
  unfold LAns
  go_enter Try.func24, Try.ntmps24
  go_wp2_with fail
  refine (HC.out w HI.out).mono ?_
  rintro e w1 ⟨rfl, rfl⟩
  go_wp2_with fail
  clear hmk
  generalize hwa : w1.alloc (.cells (rowI (twI qs n) 0) 3) = wa at HR0 HB0 ⊢
  have hlt0 := row_ltI HR0.out
  clear hwa
  refine (HT.out wa (HI.out.step HB0.out)).mono ?_
  rintro e wb ⟨rfl, hW, hb⟩
  have HW := Lib.hid hW
  have HR1 := Lib.hid ((hb.block _ hlt0).trans HR0.out)
  have HB1 := Lib.hid (below_trans HB0.out hb)
  clear hW hb HR0 HB0
  generalize wa.heap.size = g at HW hlt0 ⊢
  go_wp2_with fail
  go_loopw [20] (fun i wr => ∃ (k : Nat), k ≤ n ∧ i = .int .i64 k ∧ Hid (wr.heap[w1.heap.size]? = some (.cells (rowI (twI qs n) k) 3 (0, 0))) ∧ Hid (Wds wr g (twN qs) n) ∧ Hid (Below w1.heap.size w1 wr)) (fun i _ => n - (intOf i).toNat)
  case atStart => exact ⟨0, Nat.zero_le _, rfl, HR1, HW, HB1⟩
  case round =>
    clear HR1 HB1 HW
    obtain ⟨k, hk, rfl, HR, HW, HB⟩ := hrel
    rename World => wr
    by_cases hlt : k < n
    · have HZ := Lib.hid (W14.new0 wr)
      have HP := Lib.hid (HZ.out.put (twN qs k).testBit)
      have HNk := Lib.hid (HN.out k)
      rw [ofB_self (twN_14 hl k)] at HNk
      go_wp2_with (first | (with_reducible refine wpList_load14at rfl (.tmp 23) rfl g n k (twN qs) rfl HW.out hlt ?_) | (with_reducible refine wpList_store14 rfl (.tmp 8) (.tmp 24) rfl wr.heap.size (fun _ => false) (twN qs k).testBit rfl rfl HZ.out ?_) | (with_reducible refine wpList_load14 rfl (.tmp 8) rfl wr.heap.size (twN qs k).testBit rfl HP.out ?_))
      have HBn := Lib.hid (below_new14 wr (twN qs k).testBit)
      generalize ((wr.alloc (.cells #[.bool false, .bool false, .bool false, .bool false, .bool false, .bool false, .bool false, .bool false, .bool false, .bool false, .bool false, .bool false, .bool false, .bool false] 93)).setRow wr.heap.size (bwv (twN qs k).testBit)) = wn at HBn ⊢
      clear HZ HP
      refine (HNk.out wn).mono ?_
      rintro e wq ⟨rfl, hb⟩
      have HBq := Lib.hid (below_trans HBn.out hb)
      have hR := (HBq.out.block _ (row_ltI HR.out)).trans HR.out
      have HWq := Lib.hid (HW.out.step HBq.out)
      have HBB := Lib.hid (below_trans HB.out HBq.out)
      clear hb HBn HBq HR HW HB HNk
      have hcell := row_cellI hR (i := k)
      rw [rowI_at (by rw [twI_len]; exact hlt)] at hcell
      have hfr := row_freeI hR k
      have HR2 := Lib.hid (row_setI hR k (.int .i64 (twN qs k : Int)))
      have hat := twI_at (qs := qs) (n := n) (k := k) (by rw [twI_len]; exact hlt)
      rw [← hat, rowI_set (by rw [twI_len]; exact hlt), hat] at HR2
      have HB2 := Lib.hid (below_setC HBB.out (g := w1.heap.size) (Nat.le_refl _) k (.int .i64 (twN qs k : Int)))
      have HW2 : Hid (Wds (wq.setCell ⟨w1.heap.size, k, none⟩ (.int .i64 (twN qs k : Int))) g (twN qs) n) := Lib.hid ⟨(Below.heap_setCell wq ⟨w1.heap.size, k, none⟩ _ g (fun e => by have e' : g = w1.heap.size := e; omega)).trans HWq.out.row⟩
      clear hat hR HBB HWq
      go_wp2
      go_roundw
      case rel => exact ⟨k + 1, by omega, by go_num, HR2, HW2, HB2⟩
      case measure => simp [intOf]; omega
    · obtain rfl : k = n := by omega
      have hR := HR.out
      rw [show rowI (twI qs k) k = ((twI qs k).map (Value.int .i64)).toArray by
        have := rowI_full (twI qs k)
        rwa [twI_len] at this] at hR
      have HRf := Lib.hid hR
      clear hR
      go_wp2
      go_ret2
      exact lans_row (twI_len _ _) rfl (Nat.le_refl _) HRf.out HB.out
set_option maxHeartbeats 2000000 in
theorem trueWords_no (A : Option Addr) (c lo hi : Nat) (n : Int) (qs : List Int) (w : World) (hS : Ins w lo hi A qs) (hl : qs.length ≤ 1048576) (hs : isSch n qs = false) :
    Calls Try.prog 24 #[.int .i64 n, .slice A qs.length c] w (LAns w [] false) := by
  have HI := Lib.hid hS
  have HC := Lib.hid (fun W h => isScheme_impl A c lo hi n qs W h hl)
  rw [hs] at HC
  clear hS
  go_enter Try.func24, Try.ntmps24
  go_wp2_with fail
  refine (HC.out w HI.out).mono ?_
  rintro e w1 ⟨rfl, rfl⟩
  go_wp2
  go_ret2
  exact lans_nil (Below.refl _ _)
set_option maxHeartbeats 2000000 in
theorem trueWords_spec_no (A : Option Addr) (c lo hi : Nat) (n : Int) (qs : List Int) (w : World) (hS : Ins w lo hi A qs) (hl : qs.length ≤ 1048576) (hs : isSch n qs = false) :
    Calls Try.prog 25 #[.int .i64 n, .slice A qs.length c] w (LAns w [] false) := by
  have HI := Lib.hid hS
  have HC := Lib.hid (fun W h => l5Scheme_any A c lo hi n qs W h hl)
  rw [hs] at HC
  clear hS
  go_enter Try.func25, Try.ntmps25
  go_wp2_with fail
  refine (HC.out w HI.out).mono ?_
  rintro e w1 ⟨rfl, rfl⟩
  go_wp2
  go_ret2
  exact lans_nil (Below.refl _ _)
set_option maxHeartbeats 2000000 in
theorem trueWords_spec (A : Option Addr) (c lo hi : Nat) (n : Nat) (qs : List Int) (w : World) (hS : Ins w lo hi A qs) (hs : isSch n qs = true) :
    Calls Try.prog 25 #[.int .i64 (n : Int), .slice A qs.length c] w (LAns w (twI qs n) true) := by
  obtain ⟨hn, hl, hq⟩ := isSch_iff.1 hs
  have HI := Lib.hid hS
  have HC := Lib.hid (fun W h => l5Scheme_any A c lo hi (n : Int) qs W h (by omega))
  rw [hs] at HC
  have HW := Lib.hid (fun W h => l5Words_any A c lo hi qs n W h hl (by omega))
  clear hS hs hq
  go_enter Try.func25, Try.ntmps25
  go_wp2_with fail
  refine (HC.out w HI.out).mono ?_
  rintro e w1 ⟨rfl, rfl⟩
  go_wp2_with fail
  refine (HW.out _ HI.out).mono ?_
  rintro e w2 ⟨v, rfl, ho, hb⟩
  have HO := Lib.hid ho
  have HB := Lib.hid hb
  clear ho hb
  go_wp2
  go_ret2
  exact lans_own rfl HO.out HB.out
theorem trueWords_both (n : Int) (qs : List Int) (h : qs.length ≤ 1048576) : ∃ (r0 : List Int) (r1 : Bool), r0.length ≤ 1048576 ∧
    (∀ (w : World) (B : Option Addr) (c lo hi : Nat), Ins w lo hi B qs → Calls Try.prog 24 #[.int .i64 n, .slice B qs.length c] w fun e w' => ∃ B c', e = .returned (.tuple #[.slice B r0.length c', .bool r1]) ∧ Res w' w.heap.size w'.heap.size B r0 ∧ Below w.heap.size w w') ∧
    (∀ (w : World) (B : Option Addr) (c lo hi : Nat), Ins w lo hi B qs → Calls Try.prog 25 #[.int .i64 n, .slice B qs.length c] w fun e w' => ∃ B c', e = .returned (.tuple #[.slice B r0.length c', .bool r1]) ∧ Res w' w.heap.size w'.heap.size B r0 ∧ Below w.heap.size w w') := by
  cases hs : isSch n qs with
  | false => exact ⟨[], false, by simp, fun w B c lo hi hS => trueWords_no B c lo hi n qs w hS h hs, fun w B c lo hi hS => trueWords_spec_no B c lo hi n qs w hS h hs⟩
  | true =>
    obtain ⟨hn, _, _⟩ := isSch_iff.1 hs
    obtain ⟨m, rfl⟩ : ∃ m : Nat, n = (m : Int) := ⟨n.toNat, by omega⟩
    exact ⟨twI qs m, true, by rw [twI_len]; omega, fun w B c lo hi hS => trueWords_impl B c lo hi m qs w hS hs, fun w B c lo hi hS => trueWords_spec B c lo hi m qs w hS hs⟩
end Go.Proofs.Ythjkmfjhcohhbab
