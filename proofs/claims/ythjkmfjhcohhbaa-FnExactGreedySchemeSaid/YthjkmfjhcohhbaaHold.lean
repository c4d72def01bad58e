/- The numbers by their true words. -/
import Derived.Test.YthjkmfjhcohhbaaHoldK
import Derived.Test.YthjkmfjhcohhbaaSOf
namespace Go.Proofs.Ythjkmfjhcohhbaa
open Go.RowKit Go.ChangeShapes Go.WideShapes Go.Maps Go.MapKept Go.ChangeMaps
set_option linter.unusedVariables false

/-- The numbers below k whose true word is v. -/
def grp (qs : List Int) (k v : Nat) : List Int := filt (fun j => twN qs j == v) k
theorem grp_same (qs : List Int) (k : Nat) : grp qs (k + 1) (twN qs k) = grp qs k (twN qs k) ++ [(k : Int)] := filt_yes (by simp)
theorem grp_other {qs : List Int} {k v : Nat} (h : twN qs k ≠ v) : grp qs (k + 1) v = grp qs k v := filt_no (by simpa using h)
theorem grp_len (qs : List Int) (k v : Nat) : (grp qs k v).length ≤ k := filt_len _ _
theorem grp_mem {qs : List Int} {k v : Nat} {x : Int} : x ∈ grp qs k v ↔ ∃ j : Nat, j < k ∧ twN qs j = v ∧ x = (j : Int) := by
  unfold grp
  rw [filt_iff]
  exact ⟨fun ⟨j, a, b, c⟩ => ⟨j, a, by simpa using b, c⟩, fun ⟨j, a, b, c⟩ => ⟨j, a, by simpa using b, c⟩⟩
theorem wf_num {k : Nat} (h : k ≤ 12) : (Lit.int .i64 (k : Int)).wf = true := by
  have : ∀ c : Nat, c ≤ 12 → (Lit.int .i64 (c : Int)).wf = true := by decide +kernel
  exact this k h
def gdat (l : List Int) : DataW Value := match l with | [] => .nil | x :: r => .slice (lits .i64 (x :: r)) []
theorem gdat_row {w : World} {base : Nat} {v : Value} {zs l : List Int} (ho : w.ownsInts base 3 .i64 v zs) (h : gdat l = rowDatum .i64 v zs) : zs = l := by
  rcases ho.datum (H := Value) with ⟨hd, hz⟩ | hd
  · rw [hd] at h
    cases l with
    | nil => exact hz
    | cons x r => cases h
  · rw [hd] at h
    cases l with
    | nil => cases h
    | cons x r =>
      simp only [gdat] at h
      injection h with h1 _
      have hinj : ∀ a b : Int, (DataW.lit (.int .i64 a) : DataW Value) = .lit (.int .i64 b) → a = b := fun a b e => by cases e; rfl
      unfold lits at h1
      exact ((List.map_inj_right hinj).1 h1).symm
theorem gdat_made {w : World} {base : Nat} {v : Value} {zs : List Int} (ho : w.ownsInts base 3 .i64 v zs) (hne : zs ≠ []) : rowDatum .i64 v zs = gdat zs := by
  rw [ho.datum_pos hne]
  cases zs with
  | nil => exact absurd rfl hne
  | cons x r => rfl

/-- The map of the first k numbers by their true words. -/
structure Hold (w : World) (M base : Nat) (qs : List Int) (k : Nat) (D : DataW Value) : Prop where
  owns : w.ownsGroups Try.prog 48 base 3 .i64 M k D
  keys : ∀ kl, has D kl = true → ∃ j, j < k ∧ kl = klW (twN qs j).testBit
  mem : ∀ j, j < k → has D (klW (twN qs j).testBit) = true
  told : ∀ v, v < 2 ^ 14 → D.atKey (klW v.testBit) .nil = gdat (grp qs k v)
theorem groups_empty {w : World} {b base : Nat} {P : Program} {k e : TypeId} {q : IntKind} (hb : w.heap[b]? = some (.map #[] 0)) (h : b < base) : w.ownsGroups (H := Value) P k base e q b 0 (.map []) :=
  ⟨#[], 0, hb, ⟨by simp, stamped_empty 0, by simp⟩, Nat.le_refl _, rfl, h, by simp, by simp⟩
theorem Hold.zero {w : World} {M base : Nat} (qs : List Int) (hb : w.heap[M]? = some (.map #[] 0)) (h : M < base) : Hold w M base qs 0 (.map []) :=
  ⟨groups_empty hb h, fun kl h => (by cases h), fun j h => absurd h (by omega), fun v _ => rfl⟩
theorem groups_isMap {w : World} {P : Program} {k e : TypeId} {base b n : Nat} {q : IntKind} {D : DataW Value} (h : w.ownsGroups P k base e q b n D) : IsMap D := by
  obtain ⟨es, clock, _, _, _, rfl, _⟩ := h
  exact ⟨_, rfl⟩
theorem Hold.put {w w3 : World} {M base : Nat} {qs : List Int} {k : Nat} {D : DataW Value} (h : Hold w M base qs k D) (hl : qs.length ≤ 14) {d : DataW Value} (hd : d = gdat (grp qs (k + 1) (twN qs k))) (ho : w3.ownsGroups Try.prog 48 base 3 .i64 M (k + 1) (D.put (klW (twN qs k).testBit) d)) :
    Hold w3 M base qs (k + 1) (D.put (klW (twN qs k).testBit) d) := by
  have hi := groups_isMap h.owns
  refine ⟨ho, fun kl hk => ?_, fun j hj => ?_, fun v hv => ?_⟩
  · by_cases e : kl = klW (twN qs k).testBit
    · exact ⟨k, by omega, e⟩
    · rw [has_put_other e] at hk
      obtain ⟨j, hj, e2⟩ := h.keys kl hk
      exact ⟨j, by omega, e2⟩
  · by_cases e : klW (twN qs j).testBit = klW (twN qs k).testBit
    · rw [e]; exact has_put_same hi (klW_key _) _
    · rw [has_put_other e]
      exact h.mem j (by
        by_cases e2 : j = k
        · subst e2; exact absurd rfl e
        · omega)
  · by_cases e : v = twN qs k
    · subst e
      rw [atKey_put_same hi (klW_key _), hd]
    · rw [atKey_put_other (fun e2 => e (klW_inj hv (twN_14 hl k) e2)), h.told v hv, grp_other (fun e2 => e e2.symm)]
theorem grown_none {w w' : World} (h : Below w.heap.size w w') : w.grownBy w' none := ⟨h.os, h.tape, h.output, h.size, fun i hi _ => h.block i hi⟩
theorem Hold.lt {w : World} {M base : Nat} {qs : List Int} {k : Nat} {D : DataW Value} (h : Hold w M base qs k D) : M < w.heap.size := by
  obtain ⟨es, clock, hb, _⟩ := h.owns
  exact (Array.getElem?_eq_some_iff.1 hb).1
theorem groups_step {w w' : World} {P : Program} {k e : TypeId} {base b n : Nat} {q : IntKind} {D : DataW Value} (h : w.ownsGroups P k base e q b n D) (hb : Below w.heap.size w w') : w'.ownsGroups P k base e q b n D :=
  h.kept (grown_none hb) (by simp) (fun es clock hbk x hx => by
    cases hx' : x.val.ownBlock with
    | none => exact .inl rfl
    | some g => exact .inr (by simp))
theorem Hold.step {w w' : World} {M base : Nat} {qs : List Int} {k : Nat} {D : DataW Value} (h : Hold w M base qs k D) (hb : Below w.heap.size w w') : Hold w' M base qs k D :=
  ⟨groups_step h.owns hb, h.keys, h.mem, h.told⟩
theorem under_holders : Try.prog.underlying 61 = some (.map 48 22) := by kernel_rfl
theorem zero_ints : ∀ u : World, (zeroValue 22).run Try.prog u = .ok (.slice none 0 0) u := fun u => by
  simp
theorem wpList_mapEntry_holds {w : World} {ops : Array Oper} {rest : List Oper} {o : Oper} {a : Act} {Q : Exit → Act → World → Prop} (hg : o.guard = none) (m x : Operand) (hop : o.op = Op.mapEntry 61 m x)
    (M base n : Nat) (D : DataW Value) (p : Nat → Bool) (hm : a.eval m = .map (some M)) (hx : a.eval x = .agg (bwv p)) (hown : w.ownsGroups Try.prog 48 base 3 .i64 M n D) (hn : n < maxLen)
    (hK : ∀ (v : Value) (zs : List Int) (st : Nat) (w1 : World), D.atKey (klW p) .nil = rowDatum .i64 v zs → w1.ownsInts base 3 .i64 v zs → zs.length ≤ n → w.grownBy w1 (some M) → w1.heap.size = w.heap.size →
      Hid (∀ (w2 : World) (v' : Value) (zs' : List Int), w1.grownBy w2 v.ownBlock → w2.ownsInts base 3 .i64 v' zs' → zs'.length ≤ n + 1 → (v'.ownBlock = v.ownBlock ∨ ∃ g, v'.ownBlock = some g ∧ w1.heap.size ≤ g) →
        ∃ w3, (Instr.entryStore 61 (.map (some M)) (goInt st) v').run Try.prog w2 = .ok () w3 ∧ w3.ownsGroups Try.prog 48 base 3 .i64 M (n + 1) (D.put (klW p) (rowDatum .i64 v' zs')) ∧ w2.grownBy w3 (some M) ∧ w3.heap.size = w2.heap.size) →
      wpList Try.prog ops Q rest (a.put o.dst (.tuple #[v, goInt st])) w1) : wpList Try.prog ops Q (o :: rest) a w := by
  refine wpList_plain hg fun K' hK' => ?_
  obtain ⟨v, zs, st, w1, hrun, h1, h2, h3, h4, h5, h6⟩ := groups_entry arrWord.law hown under_holders zero_ints hn (keyWord p)
  unfold Oper.wp
  simp [execOp, hop, hm, hx, hrun, Result.andThen]
  exact hK' _ _ (hK v zs st w1 h1 h2 h3 h4 h5 h6)
theorem wpList_entryStore_run {w : World} {ops : Array Oper} {rest : List Oper} {o : Oper} {a : Act} {Q : Exit → Act → World → Prop} (hg : o.guard = none) (m s x : Operand) (t : TypeId) (hop : o.op = Op.entryStore t m s x)
    (M st : Nat) (v : Value) (w3 : World) (hm : a.eval m = .map (some M)) (hs : a.eval s = goInt st) (hx : a.eval x = v) (hrun : (Instr.entryStore t (.map (some M)) (goInt st) v).run Try.prog w = .ok () w3)
    (hK : wpList Try.prog ops Q rest (a.put o.dst undef) w3) : wpList Try.prog ops Q (o :: rest) a w := by
  refine wpList_plain hg fun K' hK' => ?_
  unfold Oper.wp
  simp [execOp, hop, hm, hs, hx, hrun, Result.andThen]
  exact hK' _ _ hK

theorem qrow_news {w : World} {b : Nat} {x : Int} (h : Qrow w b [x]) : ∀ j u, [Value.int .i64 x][j]? = some u → w.cell? ((⟨b, 0, none⟩ : Addr).add j) = some u := fun j u hu => by
  cases j with
  | zero =>
    have e : (⟨b, 0, none⟩ : Addr).add 0 = ⟨b, 0, none⟩ := by unfold Addr.add; simp
    rw [e, h.cell (j := 0) (x := x) rfl]
    simpa using hu
  | succ j => simp at hu
theorem Qrow.grown {w w' : World} {b : Nat} {l : List Int} {r : Option Nat} (h : Qrow w b l) (hg : w.grownBy w' r) (hne : some b ≠ r) : Qrow w' b l := ⟨(hg.block b h.lt hne).trans h.row⟩
theorem Wds.grown {w w' : World} {b n : Nat} {f : Nat → Nat} {r : Option Nat} (h : Wds w b f n) (hg : w.grownBy w' r) (hne : some b ≠ r) : Wds w' b f n := ⟨(hg.block b h.lt hne).trans h.row⟩
theorem W14.grown {w w' : World} {b : Nat} {p : Nat → Bool} {r : Option Nat} (h : W14 w b p) (hg : w.grownBy w' r) (hne : some b ≠ r) : W14 w' b p := ⟨(hg.block b h.lt hne).trans h.row⟩
theorem own_far {w : World} {base b : Nat} {v : Value} {zs : List Int} (h : w.ownsInts base 3 .i64 v zs) (hb : b < base) : some b ≠ v.ownBlock := fun e => by
  have := (h.1.lt b e.symm).1
  omega
/-- What a round leaves. -/
theorem hold_round {wr w1 wf w3 : World} {M base ga ca st : Nat} {qs : List Int} {k : Nat} {D : DataW Value} {v : Value} {zs : List Int} (hH : Hold wr M base qs k D) (hl : qs.length ≤ 14) (hk : k ≤ 12)
    (hat : D.atKey (klW (twN qs k).testBit) .nil = rowDatum .i64 v zs) (hoi : w1.ownsInts base 3 .i64 v zs) (hown : wf.ownsInts base 3 .i64 (.slice (some ⟨ga, 0, none⟩) (zs.length + 1) ca) (zs ++ [(k : Int)]))
    (ho3 : w3.ownsGroups Try.prog 48 base 3 .i64 M (k + 1) (D.put (klW (twN qs k).testBit) (rowDatum .i64 (.slice (some ⟨ga, 0, none⟩) (zs.length + 1) ca) (zs ++ [(k : Int)])))) :
    ∃ D', Hold w3 M base qs (k + 1) D' := by
  have hz : zs = grp qs k (twN qs k) := by
    rw [hH.told _ (twN_14 hl k)] at hat
    exact gdat_row hoi hat
  refine ⟨_, hH.put hl ?_ ho3⟩
  rw [gdat_made hown (by simp), grp_same, ← hz]

set_option maxRecDepth 100000 in
set_option maxHeartbeats 4000000 in
theorem holdersOf_any (A : Option Addr) (c lo hi : Nat) (qs : List Int) (n : Nat) (w : World) (hS : Ins w lo hi A qs) (hl : qs.length ≤ 14) (hn : n ≤ 12) :
    Calls Try.prog 65 #[.int .i64 (n : Int), .slice A qs.length c] w fun e w' => ∃ base D, e = .returned (.map (some w.heap.size)) ∧ Hold w' w.heap.size base qs n D ∧ Below w.heap.size w w' := by
  obtain ⟨i0, hi0, hz0, hz1, hz2⟩ := info_parts infoI3
  have HI := Lib.hid hS
  have htop := hS.top
  have HT := Lib.hid (fun W h => allTrue_any A c lo hi qs n W h hl hn)
  have B0 := (Below.refl w.heap.size w).alloc (Nat.le_refl _) (.map #[] 0)
  have hM0 := (MapKept.heap_alloc w (.map #[] 0)).1
  have HI1 := Lib.hid (hS.step B0)
  have HB0 := Lib.hid B0
  have HM0 := Lib.hid hM0
  have hmm : (Instr.makeMap 61 none).run Try.prog w = .ok (.map (some w.heap.size)) (w.alloc (.map #[] 0)) := rfl
  clear hS B0 hM0
  go_enter Try.func65, Try.ntmps65
  go_wp2_with fail
  clear hmm
  generalize w.alloc (.map #[] 0) = wa at HI1 HB0 HM0 ⊢
  have hMlt : w.heap.size < wa.heap.size := (Array.getElem?_eq_some_iff.1 HM0.out).1
  refine (HT.out wa HI1.out).mono ?_
  rintro e wb ⟨rfl, hW, hb⟩
  have HW := Lib.hid hW
  have HH0 := Lib.hid (Hold.zero qs ((hb.block _ hMlt).trans HM0.out) (Nat.lt_of_lt_of_le hMlt hb.size))
  have HB1 := Lib.hid (below_trans HB0.out hb)
  have hgM : wa.heap.size ≠ w.heap.size := by omega
  have hwb := HB1.out.size
  have hglt := hW.lt
  clear hW hb HI1 HB0 HM0 HT hMlt
  generalize wa.heap.size = g at HW hgM hglt ⊢
  go_wp2_with fail
  go_loopw [13] (fun i wr => ∃ (k : Nat) (D : DataW Value), k ≤ n ∧ i = .int .i64 k ∧ Hid (Hold wr w.heap.size wb.heap.size qs k D) ∧ Hid (Wds wr g (twN qs) n) ∧ Hid (Below w.heap.size w wr) ∧ wb.heap.size ≤ wr.heap.size) (fun i _ => n - (intOf i).toNat)
  case atStart => exact ⟨0, _, Nat.zero_le _, rfl, HH0, HW, HB1, Nat.le_refl _⟩
  case round =>
    clear HH0 HB1 HW
    obtain ⟨k, D, hk, rfl, HH, HW, HB, hsz⟩ := hrel
    rename World => wr
    by_cases hlt : k < n
    · have HZ := Lib.hid (W14.new0 wr)
      have HP := Lib.hid (HZ.out.put (twN qs k).testBit)
      have HBn := Lib.hid (below_new14 wr (twN qs k).testBit)
      have HW2 := Lib.hid (HW.out.step HBn.out)
      have HH2 := Lib.hid (HH.out.step HBn.out)
      have HB2 := Lib.hid (below_trans HB.out HBn.out)
      have hsz2 : wb.heap.size ≤ ((wr.alloc (.cells #[.bool false, .bool false, .bool false, .bool false, .bool false, .bool false, .bool false, .bool false, .bool false, .bool false, .bool false, .bool false, .bool false, .bool false] 48)).setRow wr.heap.size (bwv (twN qs k).testBit)).heap.size := Nat.le_trans hsz HBn.out.size
      have BA := (Below.refl _ ((wr.alloc (.cells #[.bool false, .bool false, .bool false, .bool false, .bool false, .bool false, .bool false, .bool false, .bool false, .bool false, .bool false, .bool false, .bool false, .bool false] 48)).setRow wr.heap.size (bwv (twN qs k).testBit))).alloc (Nat.le_refl _) (.cells #[.int .i64 (k : Int)] 3)
      have HH3 := Lib.hid (HH2.out.step BA)
      have HW3 := Lib.hid (HW2.out.step BA)
      have HB3 := Lib.hid (below_trans HB2.out BA)
      have HC3 : Hid (Qrow (((wr.alloc (.cells #[.bool false, .bool false, .bool false, .bool false, .bool false, .bool false, .bool false, .bool false, .bool false, .bool false, .bool false, .bool false, .bool false, .bool false] 48)).setRow wr.heap.size (bwv (twN qs k).testBit)).alloc (.cells #[.int .i64 (k : Int)] 3)) (wr.heap.size + 1) [(k : Int)]) := Lib.hid ⟨alloc_row' _ _ _ _ (by simp)⟩
      have hsz3 := Nat.le_trans hsz2 BA.size
      have HE := Lib.hid (fun (w1 wf w3 : World) (ga ca : Nat) (v : Value) (zs : List Int) hat hoi hown ho3 => hold_round (w1 := w1) (wf := wf) (w3 := w3) (ga := ga) (ca := ca) (st := 0) (v := v) (zs := zs) HH.out hl (show k ≤ 12 by omega) hat hoi hown ho3)
      have hMw := HB.out.size
      have hkm : k < maxLen := by unfold maxLen; omega
      clear HH HB HBn HH2 HB2 HW2 BA hsz2
      go_wp2_with (first
        | (with_reducible refine wpList_load14at rfl (.tmp 16) rfl g n k (twN qs) rfl HW.out hlt ?_)
        | (with_reducible refine wpList_store14 rfl (.tmp 7) (.tmp 17) rfl wr.heap.size (fun _ => false) (twN qs k).testBit rfl rfl HZ.out ?_)
        | (with_reducible refine wpList_load14 rfl (.tmp 7) rfl wr.heap.size (twN qs k).testBit rfl HP.out ?_)
        | (refine wpList_mapEntry_holds rfl (.tmp 18) (.tmp 19) rfl w.heap.size wb.heap.size k D (twN qs k).testBit rfl rfl HH3.out.owns hkm ?_; intro v zs st w1 hat hoi hzl hg1 hs1 hst; have HQ1 := Lib.hid (HC3.out.grown hg1 (by intro e; injection e; omega)); have HW1 := Lib.hid (HW3.out.grown hg1 (by intro e; injection e; omega)); have HB1 := Lib.hid (HB3.out.grown hg1 HB3.out.size (fun j hj => by injection hj; omega)); have hsz1 := Nat.le_trans hsz3 hg1.size; have HAt := Lib.hid hat; have HOi := Lib.hid hoi; clear hat hoi hg1 hs1 HH3 HC3 HW3 HB3 hsz3 HZ HP HW)
        | (at_builtin; refine wpList_append_lies _ rfl (.tmp 20) (.tmp 22) 22 rfl wb.heap.size 3 i0 (.int .i64 0) 1 8 Try.underlying22 hi0 hz0 hz1 hz2 rfl (by decide) v zs.length (zs.map (Value.int .i64)) rfl HOi.out.1 ⟨wr.heap.size + 1, 0, none⟩ 1 1 [.int .i64 (k : Int)] rfl rfl (qrow_news HQ1.out) (by simp [Value.oneCell']) (by decide) (by unfold maxLen; omega) (by omega) hsz1 _ rfl ?_; intro ga ca wf hown ha hblk hlta; have HOwn := Lib.hid (HOi.out.appended hown (wf_num (show k ≤ 12 by omega))); obtain ⟨w3, hrun, ho3, hg3, hs3⟩ := hst.out wf (.slice (some ⟨ga, 0, none⟩) (zs.length + 1) ca) (zs ++ [(k : Int)]) ha HOwn.out (by simp; omega) (hblk.imp (fun e => e.symm) (fun e => ⟨ga, rfl, by omega⟩)); have HW3 := Lib.hid ((HW1.out.grown ha (own_far HOi.out hglt)).grown hg3 (by intro e; injection e; omega)); have HB3 := Lib.hid ((HB1.out.grown ha HB1.out.size (fun j hj => by have := (HOi.out.1.lt j hj).1; omega)).grown hg3 (Nat.le_trans HB1.out.size ha.size) (fun j hj => by injection hj; omega)); have hsz3 := Nat.le_trans hsz1 (Nat.le_trans ha.size hg3.size); have HD := Lib.hid (HE.out w1 wf w3 ga ca v zs HAt.out HOi.out HOwn.out ho3); clear hown ha hblk hlta ho3 hg3 hs3 HQ1 HW1 HB1 hsz1 HAt HOi HOwn hst)
        | (refine wpList_entryStore_run rfl (.tmp 18) (.tmp 25) (.tmp 24) 61 rfl w.heap.size st (.slice (some ⟨ga, 0, none⟩) (zs.length + 1) ca) w3 rfl rfl rfl hrun ?_; clear hrun))
      obtain ⟨D', hD'⟩ := HD.out
      have HDD := Lib.hid hD'
      clear hD' HD
      go_wp2
      go_roundw
      case rel => exact ⟨k + 1, D', by omega, by go_num, HDD, HW3, HB3, hsz3⟩
      case measure => simp [intOf]; omega
    · obtain rfl : k = n := by omega
      go_wp2
      go_ret
      exact ⟨_, _, rfl, HH.out, HB.out⟩
end Go.Proofs.Ythjkmfjhcohhbaa
