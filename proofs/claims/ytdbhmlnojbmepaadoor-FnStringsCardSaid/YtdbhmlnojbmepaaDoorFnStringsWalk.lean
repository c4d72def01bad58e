/- The law on numerals and checksums: its walk over the draws and the functions' contracts. -/
import Derived.Test.YtdbhmlnojbmepaaDoorPut
import Derived.Test.YtdbhmlnojbmepaaDoorRead
import Derived.Test.YtdbhmlnojbmepaaDoorChange
import Derived.StillTailTactics
import Derived.Lib.ConvBytes
import Derived.IntWalk
namespace Go.Proofs.YtdbhmlnojbmepaaDoor
open Go.RowKit
set_option linter.unusedVariables false

/-- The bytes that came in are there still. -/
theorem Code.below {w w' : World} {B n : Nat} {A : Option Addr} (h : Code w B A n) (hb : Below w.heap.size w w') (hB : B ≤ w.heap.size) : Code w' w'.heap.size A n := fun h0 => by
  obtain ⟨b, o, e, hl, hc⟩ := h h0
  refine ⟨b, o, e, Nat.lt_of_lt_of_le hl (Nat.le_trans hB hb.size), fun j hj => ?_⟩
  obtain ⟨z, hz⟩ := hc j hj
  exact ⟨z, (World.cell?_of_block (a := ⟨b, o + j, none⟩) (hb.block b (by omega))).trans hz⟩
/-- What FormatInt answers is read again. -/
theorem fmt_ans (n : Int) : ∃ (ft : ByteArray) (fo : Bool), ft.size ≤ 9 ∧ (fo = true → pAns ft.data.toList = some n) ∧ ∀ w e w', OptStr w (fAns n) e w' → e = .returned (.tuple #[.string ft, .bool fo]) ∧ Below w.heap.size w w' := by
  refine ⟨⟨((fAns n).getD []).toArray⟩, (fAns n).isSome, ?_, ?_, fun w e w' h => h⟩
  · unfold fAns
    split
    · next h => rw [Option.getD_some, mk_size]; have := itoa_len8 (n := n) (by omega) (by omega); omega
    · simp [ByteArray.size]
  · unfold fAns
    split
    · next h => exact fun _ => pAns_itoa h.1 h.2
    · exact fun h => by cases h
theorem app_ans (x : ByteArray) : aAns x = none ∨ (aAns x = some (sealB x) ∧ hasC x 35 = false ∧ (sealB x).size ≤ 4000) := by
  unfold aAns
  split
  · next h => exact .inr ⟨rfl, h.2.1, h.2.2⟩
  · exact .inl rfl

/-- The bytes of a row that a conversion has made. -/
def BRow (w : World) (g : Nat) (l : List UInt8) : Prop := ∃ (cs : Array Value), w.heap[g]? = some (.cells cs 5 (cs.size, cs.size + 1)) ∧ ∀ (j : Nat) x, l[j]? = some x → cs[j]? = some (.int .u8 (x.toNat : Int))
theorem brow_new (w : World) (s : ByteArray) : BRow (Lib.bytesWorld w 5 s) w.heap.size s.data.toList := by
  refine ⟨_, Lib.bytesWorld_at_new w _ s, fun j x hx => ?_⟩
  have hj : j < s.data.size := by have := (List.getElem?_eq_some_iff.1 hx).1; simpa using this
  have e : s.data[j]? = some x := by rw [← hx, Array.getElem?_toList]
  unfold Lib.bytesCells
  rw [Array.getElem?_append_left (by simpa using hj)]
  simp [e]
theorem BRow.cell {w : World} {g k : Nat} {l : List UInt8} (h : BRow w g l) {x : UInt8} (hx : l[k]? = some x) : w.cell? ⟨g, k, none⟩ = some (.int .u8 (x.toNat : Int)) := by
  obtain ⟨cs, hr, hc⟩ := h
  rw [cell_of_row w g k cs _ _ hr]
  exact hc k x hx
theorem BRow.le {w : World} {g k : Nat} {l : List UInt8} (h : BRow w g l) (hk : k < l.length) : ∃ (cs : Array Value), k < cs.size ∧ w.heap[g]? = some (.cells cs 5 (cs.size, cs.size + 1)) := by
  obtain ⟨cs, hr, hc⟩ := h
  exact ⟨cs, (Array.getElem?_eq_some_iff.1 (hc k l[k] (List.getElem?_eq_getElem hk))).1, hr⟩
theorem BRow.free {w : World} {g k : Nat} {l : List UInt8} (h : BRow w g l) (hk : k < l.length) : w.frozen? ⟨g, k, none⟩ = false := by
  obtain ⟨cs, hlt, hr⟩ := h.le hk
  simp [World.frozen?, hr]
  omega
theorem BRow.set {w : World} {g k : Nat} {l : List UInt8} (h : BRow w g l) (hk : k < l.length) (c : UInt8) : BRow (w.setCell ⟨g, k, none⟩ (.int .u8 (c.toNat : Int))) g (l.set k c) := by
  obtain ⟨cs2, hlt, hr2⟩ := h.le hk
  obtain ⟨cs, hr, hc⟩ := h
  obtain rfl : cs = cs2 := by rw [hr] at hr2; injection hr2 with e; injection e
  refine ⟨cs.setIfInBounds k (.int .u8 (c.toNat : Int)), ?_, fun j x hx => ?_⟩
  · rw [Array.size_setIfInBounds]
    simp [World.setCell, Array.getElem?_modify, hr]
  · by_cases e : k = j
    · subst e
      rw [List.getElem?_set_self hk] at hx
      injection hx with hx
      subst hx
      simp [hlt]
    · rw [List.getElem?_set_ne e] at hx
      rw [Array.getElem?_setIfInBounds_ne e]
      exact hc j x hx
theorem BRow.conv {w : World} {g : Nat} {l : List UInt8} (h : BRow w g l) (cap : Nat) : (convert 22 9 (.slice (some ⟨g, 0, none⟩) l.length cap)).run Tryd.prog w = .ok (.string ⟨l.toArray⟩) w :=
  run_convert_bytes_back (P := Tryd.prog) w 22 9 5 ⟨g, 0, none⟩ cap l Tryd.underlying22 Tryd.underlying5 Tryd.underlying9 (fun j hj => by
    have e : (⟨g, 0, none⟩ : Addr).add j = ⟨g, j, none⟩ := by
      unfold Addr.add
      by_cases h0 : j = 0
      · subst h0; rfl
      · simp [h0]
    rw [e]
    exact h.cell (List.getElem?_eq_getElem hj))
theorem below_bytes {a w : World} (h : Below a.heap.size a w) (s : ByteArray) : Below a.heap.size a (Lib.bytesWorld w 5 s) :=
  ⟨h.os, h.tape, h.output, by rw [Lib.bytesWorld_size]; have := h.size; omega, fun j hj => (Lib.bytesWorld_at_old w _ s j (Nat.lt_of_lt_of_le hj h.size)).trans (h.block j hj)⟩
theorem below_cell {a w : World} {B g : Nat} (h : Below B a w) (hg : B ≤ g) (i : Nat) (u : Value) : Below B a (w.setCell ⟨g, i, none⟩ u) :=
  ⟨h.os, h.tape, h.output, by simpa [World.setCell] using h.size, fun j hj => (Below.heap_setCell w ⟨g, i, none⟩ u j (by rintro rfl; exact absurd hg (by simp; omega))).trans (h.block j hj)⟩

theorem xor_change (cb : UInt8) (v : Nat) (hv : v ≤ 255) : ∃ cn : UInt8, bits .xor .u8 (cb.toNat : Int) (IntKind.u8.wrap (IntKind.i64.wrap (1 + (v : Int).tmod 255))) = (cn.toNat : Int) ∧ cn ≠ cb := by
  have h1 : (v : Int).tmod 255 = ((v % 255 : Nat) : Int) := by
    rw [Int.tmod_eq_emod_of_nonneg (by omega)]; omega
  rw [h1, IntWalk.i64_in _ (by omega), IntKind.wrap_u8]
  obtain ⟨d, hd⟩ : ∃ d : Nat, d = 1 + v % 255 := ⟨_, rfl⟩
  have hd1 : 1 ≤ d ∧ d ≤ 255 := by omega
  have e : (1 + ((v % 255 : Nat) : Int)) % 256 = (d : Int) := by omega
  rw [e]
  clear e hd h1 hv
  refine ⟨cb ^^^ UInt8.ofNat d, ?_, fun e => ?_⟩
  · show IntKind.u8.wrap ((BitVec.ofInt 8 (cb.toNat : Int) ^^^ BitVec.ofInt 8 (d : Int)).toNat : Int) = _
    rw [IntKind.wrap_u8]
    have hc := cb.toNat_lt
    rw [BitVec.toNat_xor, UInt8.toNat_xor]
    have a1 : (BitVec.ofInt 8 (cb.toNat : Int)).toNat = cb.toNat := by simp
    have a2 : (BitVec.ofInt 8 (d : Int)).toNat = (UInt8.ofNat d).toNat := by simp
    rw [a1, a2]
    have := (cb ^^^ UInt8.ofNat d).toNat_lt
    rw [UInt8.toNat_xor] at this
    omega
  · have h2 : cb ^^^ (cb ^^^ UInt8.ofNat d) = cb ^^^ cb := by rw [e]
    rw [← UInt8.xor_assoc, UInt8.xor_self, UInt8.zero_xor] at h2
    have h3 := congrArg UInt8.toNat h2
    rw [UInt8.toNat_ofNat'] at h3
    simp at h3
    omega

set_option maxRecDepth 100000 in
set_option maxHeartbeats 4000000 in
theorem fnStrings_walk (A : Option Addr) (n c : Nat) (W : World) (hC : Code W W.heap.size A n) (hnc : n ≤ c) (hcm : c ≤ maxLen) (hL : laidMetH Tryd.prog Rows.fnStringsRow.laid W) (hsh : W.ShapedOpen Tryd.prog) :
    Calls Tryd.prog 3 #[.slice A n c] W fun e w' => e = .returned (.bool true) ∧ Below W.heap.size W w' := by
  have HP := Lib.hid (show Pow W from laid_pow hL)
  have HE := Lib.hid (show Errs W from laid_errs hL)
  have HM := Lib.hid (maxL_of hsh)
  clear hL hsh
  have V := Lib.hid (vBig_any A n c W (Nat.le_trans hnc hcm))
  clear hcm
  by_cases hbig : 65536 < n
  · rw [decide_eq_true hbig] at V
    clear hC hnc hbig HP HE HM
    go_enter Tryd.func3, Tryd.ntmps3
    go_wp2_with fail
    refine V.out.mono ?_
    rintro e w' ⟨rfl, rfl⟩
    go_wp2_with fail
    go_ret
    exact ⟨rfl, Below.refl _ _⟩
  · rw [decide_eq_false hbig] at V
    have hn : n ≤ 65536 := by omega
    have C0 := Lib.hid hC
    clear hC hnc hbig
    go_enter Tryd.func3, Tryd.ntmps3
    go_wp2_with fail
    refine V.out.mono ?_
    rintro e w' ⟨rfl, rfl⟩
    clear V
    go_wp2_with fail
    refine (drawFormat_any A n c W C0.out hn).mono ?_
    rintro e w1 ⟨x, rfl, hx1, hx2, hb1⟩
    have B1 := Lib.hid hb1
    have hwf : (Lit.int .i64 x).wf = true := by simp [Lit.wf, IntKind.min, IntKind.max, IntKind.signed, IntKind.bits]; omega
    obtain ⟨ft, fo, hft, hfo, hans⟩ := fmt_ans x
    have F1 := Lib.hid ((format_impl x w1 hwf (HP.out.below hb1)).mono (hans w1))
    have F2 := Lib.hid (fun w => (format_spec x w hwf).mono (hans w))
    have hfo := Lib.hid hfo
    clear hb1 hwf hans
    go_wp2_with fail
    refine F1.out.mono ?_
    rintro e w2 ⟨rfl, hb⟩
    have B2 := Lib.hid (below_trans B1.out hb)
    clear hb F1 B1
    go_wp2_with fail
    refine (F2.out w2).mono ?_
    rintro e w3 ⟨rfl, hb⟩
    have B3 := Lib.hid (below_trans B2.out hb)
    clear hb F2 B2
    go_wp2_with fail
    refine (drawParse_any A n c w3 (C0.out.below B3.out (Nat.le_refl _)) hn).mono ?_
    rintro e w4 ⟨t, rfl, ht, hb⟩
    have B4 := Lib.hid (below_trans B3.out hb)
    clear hb B3
    go_wp2_with fail
    refine (parse_impl t w4 (by omega) (HP.out.below B4.out) (HE.out.below B4.out)).mono ?_
    rintro e w5 ⟨rfl, hb⟩
    have B5 := Lib.hid (below_trans B4.out hb)
    clear hb B4
    have PS := Lib.hid (parse_spec t w5 (by omega))
    generalize pAns t.data.toList = pa at PS ⊢
    go_wp2_with fail
    refine PS.out.mono ?_
    rintro e w6 ⟨rfl, hb⟩
    have B6 := Lib.hid (below_trans B5.out hb)
    clear hb B5 PS ht
    generalize pa.getD 0 = pm
    generalize pa.isSome = po
    go_wp2_with fail
    refine (drawAppend_any A n c w6 (C0.out.below B6.out (Nat.le_refl _)) hn).mono ?_
    rintro e w7 ⟨s, rfl, hs, hb⟩
    have B7 := Lib.hid (below_trans B6.out hb)
    clear hb B6
    have A1 := Lib.hid (append_impl s w7 (by omega) (HP.out.below B7.out) (HM.out.below B7.out))
    have A2 := Lib.hid (fun w => append_spec s w (by omega))
    have hap := Lib.hid (app_ans s)
    generalize aAns s = aa at A1 A2 hap
    go_wp2_with fail
    refine A1.out.mono ?_
    rintro e w8 ⟨rfl, hb⟩
    have B8 := Lib.hid (below_trans B7.out hb)
    clear hb B7 A1
    go_wp2_with fail
    refine (A2.out w8).mono ?_
    rintro e w9 ⟨rfl, hb⟩
    have B9 := Lib.hid (below_trans B8.out hb)
    clear hb B8 A2
    obtain ⟨y, hy⟩ : ∃ y, y = aa.getD ⟨#[]⟩ := ⟨_, rfl⟩
    obtain ⟨so, hso⟩ : ∃ so, so = aa.isSome := ⟨_, rfl⟩
    rw [← hy, ← hso]
    have HY := Lib.hid hy
    have HS := Lib.hid hso
    clear hy hso
    have P9 := Lib.hid (parse_impl ft w9 (by omega) (HP.out.below B9.out) (HE.out.below B9.out))
    generalize pAns ft.data.toList = pb at P9 hfo
    rcases (show (fo = true ∧ pb = some x) ∨ fo = false from by cases fo; exact .inr rfl; exact .inl ⟨rfl, hfo.out rfl⟩) with ⟨rfl, rfl⟩ | rfl
    · clear hfo
      go_wp2_with fail
      refine P9.out.mono ?_
      rintro e w10 ⟨rfl, hb⟩
      have B10 := Lib.hid (below_trans B9.out hb)
      clear hb B9 P9
      rcases hap.out with rfl | ⟨rfl, h35, hsz⟩
      · obtain rfl := HY.out
        obtain rfl := HS.out
        go_wp2_with fail
        go_ret
        exact ⟨rfl, B10.out⟩
      · obtain rfl : so = true := HS.out
        have hy : y = sealB s := HY.out
        have V1 := verify_impl y w10 (by rw [hy]; omega) (HP.out.below B10.out) (HM.out.below B10.out)
        rw [show vAns y = some s from by rw [hy]; exact seal_back h35 hsz] at V1
        have hy0 : 0 < y.size := by rw [hy, sealB_size]; omega
        have hy4 : y.size ≤ 4000 := by rw [hy]; exact hsz
        have V1 := Lib.hid V1
        have h35 := Lib.hid h35
        have hcv : ∀ W : World, (convert 9 22 (.string y)).run Tryd.prog W = .ok (.slice (some ⟨W.heap.size, 0, none⟩) y.size (grownCap W y.size 0 5)) (Lib.bytesWorld W 5 y) := fun W => Lib.run_convert_string_bytes W _ _ _ y Tryd.underlying9 Tryd.underlying22 Tryd.underlying5
        clear hsz hap HS hy
        go_wp2_with fail
        refine V1.out.mono ?_
        rintro e w11 ⟨rfl, hb⟩
        have B11 := Lib.hid (below_trans B10.out hb)
        clear hb B10 V1
        go_wp2_with fail
        have B12 := Lib.hid (below_bytes B11.out y)
        have R12 := Lib.hid (brow_new w11 y)
        have hg12 := B11.out.size
        generalize hg : w11.heap.size = g at hg12 R12 ⊢
        generalize grownCap w11 y.size 0 5 = cp
        generalize Lib.bytesWorld w11 5 y = w12 at B12 R12 ⊢
        clear B11 hg hcv
        obtain ⟨v9, hv9, hc9⟩ := vAt_any A n c 9 _ w12 (C0.out.below B12.out (Nat.le_refl _)) hn (by omega)
        have K9 := Lib.hid hc9
        clear hc9
        refine K9.out.mono ?_
        rintro e w' ⟨rfl, rfl⟩
        clear K9
        go_wp2_with fail
        obtain ⟨k, hk, hki⟩ : ∃ k : Nat, (v9 : Int) % (y.size : Int) = (k : Int) ∧ (k : Int) < (y.size : Int) := ⟨v9 % y.size, by omega, by have := Nat.mod_lt v9 hy0; omega⟩
        rw [hk]
        clear hk hv9
        have hkl : k < y.data.toList.length := by rw [← Lib.size_eq]; omega
        obtain ⟨cb, hcb⟩ : ∃ cb, y.data.toList[k]? = some cb := ⟨_, List.getElem?_eq_getElem hkl⟩
        have RD := Lib.hid (show BRow w12.drew g y.data.toList from R12.out)
        have BD := Lib.hid (show Below W.heap.size W w12.drew from below_drewN B12.out 1)
        have hcell := RD.out.cell hcb
        have hfree := RD.out.free hkl
        have hcb1 := cb.toNat_lt
        obtain ⟨v10, hv10, hc10⟩ := vAt_any A n c 10 _ w12.drew (C0.out.below BD.out (Nat.le_refl _)) hn (by omega)
        have K10 := Lib.hid hc10
        clear hc10
        refine wp_region_still_tail 13 (by kernel_rfl) (by kernel_rfl) ?_
        change wpStill _ _ w12.drew (fun a' => wpList _ _ _ _ a' w12.drew) _ _
        generalize w12.drew = wd at RD BD hcell hfree K10 ⊢
        clear B12 R12
        simp only [List.take_succ_cons, List.take_zero, List.drop_succ_cons, List.drop_zero]
        repeat still_step
        refine wpStill_step (fun K hK => ?_)
        go_simp
        refine ⟨.int .i64 (v10 : Int), K10.out.mono fun e w' h => ⟨h.1, h.2.symm⟩, hK _ ?_⟩
        clear hK K K10
        repeat still_step
        try refine wpStill_nil ?_
        obtain ⟨cn, hcn, hne⟩ := xor_change cb v10 hv10
        rw [hcn]
        clear hcn hv10 hcb1
        obtain ⟨y2, hy2⟩ : ∃ y2 : ByteArray, y2 = ⟨(y.data.toList.set k cn).toArray⟩ := ⟨_, rfl⟩
        have hs2 : y2.size = y.size := by rw [hy2, mk_size, List.length_set, ← Lib.size_eq]
        have RS := RD.out.set hkl cn
        have hconv := RS.conv cp
        rw [List.length_set, ← Lib.size_eq, ← hy2] at hconv
        have BS := Lib.hid (below_cell BD.out hg12 k (.int .u8 (cn.toNat : Int)))
        have hv2 : vAns y2 = none := changed_told (x := s) (k := k) (c := cn) h35.out (by have := HY.out; rw [Option.getD_some] at this; rw [← this]; omega) (by have := HY.out; rw [Option.getD_some] at this; rw [← this, hcb]; intro e; injection e with e; exact hne e.symm) (by have := HY.out; rw [Option.getD_some] at this; rw [← this, hy2])
        have V2 := verify_impl y2 (wd.setCell ⟨g, k, none⟩ (.int .u8 (cn.toNat : Int))) (by omega) (HP.out.below BS.out) (HM.out.below BS.out)
        rw [hv2] at V2
        have V2 := Lib.hid V2
        clear hy2 RS hv2 hcb hne RD BD HY
        go_wp2_with fail
        refine V2.out.mono ?_
        rintro e w14 ⟨rfl, hb⟩
        have B14 := Lib.hid (below_trans BS.out hb)
        clear hb BS V2
        go_wp2_with fail
        go_ret
        exact ⟨rfl, B14.out⟩
    · clear hfo
      go_wp2_with fail
      refine P9.out.mono ?_
      rintro e w10 ⟨rfl, hb⟩
      have B10 := Lib.hid (below_trans B9.out hb)
      clear hb B9 P9
      rcases hap.out with rfl | ⟨rfl, h35, hsz⟩
      · obtain rfl := HY.out
        obtain rfl := HS.out
        go_wp2_with fail
        go_ret
        exact ⟨rfl, B10.out⟩
      · obtain rfl : so = true := HS.out
        have hy : y = sealB s := HY.out
        have V1 := verify_impl y w10 (by rw [hy]; omega) (HP.out.below B10.out) (HM.out.below B10.out)
        rw [show vAns y = some s from by rw [hy]; exact seal_back h35 hsz] at V1
        have hy0 : 0 < y.size := by rw [hy, sealB_size]; omega
        have hy4 : y.size ≤ 4000 := by rw [hy]; exact hsz
        have V1 := Lib.hid V1
        have h35 := Lib.hid h35
        have hcv : ∀ W : World, (convert 9 22 (.string y)).run Tryd.prog W = .ok (.slice (some ⟨W.heap.size, 0, none⟩) y.size (grownCap W y.size 0 5)) (Lib.bytesWorld W 5 y) := fun W => Lib.run_convert_string_bytes W _ _ _ y Tryd.underlying9 Tryd.underlying22 Tryd.underlying5
        clear hsz hap HS hy
        go_wp2_with fail
        refine V1.out.mono ?_
        rintro e w11 ⟨rfl, hb⟩
        have B11 := Lib.hid (below_trans B10.out hb)
        clear hb B10 V1
        go_wp2_with fail
        have B12 := Lib.hid (below_bytes B11.out y)
        have R12 := Lib.hid (brow_new w11 y)
        have hg12 := B11.out.size
        generalize hg : w11.heap.size = g at hg12 R12 ⊢
        generalize grownCap w11 y.size 0 5 = cp
        generalize Lib.bytesWorld w11 5 y = w12 at B12 R12 ⊢
        clear B11 hg hcv
        obtain ⟨v9, hv9, hc9⟩ := vAt_any A n c 9 _ w12 (C0.out.below B12.out (Nat.le_refl _)) hn (by omega)
        have K9 := Lib.hid hc9
        clear hc9
        refine K9.out.mono ?_
        rintro e w' ⟨rfl, rfl⟩
        clear K9
        go_wp2_with fail
        obtain ⟨k, hk, hki⟩ : ∃ k : Nat, (v9 : Int) % (y.size : Int) = (k : Int) ∧ (k : Int) < (y.size : Int) := ⟨v9 % y.size, by omega, by have := Nat.mod_lt v9 hy0; omega⟩
        rw [hk]
        clear hk hv9
        have hkl : k < y.data.toList.length := by rw [← Lib.size_eq]; omega
        obtain ⟨cb, hcb⟩ : ∃ cb, y.data.toList[k]? = some cb := ⟨_, List.getElem?_eq_getElem hkl⟩
        have RD := Lib.hid (show BRow w12.drew g y.data.toList from R12.out)
        have BD := Lib.hid (show Below W.heap.size W w12.drew from below_drewN B12.out 1)
        have hcell := RD.out.cell hcb
        have hfree := RD.out.free hkl
        have hcb1 := cb.toNat_lt
        obtain ⟨v10, hv10, hc10⟩ := vAt_any A n c 10 _ w12.drew (C0.out.below BD.out (Nat.le_refl _)) hn (by omega)
        have K10 := Lib.hid hc10
        clear hc10
        refine wp_region_still_tail 13 (by kernel_rfl) (by kernel_rfl) ?_
        change wpStill _ _ w12.drew (fun a' => wpList _ _ _ _ a' w12.drew) _ _
        generalize w12.drew = wd at RD BD hcell hfree K10 ⊢
        clear B12 R12
        simp only [List.take_succ_cons, List.take_zero, List.drop_succ_cons, List.drop_zero]
        repeat still_step
        refine wpStill_step (fun K hK => ?_)
        go_simp
        refine ⟨.int .i64 (v10 : Int), K10.out.mono fun e w' h => ⟨h.1, h.2.symm⟩, hK _ ?_⟩
        clear hK K K10
        repeat still_step
        try refine wpStill_nil ?_
        obtain ⟨cn, hcn, hne⟩ := xor_change cb v10 hv10
        rw [hcn]
        clear hcn hv10 hcb1
        obtain ⟨y2, hy2⟩ : ∃ y2 : ByteArray, y2 = ⟨(y.data.toList.set k cn).toArray⟩ := ⟨_, rfl⟩
        have hs2 : y2.size = y.size := by rw [hy2, mk_size, List.length_set, ← Lib.size_eq]
        have RS := RD.out.set hkl cn
        have hconv := RS.conv cp
        rw [List.length_set, ← Lib.size_eq, ← hy2] at hconv
        have BS := Lib.hid (below_cell BD.out hg12 k (.int .u8 (cn.toNat : Int)))
        have hv2 : vAns y2 = none := changed_told (x := s) (k := k) (c := cn) h35.out (by have := HY.out; rw [Option.getD_some] at this; rw [← this]; omega) (by have := HY.out; rw [Option.getD_some] at this; rw [← this, hcb]; intro e; injection e with e; exact hne e.symm) (by have := HY.out; rw [Option.getD_some] at this; rw [← this, hy2])
        have V2 := verify_impl y2 (wd.setCell ⟨g, k, none⟩ (.int .u8 (cn.toNat : Int))) (by omega) (HP.out.below BS.out) (HM.out.below BS.out)
        rw [hv2] at V2
        have V2 := Lib.hid V2
        clear hy2 RS hv2 hcb hne RD BD HY
        go_wp2_with fail
        refine V2.out.mono ?_
        rintro e w14 ⟨rfl, hb⟩
        have B14 := Lib.hid (below_trans BS.out hb)
        clear hb BS V2
        go_wp2_with fail
        go_ret
        exact ⟨rfl, B14.out⟩
end Go.Proofs.YtdbhmlnojbmepaaDoor
