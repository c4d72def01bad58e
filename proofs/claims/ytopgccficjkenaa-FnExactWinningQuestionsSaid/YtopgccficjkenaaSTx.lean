/- The text of a state, as the program writes it. -/
import Derived.Test.YtopgccficjkenaaBld
import Derived.Test.YtopgccficjkenaaShelf
import Derived.Test.YtopgccficjkenaaStates
namespace Go.Proofs.Ytopgccficjkenaa
open Go.RowKit Go.ChangeShapes Go.WideShapes
set_option linter.unusedVariables false

set_option maxHeartbeats 1000000 in
theorem digitOf_any (d : Int) (w : World) (h0 : 0 ≤ d) (hd : d ≤ 2) :
    Calls Try.prog 128 #[.int .i64 d] w fun e w' => e = .returned (.int .u8 (48 + d)) ∧ w' = w := by
  obtain rfl | rfl | rfl : d = 0 ∨ d = 1 ∨ d = 2 := by omega
  all_goals
    go_enter Try.func128, Try.ntmps128
    go_wp2
    go_ret
    exact ⟨rfl, rfl⟩
/-- A number's sign, the text's signs. -/
def signOf (z : Int) : UInt8 := if z = -1 then 45 else UInt8.ofNat (48 + z.toNat)
def textTo (zs : List Int) (m : Int) (k : Nat) : List UInt8 := signOf m :: 58 :: (zs.take k).map signOf
theorem textTo_next {zs : List Int} {m : Int} {k : Nat} (h : k < zs.length) : textTo zs m (k + 1) = textTo zs m k ++ [signOf zs[k]] := by
  simp only [textTo, List.take_add_one, List.getElem?_eq_getElem h, Option.toList_some, List.map_append, List.map_cons, List.map_nil, List.cons_append]
theorem textTo_len {zs : List Int} {m : Int} {k : Nat} : (textTo zs m k).length ≤ k + 2 := by
  simp [textTo]; omega
theorem byteCells_snoc (l : List UInt8) (c : UInt8) : Lib.byteCells (l ++ [c]) = Lib.byteCells l ++ [.int .u8 (c.toNat : Int)] := by simp [Lib.byteCells]
theorem byteCells_len (l : List UInt8) : (Lib.byteCells l).length = l.length := by simp [Lib.byteCells]
theorem signOf_digit {z : Int} (h0 : 0 ≤ z) (h : z ≤ 2) : ((signOf z).toNat : Int) = 48 + z := by
  obtain rfl | rfl | rfl : z = 0 ∨ z = 1 ∨ z = 2 := by omega
  all_goals rfl

set_option maxRecDepth 100000 in
set_option maxHeartbeats 4000000 in
theorem stateText_impl (A : Option Addr) (c lo hi : Nat) (zs : List Int) (m : Int) (w : World) (hS : Ins w lo hi A zs) (hn : zs.length ≤ 12) (hm : 0 ≤ m ∧ m ≤ 2) (hz : ∀ (j : Nat) (h : j < zs.length), -1 ≤ zs[j] ∧ zs[j] ≤ 2) (hst : isSt zs m = true) :
    Calls Try.prog 122 #[.agg #[.slice A zs.length c, .int .i64 m]] w fun e w' => e = .returned (.tuple #[.string ⟨(textTo zs m zs.length).toArray⟩, .bool true]) ∧ Below w.heap.size w w' := by
  have HX0 := Lib.hid (Arg.next (Below.refl w.heap.size w) (.slice A zs.length c) (.int .i64 m) 26 w.heap.size rfl)
  have HI0 := Lib.hid (hS.step HX0.out.below)
  have HC := Lib.hid (fun W h' => isState_impl A c lo hi zs m W h' (by omega))
  rw [hst] at HC
  have HM := Lib.hid (fun W => digitOf_any m W hm.1 hm.2)
  have HZ := Lib.hid hz
  have HSM := Lib.hid (signOf_digit hm.1 hm.2)
  clear hS hz hst hm
  go_enter Try.func122, Try.ntmps122
  go_wp2_with fail
  generalize w.alloc (.cells #[.slice A zs.length c, .int .i64 m] 26) = wa at HX0 HI0 ⊢
  refine (HC.out wa HI0.out).mono ?_
  rintro e wb ⟨rfl, hb⟩
  have HX1 := Lib.hid (HX0.out.step hb)
  have HI1 := Lib.hid (HI0.out.step hb)
  clear hb HX0 HI0 HC
  have hx0 := HX1.out.c0
  have hx1 := HX1.out.c1
  have hxh := HX1.out.hi
  have HF0 := Lib.hid (Lib.fresh_isBuilder 131 5 wb)
  have HB0 := Lib.hid ((Below.refl wb.heap.size wb).alloc (Nat.le_refl _) (.cells #[.pointer none, .slice none 0 0] 131))
  have HX2 := Lib.hid (HX1.out.step HB0.out)
  have hy0 := HX2.out.c0
  have hy1 := HX2.out.c1
  go_wp2_with (go_at_call 128; refine (HM.out _).mono ?_; rintro e w1 ⟨rfl, rfl⟩)
  refine (bld_byte wb.heap.size wb.heap.size [] (48 + m) _ HF0.out (by simp) (by simp)).mono ?_
  rintro e w2 ⟨rfl, hw2, hb2⟩
  have HB2 := Lib.hid (HB0.out.trans hb2)
  have HS2 := Lib.hid HB2.out.size
  have HW2 := Lib.hid hw2
  clear hw2 hb2 HB0 HF0 HX2 hy0 hy1 HM
  go_wp2_with fail
  refine (bld_string wb.heap.size wb.heap.size _ ⟨#[58]⟩ w2 (.inr HW2.out) (by simp [ByteArray.size]) HS2.out).mono ?_
  rintro e w3 ⟨rfl, hw3, hb3⟩
  have HB3 := Lib.hid (HB2.out.trans hb3)
  have HX3 := Lib.hid (HX1.out.step HB3.out)
  have hy0 := HX3.out.c0
  have hy1 := HX3.out.c1
  have HW3 : Hid (Lib.IsBuilder 131 5 wb.heap.size wb.heap.size (Lib.byteCells (textTo zs m 0)) w3) := by
    have : Lib.byteCells (textTo zs m 0) = [] ++ [.int .u8 (48 + m)] ++ Lib.strCells ⟨#[58]⟩ := by
      have h := HSM.out
      simp [textTo, Lib.byteCells, Lib.strCells, h]
    rw [this]
    exact .inr hw3
  clear hw3 hb3 HB2 HS2 HW2 hx0 hx1 HSM
  go_wp2_with fail
  go_loopw [18] (fun i wr => ∃ k : Nat, k ≤ zs.length ∧ i = .int .i64 k ∧ Hid (Lib.IsBuilder 131 5 wb.heap.size wb.heap.size (Lib.byteCells (textTo zs m k)) wr) ∧ Hid (Below wb.heap.size wb wr)) (fun i _ => zs.length - (intOf i).toNat)
  case atStart => exact ⟨0, Nat.zero_le _, rfl, HW3, HB3⟩
  case round =>
    obtain ⟨k, hk, rfl, HW, HB⟩ := hrel
    have hsz := HB.out.size
    have HI := Lib.hid (HI1.out.step HB.out)
    by_cases hlt : k < zs.length
    · obtain ⟨b, o, rfl, _, hb, hc⟩ := HI.out.ints.at_ hlt
      have HT := Lib.hid (textTo_next (m := m) hlt)
      have HL := Lib.hid (textTo_len (zs := zs) (m := m) (k := k))
      have hxb := HZ.out k hlt
      generalize zs[k] = x at hc HT hxb
      by_cases hx : x = -1
      · subst hx
        go_wp2_with fail
        refine (bld_byte wb.heap.size wb.heap.size _ 45 wr HW.out (by rw [byteCells_len]; have := HL.out; omega) hsz).mono ?_
        rintro e w5 ⟨rfl, hw5, hb5⟩
        have HW5 : Hid (Lib.IsBuilder 131 5 wb.heap.size wb.heap.size (Lib.byteCells (textTo zs m (k + 1))) w5) := by
          rw [HT.out, byteCells_snoc]; exact .inr hw5
        have HB5 := Lib.hid (HB.out.trans hb5)
        clear hw5 hb5
        go_wp2
        go_roundw
        case rel => exact ⟨k + 1, by omega, by go_num, HW5, HB5⟩
        case measure => simp [intOf]; omega
      · have HD := Lib.hid (fun W => digitOf_any x W (by omega) (by omega))
        have HG := Lib.hid (signOf_digit (z := x) (by omega) (by omega))
        go_wp2_with (go_at_call 128; refine (HD.out _).mono ?_; rintro e w4 ⟨rfl, rfl⟩)
        refine (bld_byte wb.heap.size wb.heap.size _ (48 + x) _ HW.out (by rw [byteCells_len]; have := HL.out; omega) hsz).mono ?_
        rintro e w5 ⟨rfl, hw5, hb5⟩
        have HW5 : Hid (Lib.IsBuilder 131 5 wb.heap.size wb.heap.size (Lib.byteCells (textTo zs m (k + 1))) w5) := by
          rw [HT.out, byteCells_snoc, HG.out]; exact .inr hw5
        have HB5 := Lib.hid (HB.out.trans hb5)
        clear hw5 hb5
        go_wp2
        go_roundw
        case rel => exact ⟨k + 1, by omega, by go_num, HW5, HB5⟩
        case measure => simp [intOf]; omega
    · obtain rfl : k = zs.length := by omega
      go_wp2_with fail
      refine (Try.Builder_String_any wb.heap.size wb.heap.size _ wr HW.out hsz).mono ?_
      rintro e w5 ⟨rfl, hb5⟩
      have HB5 := Lib.hid (below_trans HX1.out.below (HB.out.trans hb5))
      clear hb5
      go_wp2
      go_ret2
      exact ⟨rfl, HB5.out⟩
end Go.Proofs.Ytopgccficjkenaa
