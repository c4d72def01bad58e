/- JoinStrings: what the program's and the model's functions compute. -/
import Derived.Test.YtdbhmlnojbmepaaStrs
import Derived.Test.YtdbhmlnojbmepaaStands
import Derived.Deep.LoopGhost
import Derived.Lib.Join
import Derived.Test.YtdbhmlnojbmepaaShelf
namespace Go.Proofs.Ytdbhmlnojbmepaa
open Go.RowKit
set_option linter.unusedVariables false

theorem quiet_left {P : Program} {f : FuncId} {args : Array Value} {w : World} {n : Nat} {v : Value}
    (h : Calls P f args (w.drewN n) fun e w' => e = .returned v ∧ w.drewN n = w') : Calls P f args (w.drewN n) fun e w'' => e = .returned v ∧ ∃ m, w'' = w.drewN m :=
  h.mono fun _ _ hh => ⟨hh.1, n, hh.2.symm⟩
/-- Only the tape has moved. -/
def Drawn (w w' : World) : Prop := ∃ n, w' = w.drewN n
theorem Drawn.refl (w : World) : Drawn w w := ⟨0, rfl⟩
theorem Drawn.more {w w' : World} (h : Drawn w w') (n : Nat) : Drawn w (w'.drewN n) := by
  obtain ⟨m, rfl⟩ := h
  exact ⟨m + n, World.drewN_drewN _ _ _⟩
theorem Drawn.strs {w w' : World} (h : Drawn w w') {A : Option Addr} {ss : List ByteArray} (hs : Strs w A ss) : Strs w' A ss := by
  obtain ⟨m, rfl⟩ := h
  exact hs
theorem Drawn.below {w w' : World} (h : Drawn w w') (B : Nat) : Below B w w' := by
  obtain ⟨m, rfl⟩ := h
  exact below_drewN (Below.refl _ _) m

/-- Whether the joined text is short enough, by lengths alone. -/
def fits (ss : List ByteArray) : Bool := decide (ss.length - 1 + letters ss ≤ 4000)
set_option maxHeartbeats 1000000 in
theorem fitJoined_any (A : Option Addr) (c : Nat) (ss : List ByteArray) (w : World) (hS : Strs w A ss) (h0 : 1 ≤ ss.length) (hn : ss.length ≤ 1048576) (hl : letters ss ≤ 1048576) :
    Calls Try.prog 30 #[.slice A ss.length c] w fun e w' => e = .returned (.bool (fits ss)) ∧ w = w' := by
  have HS := Lib.hid hS
  clear hS
  go_enter Try.func30, Try.ntmps30
  go_wp2
  go_loop [3, 11] (fun s i => ∃ k m : Nat, k ≤ ss.length ∧ i = .int .i64 k ∧ s = .int .i64 m ∧ m ≤ 2097152 ∧ Hid (m + 1 = ss.length + letters (ss.take k))) (fun _ i => ss.length - (intOf i).toNat)
  case atStart => exact ⟨0, ss.length - 1, Nat.zero_le _, rfl, by go_num, by omega, by show _ = _; simp [letters]; omega⟩
  case round =>
    obtain ⟨k, m, hk, rfl, rfl, hm2, HM⟩ := hrel
    by_cases hlt : k < ss.length
    · obtain ⟨b, o, rfl, hb, hc⟩ := HS.out.at_ hlt
      have hxs := letters_mem ss (List.getElem_mem hlt)
      have hsn := letters_snoc (ss.take k) ss[k]
      rw [← takeS_snoc ss k hlt] at hsn
      have htk := letters_take ss (k + 1)
      have htk0 := letters_take ss k
      have hm := HM.out
      by_cases hfit : m ≤ 4000
      · have HR : Hid ((m + ss[k].size) + 1 = ss.length + letters (ss.take (k + 1))) := by show _ = _; omega
        clear hsn htk htk0 hm HM
        have hb2 : m + ss[k].size ≤ 2097152 := by omega
        go_wp2
        go_round
        case rel => exact ⟨k + 1, m + ss[k].size, by omega, by go_num, by go_num, hb2, HR⟩
        case measure => simp [intOf]; omega
      · have HR : Hid (fits ss = false) := by show _ = _; unfold fits; simp; omega
        have hnf : decide ((m : Int) ≤ 4000) = false := by simp; omega
        clear hsn htk htk0 hm HM hxs
        go_wp2
        go_ret
        rw [HR.out]
        exact ⟨by simp, rfl⟩
    · have et : ss.take k = ss := List.take_of_length_le (by omega)
      have hm := HM.out
      rw [et] at hm
      have HR : Hid (fits ss = decide ((m : Int) ≤ 4000)) := by show _ = _; unfold fits; simp; omega
      clear et hm HM
      go_wp2
      go_ret
      rw [HR.out]
      exact ⟨rfl, rfl⟩

/-- The byte stands in one of the texts. -/
def anyC (ss : List ByteArray) (c : UInt8) : Bool := ss.any (fun x => hasC x c)
theorem anyC_yes {ss : List ByteArray} {c : UInt8} {k : Nat} (hk : k < ss.length) (h : hasC ss[k] c = true) : anyC ss c = true := by
  unfold anyC
  rw [List.any_eq_true]
  exact ⟨ss[k], List.getElem_mem hk, h⟩
theorem anyC_no {ss : List ByteArray} {c : UInt8} (h : ∀ (j : Nat) (hj : j < ss.length), hasC ss[j] c = false) : anyC ss c = false := by
  unfold anyC
  rw [List.any_eq_false]
  intro x hx
  obtain ⟨j, hj, rfl⟩ := List.getElem_of_mem hx
  rw [h j hj]
  decide

set_option maxHeartbeats 2000000 in
theorem anyContains_any (A : Option Addr) (cp : Nat) (ss : List ByteArray) (c : UInt8) (w : World) (hS : Strs w A ss) (hn : ss.length ≤ 1048576) (hl : letters ss ≤ 1048576) :
    Calls Try.prog 31 #[.slice A ss.length cp, .int .u8 (c.toNat : Int)] w fun e w' => e = .returned (.bool (anyC ss c)) ∧ w = w' := by
  have HS := Lib.hid hS
  clear hS
  go_enter Try.func31, Try.ntmps31
  go_wp2
  go_step3
  go_wp2
  go_step3
  go_wp2
  go_loopg [5, 11] ss.length (fun g s i wx => ∃ k : Nat, k + g = ss.length ∧ i = .int .i64 k ∧ s = .bool false ∧ Hid (∀ (j : Nat) (hj : j < ss.length), j < k → hasC ss[j] c = false) ∧ wx = w)
  case atStart => exact ⟨0, by omega, rfl, rfl, fun j _ h => absurd h (by omega), rfl⟩
  case round =>
    obtain ⟨k, hkg, rfl, rfl, HN, rfl⟩ := hrel
    cases gk with
    | zero =>
      have hkz : ¬ ((k : Int) < (ss.length : Int)) := by omega
      have HR := Lib.hid (anyC_no (ss := ss) (c := c) (fun j hj => HN.out j hj (by omega)))
      clear HN
      go_wp2
      try rw [Exit.noGoto_ret]
      go_ret
      rw [HR.out]
      exact ⟨rfl, rfl⟩
    | succ g =>
      have hlt : k < ss.length := by omega
      have hkz : (k : Int) < (ss.length : Int) := by omega
      obtain ⟨b, o, rfl, hb, hc⟩ := HS.out.at_ hlt
      have hxs := letters_mem ss (List.getElem_mem hlt)
      have HY := Lib.hid (fun h => anyC_yes (c := c) hlt h)
      have HN' : hasC ss[k] c = false → Hid (∀ (j : Nat) (hj : j < ss.length), j < k + 1 → hasC ss[j] c = false) := fun he j hj hl => by
        rcases Nat.lt_succ_iff_lt_or_eq.1 hl with h | rfl
        · exact HN.out j hj h
        · exact he
      have HNN := Lib.hid HN'
      clear HN HN'
      generalize ss[k] = x at hc hxs HY HNN
      go_wp2
      go_loopg [5, 17] x.size (fun g s i wx => ∃ q : Nat, q + g = x.size ∧ i = .int .i64 q ∧ s = .bool false ∧ Hid (∀ (j : Nat) (hj : j < x.size), j < q → x[j] ≠ c) ∧ wx = wr)
      case atStart => exact ⟨0, by omega, rfl, rfl, fun j _ h => absurd h (by omega), rfl⟩
      case round =>
        obtain ⟨q, hqg, rfl, rfl, HQ, rfl⟩ := hrel
        cases gk with
        | zero =>
          have hqz : ¬ ((q : Int) < (x.size : Int)) := by omega
          have HX := HNN.out (hasC_no (x := x) (c := c) (fun j hj => HQ.out j hj (by omega)))
          clear HQ HNN HY
          go_wp2
          go_roundg g
          case measure => omega
          case rel => exact ⟨k + 1, by omega, by go_num, rfl, HX, rfl⟩
        | succ g2 =>
          have hq : q < x.size := by omega
          have hqz : (q : Int) < (x.size : Int) := by omega
          by_cases he : x[q] = c
          · have ht : ((x[q].toNat : Int) == (c.toNat : Int)) = true := by simp [he]
            have HR := Lib.hid (HY.out (hasC_yes hq he))
            clear he HQ HNN HY
            go_wp2
            try rw [Exit.noGoto_ret]
            go_ret
            rw [HR.out]
            exact ⟨rfl, rfl⟩
          · have ht : ((x[q].toNat : Int) == (c.toNat : Int)) = false := by
              rw [beq_eq_false_iff_ne]
              intro e
              exact he (UInt8.toNat_inj.1 (by omega))
            have HQ' : Hid (∀ (j : Nat) (hj : j < x.size), j < q + 1 → x[j] ≠ c) := fun j hj hl => by
              rcases Nat.lt_succ_iff_lt_or_eq.1 hl with h | rfl
              · exact HQ.out j hj h
              · exact he
            clear he HQ HNN HY
            go_wp2
            go_roundg g2
            case measure => omega
            case rel => exact ⟨q + 1, by omega, by go_num, rfl, HQ', rfl⟩

/-- The letters of each text. -/
def lts (ss : List ByteArray) : List (List UInt8) := ss.map (·.data.toList)
theorem lens_lts (ss : List ByteArray) : Lib.lens (lts ss) = letters ss := by
  unfold Lib.lens lts letters
  rw [List.map_map]
  congr 1
/-- What JoinStrings answers: the text, where there is one. -/
def joinAns (ss : List ByteArray) (sep : ByteArray) : Option (List UInt8) :=
  if h : sep.size = 1 then (if ss ≠ [] ∧ fits ss = true ∧ anyC ss (sep[0]'(by omega)) = false then some (Lib.join (lts ss) sep.data.toList) else none) else none
theorem join_len {ss : List ByteArray} (h : ss ≠ []) (sep : ByteArray) : (Lib.join (lts ss) sep.data.toList).length = sep.size * (ss.length - 1) + letters ss := by
  match ss, h with
  | x :: r, _ =>
    have := Lib.join_length x.data.toList (r.map (·.data.toList)) sep.data.toList
    rw [show lts (x :: r) = x.data.toList :: r.map (·.data.toList) from rfl, this, ← lens_lts (x :: r)]
    simp [lts]
theorem join_take_one {ss : List ByteArray} (h : 0 < ss.length) (sep : List UInt8) : Lib.join (lts (ss.take 1)) sep = ss[0].data.toList := by
  match ss, h with
  | x :: r, _ => simp [lts, Lib.join_one]
theorem join_take_succ {ss : List ByteArray} {k : Nat} (h0 : 0 < k) (h : k < ss.length) (sep : List UInt8) :
    Lib.join (lts (ss.take (k + 1))) sep = Lib.join (lts (ss.take k)) sep ++ sep ++ ss[k].data.toList := by
  match ss, h with
  | x :: r, h =>
    obtain ⟨q, rfl⟩ : ∃ q, k = q + 1 := ⟨k - 1, by omega⟩
    have hq : q < r.length := by simpa using h
    rw [List.take_succ_cons, List.take_succ_cons]
    rw [show lts (x :: r.take (q + 1)) = x.data.toList :: lts (r.take (q + 1)) from rfl, show lts (x :: r.take q) = x.data.toList :: lts (r.take q) from rfl, Lib.join_cons, Lib.join_cons]
    have e := Lib.joinTail_take_succ sep (lts r) q r[q].data.toList (by simp [lts, hq])
    rw [show (lts r).take (q + 1) = lts (r.take (q + 1)) from (List.map_take ..).symm, show (lts r).take q = lts (r.take q) from (List.map_take ..).symm] at e
    rw [e]
    simp [List.append_assoc]
/-- What is joined of the first k texts. -/
def jn (ss : List ByteArray) (sep : ByteArray) (k : Nat) : ByteArray := ⟨(Lib.join (lts (ss.take k)) sep.data.toList).toArray⟩
theorem jn_size {ss : List ByteArray} {sep : ByteArray} {k : Nat} (h1 : sep.size = 1) (h0 : 0 < k) (h : k ≤ ss.length) : (jn ss sep k).size + 1 = k + letters (ss.take k) := by
  have e : (jn ss sep k).size = (Lib.join (lts (ss.take k)) sep.data.toList).length := by unfold jn; simp [ByteArray.size]
  have hl : (ss.take k).length = k := by simp; omega
  rw [e, join_len (by intro e2; rw [e2] at hl; simp at hl; omega), h1, hl]
  omega
theorem jn_one {ss : List ByteArray} {sep : ByteArray} (h : 0 < ss.length) : (⟨#[]⟩ : ByteArray) ++ ss[0] = jn ss sep 1 := by
  unfold jn
  rw [join_take_one h]
  apply ByteArray.ext
  simp [ByteArray.data_append]
theorem jn_succ {ss : List ByteArray} {sep : ByteArray} {k : Nat} (h0 : 0 < k) (h : k < ss.length) : jn ss sep k ++ sep ++ ss[k] = jn ss sep (k + 1) := by
  unfold jn
  rw [join_take_succ h0 h]
  apply ByteArray.ext
  simp [ByteArray.data_append]
def JoinRet (w : World) (a : Option (List UInt8)) (e : Ending) (w' : World) : Prop :=
  e = .returned (.tuple #[.string ⟨(a.getD []).toArray⟩, .bool a.isSome]) ∧ Below w.heap.size w w'
theorem joinAns_yes {ss : List ByteArray} {sep : ByteArray} (h : sep.size = 1) (h0 : ss ≠ []) (hf : fits ss = true) (ha : anyC ss (sep[0]'(by omega)) = false) : joinAns ss sep = some (Lib.join (lts ss) sep.data.toList) := by
  unfold joinAns; rw [dif_pos h, if_pos ⟨h0, hf, ha⟩]
theorem joinAns_sep {ss : List ByteArray} {sep : ByteArray} (h : sep.size ≠ 1) : joinAns ss sep = none := by unfold joinAns; rw [dif_neg h]
theorem joinAns_none {sep : ByteArray} : joinAns [] sep = none := by unfold joinAns; by_cases h : sep.size = 1 <;> simp [h]
theorem joinAns_long {ss : List ByteArray} {sep : ByteArray} (hf : fits ss = false) : joinAns ss sep = none := by
  unfold joinAns; by_cases h : sep.size = 1 <;> simp [h, hf]
theorem joinAns_has {ss : List ByteArray} {sep : ByteArray} (h : sep.size = 1) (hf : anyC ss (sep[0]'(by omega)) = true) : joinAns ss sep = none := by
  unfold joinAns; simp [h, hf]

set_option maxHeartbeats 2000000 in
theorem join_impl (A : Option Addr) (cp : Nat) (ss : List ByteArray) (sep : ByteArray) (w : World) (hS : Strs w A ss) (hcp : ss.length ≤ cp) (hn : ss.length ≤ 1048576) (hl : letters ss ≤ 1048576) (hs : sep.size ≤ 1048576) :
    Calls Try.prog 12 #[.slice A ss.length cp, .string sep] w (JoinRet w (joinAns ss sep)) := by
  by_cases h0 : ss.length = 0
  · obtain rfl : ss = [] := List.eq_nil_of_length_eq_zero h0
    rw [joinAns_none]
    clear hS
    go_enter Try.func12, Try.ntmps12
    go_wp2
    go_ret2
    exact ⟨rfl, Below.refl _ _⟩
  · have b0 : ((ss.length : Int) == 0) = false := by simp; exact fun h => h0 (by rw [h]; rfl)
    by_cases h1 : sep.size = 1
    · have b1 : ((sep.size : Int) != 1) = false := by simp; omega
      have hlt : 0 < sep.size := by omega
      cases hf : fits ss with
      | false =>
        rw [joinAns_long hf]
        have C := fitJoined_any A cp ss w hS (by omega) hn hl
        rw [hf] at C
        have CF := Lib.hid C
        clear C hS hf h0
        go_enter Try.func12, Try.ntmps12
        go_wp2_with (go_at_call 30; refine CF.out.mono ?_; rintro e w' ⟨rfl, rfl⟩)
        go_ret2
        exact ⟨rfl, Below.refl _ _⟩
      | true =>
        have C := fitJoined_any A cp ss w hS (by omega) hn hl
        rw [hf] at C
        have CF := Lib.hid C
        clear C
        have D := anyContains_any A cp ss sep[0] w hS hn hl
        cases ha : anyC ss sep[0] with
        | true =>
          rw [joinAns_has h1 ha]
          rw [ha] at D
          have CD := Lib.hid D
          clear D hS hf h0 ha
          go_enter Try.func12, Try.ntmps12
          go_wp2_with (first | (go_at_call 30; refine CF.out.mono ?_; rintro e w' ⟨rfl, rfl⟩) | (go_at_call 31; refine CD.out.mono ?_; rintro e w' ⟨rfl, rfl⟩))
          go_ret2
          exact ⟨rfl, Below.refl _ _⟩
        | false =>
          rw [joinAns_yes h1 (by intro e; rw [e] at h0; simp at h0) hf ha]
          rw [ha] at D
          have CD := Lib.hid D
          have hjl : (Lib.join (lts ss) sep.data.toList).length ≤ 140737488355328 := by
            rw [join_len (by intro e; rw [e] at h0; simp at h0), h1]; omega
          obtain ⟨b, o, rfl, hb, hcell⟩ := hS (by omega)
          have CJ := Lib.hid (Try.strings_Join b o cp ss sep w hcell hb (by omega) hcp hjl)
          clear D hS hf h0 ha hcell hjl
          go_enter Try.func12, Try.ntmps12
          go_wp2_with (first | (go_at_call 30; refine CF.out.mono ?_; rintro e w' ⟨rfl, rfl⟩) | (go_at_call 31; refine CD.out.mono ?_; rintro e w' ⟨rfl, rfl⟩) | (go_at_call 32; refine CJ.out.mono ?_; rintro e w' ⟨rfl, hbel⟩))
          go_ret2
          exact ⟨rfl, hbel⟩
    · rw [joinAns_sep h1]
      have b1 : ((sep.size : Int) != 1) = true := by simp; omega
      clear hS h0
      go_enter Try.func12, Try.ntmps12
      go_wp2
      go_ret2
      exact ⟨rfl, Below.refl _ _⟩
end Go.Proofs.Ytdbhmlnojbmepaa
