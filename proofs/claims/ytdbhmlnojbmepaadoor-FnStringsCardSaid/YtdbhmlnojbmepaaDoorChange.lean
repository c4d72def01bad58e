/- One changed byte of a checksummed text is told: facts of lists of bytes. -/
import Derived.Test.YtdbhmlnojbmepaaDoorDec
import Derived.Test.YtdbhmlnojbmepaaDoorSum
import Derived.Test.YtdbhmlnojbmepaaDoorSeal
import Derived.Test.YtdbhmlnojbmepaaDoorVerify
namespace Go.Proofs.YtdbhmlnojbmepaaDoor
set_option linter.unusedVariables false

/-- One step of the sum. -/
def stepC (h : Int) (c : UInt8) : Int := (41 * h + (c.toNat : Int) + 1) % 999979
theorem stepC_bd (h : Int) (c : UInt8) : 0 ≤ stepC h c ∧ stepC h c < 999979 := by unfold stepC; omega
theorem stepC_left {h k : Int} {c : UInt8} (h0 : 0 ≤ h) (h1 : h < 999979) (k0 : 0 ≤ k) (k1 : k < 999979) (hne : h ≠ k) : stepC h c ≠ stepC k c := by
  unfold stepC
  omega
theorem stepC_right {h : Int} {c d : UInt8} (hne : c ≠ d) : stepC h c ≠ stepC h d := by
  unfold stepC
  have hc := c.toNat_lt
  have hd := d.toNat_lt
  have : c.toNat ≠ d.toNat := fun e => hne (UInt8.toNat_inj.1 e)
  omega
theorem fold_left (l : List UInt8) : ∀ h k : Int, 0 ≤ h → h < 999979 → 0 ≤ k → k < 999979 → h ≠ k → l.foldl stepC h ≠ l.foldl stepC k := by
  induction l with
  | nil => intro h k _ _ _ _ hne; exact hne
  | cons c l ih =>
    intro h k h0 h1 k0 k1 hne
    exact ih _ _ (stepC_bd h c).1 (stepC_bd h c).2 (stepC_bd k c).1 (stepC_bd k c).2 (stepC_left h0 h1 k0 k1 hne)
theorem fold_one : ∀ (k : Nat) (l m : List UInt8) (h : Int), l.length = m.length → l[k]? ≠ m[k]? → (∀ j, j ≠ k → l[j]? = m[j]?) → l.foldl stepC h ≠ m.foldl stepC h := by
  intro k
  induction k with
  | zero =>
    intro l m h hl hne heq
    match l, m, hl with
    | [], [], _ => exact absurd rfl hne
    | c :: l, d :: m, _ =>
      obtain rfl : l = m := List.ext_getElem? fun j => heq (j + 1) (by omega)
      have hcd : c ≠ d := fun e => hne (by simp [e])
      exact fold_left l _ _ (stepC_bd h c).1 (stepC_bd h c).2 (stepC_bd h d).1 (stepC_bd h d).2 (stepC_right hcd)
  | succ k ih =>
    intro l m h hl hne heq
    match l, m, hl with
    | [], [], _ => exact absurd rfl hne
    | c :: l, d :: m, hl =>
      have e0 := heq 0 (by omega)
      simp at e0
      subst e0
      exact ih l m _ (by simpa using hl) (by simpa using hne) (fun j hj => by have := heq (j + 1) (by omega); simpa using this)
theorem cks_one {k : Nat} {l m : List UInt8} (hl : l.length = m.length) (hne : l[k]? ≠ m[k]?) (heq : ∀ j, j ≠ k → l[j]? = m[j]?) : cks l ≠ cks m :=
  fold_one k l m 7 hl hne heq
theorem itoa_one {a b : Int} (h : Lib.itoa a = Lib.itoa b) : a = b := by
  have h1 := atoi_itoa a
  rw [h, atoi_itoa b] at h1
  injection h1 with h1
  exact h1.symm
theorem itoa_no35 {n : Int} (h : 0 ≤ n) (j : Nat) : (Lib.itoa n)[j]? ≠ some 35 := by
  intro e
  have hm := List.mem_of_getElem? e
  rw [itoa_pos' h] at hm
  have := dd_digit hm
  simp at this
/-- A text, a sign, and the numeral of its checksum, as a list. -/
def Sealed (x l : List UInt8) : Prop := l = x ++ 35 :: Lib.itoa (cks x) ∧ ∀ j : Nat, x[j]? ≠ some 35
theorem Sealed.sign {x l : List UInt8} (h : Sealed x l) : l[x.length]? = some 35 := by rw [h.1]; simp
theorem Sealed.ahead {x l : List UInt8} (h : Sealed x l) {j : Nat} (hj : j < x.length) : l[j]? = x[j]? := by rw [h.1, List.getElem?_append_left hj]
theorem Sealed.behind {x l : List UInt8} (h : Sealed x l) {j : Nat} (hj : x.length < j) : l[j]? ≠ some 35 := by
  rw [h.1, List.getElem?_append_right (by omega)]
  obtain ⟨q, hq⟩ : ∃ q, j - x.length = q + 1 := ⟨j - x.length - 1, by omega⟩
  rw [hq, List.getElem?_cons_succ]
  exact itoa_no35 (cks_bd x).1 q
theorem sealed_one {x y l m : List UInt8} {k : Nat} (hx : Sealed x l) (hy : Sealed y m) (hl : l.length = m.length) (hne : l[k]? ≠ m[k]?) (heq : ∀ j, j ≠ k → l[j]? = m[j]?) : False := by
  rcases Nat.lt_trichotomy x.length y.length with h | h | h
  · have h1 : m[x.length]? ≠ some 35 := by rw [hy.ahead h]; exact hy.2 _
    have hk : x.length = k := Classical.byContradiction fun e => h1 (by rw [← heq _ e]; exact hx.sign)
    have h2 : l[y.length]? ≠ some 35 := hx.behind h
    exact h2 (by rw [heq _ (by omega)]; exact hy.sign)
  · have hks : k ≠ x.length := fun e => hne (by rw [e, hx.sign, h, hy.sign])
    rcases Nat.lt_or_ge k x.length with hk | hk
    · have hc : cks x ≠ cks y := cks_one (k := k) h (by rw [← hx.ahead hk, ← hy.ahead (by omega)]; exact hne) (fun j hj => by
        rcases Nat.lt_or_ge j x.length with hj2 | hj2
        · rw [← hx.ahead hj2, ← hy.ahead (by omega)]; exact heq j hj
        · rw [List.getElem?_eq_none hj2, List.getElem?_eq_none (by omega)])
      apply hc
      apply itoa_one
      apply List.ext_getElem?
      intro j
      have := heq (x.length + 1 + j) (by omega)
      rw [hx.1, hy.1, List.getElem?_append_right (by omega), List.getElem?_append_right (by omega), show x.length + 1 + j - x.length = j + 1 from by omega, show x.length + 1 + j - y.length = j + 1 from by omega, List.getElem?_cons_succ, List.getElem?_cons_succ] at this
      exact this
    · have he : x = y := List.ext_getElem? fun j => by
        rcases Nat.lt_or_ge j x.length with hj2 | hj2
        · rw [← hx.ahead hj2, ← hy.ahead (by omega)]; exact heq j (by omega)
        · rw [List.getElem?_eq_none hj2, List.getElem?_eq_none (by omega)]
      apply hne
      rw [hx.1, hy.1, he]
  · have h1 : l[y.length]? ≠ some 35 := by rw [hx.ahead h]; exact hx.2 _
    have hk : y.length = k := Classical.byContradiction fun e => h1 (by rw [heq _ e]; exact hy.sign)
    have h2 : m[x.length]? ≠ some 35 := hy.behind h
    exact h2 (by rw [← heq _ (by omega)]; exact hx.sign)
theorem sealed_of {s : ByteArray} (h : hasC s 35 = false) : Sealed s.data.toList (sealB s).data.toList := by
  refine ⟨by simp [sealB, ByteArray.data_append], fun j e => ?_⟩
  have hm := List.mem_of_getElem? e
  unfold hasC at h
  rw [Bool.eq_false_iff] at h
  exact h (List.contains_iff_mem.2 hm)
/-- One changed byte is told. -/
theorem changed_told {x y : ByteArray} {k : Nat} {c : UInt8} (hx : hasC x 35 = false) (hk : k < (sealB x).size) (hc : (sealB x).data.toList[k]? ≠ some c) (hy : y.data.toList = (sealB x).data.toList.set k c) : vAns y = none := by
  by_cases h1 : y.size ≤ 4000
  · apply vAns_no2
    intro h2
    have hk2 : k < (sealB x).data.toList.length := by rw [← Lib.size_eq]; exact hk
    have hs := sealed_of (front_has y)
    rw [h2, hy] at hs
    refine sealed_one (k := k) (sealed_of hx) hs (by simp) ?_ (fun j hj => ?_)
    · rw [List.getElem?_set_self hk2]; exact hc
    · rw [List.getElem?_set_ne (Ne.symm hj)]
  · exact vAns_no1 (by omega)
/-- Unchanged, it is taken apart. -/
theorem seal_back {x : ByteArray} (hx : hasC x 35 = false) (hs : (sealB x).size ≤ 4000) : vAns (sealB x) = some x := by
  have e : front (sealB x) = x := by
    apply text_ext
    rw [front_list]
    have h1 := sealed_of hx
    rw [takeWhile_at h1.sign (fun j hj => by rw [h1.ahead hj]; exact h1.2 j), h1.1, List.take_left]
  rw [vAns_yes hs (by rw [e]), e]
end Go.Proofs.YtdbhmlnojbmepaaDoor
