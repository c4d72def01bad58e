/- The law FnExactChanceDecoded: its walk over the two functions' contracts. -/
import Derived.Test.YtlhpbhmldcinmaaWord
import Derived.Test.YtlhpbhmldcinmaaTrueWs
import Derived.Test.YtlhpbhmldcinmaaShelf
import Derived.Test.YtlhpbhmldcinmaaGapS
import Derived.Test.YtlhpbhmldcinmaaL7s
import Derived.Test.YtlhpbhmldcinmaaOpenD
import Derived.Test.YtlhpbhmldcinmaaPair
import Derived.WideKeyPair
import Derived.WideKeyEntry
import Derived.Maps.GroupsBeside
import Derived.Maps.RangeWalk
import Derived.Deep.AppendLies
import Derived.Sort.OwnSortedInts
import Derived.Sort.OwnSorted
import Derived.Deep.CutRange
namespace Go.Proofs.Ytlhpbhmldcinmaa
open Go.RowKit Go.ChangeShapes Go.WideShapes
set_option linter.unusedVariables false

/-- The places of words that are at most m apart from x, among the first k. -/
def fitTo (ws : List Nat) (x m : Nat) (k : Nat) : List Int := filt (fun j => decide (apartN (ws.getD j 0) x ≤ m)) k
def fitL (ws : List Nat) (x m : Nat) : List Int := fitTo ws x m ws.length
/-- The least that the first k words are apart from x. -/
def leastTo (ws : List Nat) (x : Nat) : Nat → Nat
  | 0 => 15
  | k + 1 => min (leastTo ws x k) (apartN (ws.getD k 0) x)
theorem leastTo_at {ws : List Nat} {x j : Nat} : ∀ {k}, j < k → leastTo ws x k ≤ apartN (ws.getD j 0) x
  | 0, h => absurd h (by omega)
  | k + 1, h => by
    rw [leastTo]
    by_cases e : j = k
    · subst e; omega
    · have := leastTo_at (ws := ws) (x := x) (j := j) (k := k) (by omega); omega
theorem leastTo_le (ws : List Nat) (x : Nat) : ∀ k, leastTo ws x k ≤ 15
  | 0 => Nat.le_refl _
  | k + 1 => by have := leastTo_le ws x k; rw [leastTo]; omega
theorem leastTo_14 (ws : List Nat) (x : Nat) {k : Nat} (h : 0 < k) : leastTo ws x k ≤ 14 := by
  have h1 := leastTo_at (ws := ws) (x := x) (j := 0) h
  have h2 := apartN_le (ws.getD 0 0) x
  omega
theorem filt_ext {p q : Nat → Bool} : ∀ k, (∀ i, i < k → p i = q i) → filt p k = filt q k
  | 0, _ => rfl
  | k + 1, h => by rw [filt, filt, filt_ext k (fun i hi => h i (by omega)), h k (by omega)]
theorem filt_none {p : Nat → Bool} : ∀ k, (∀ i, i < k → p i = false) → filt p k = []
  | 0, _ => rfl
  | k + 1, h => by rw [filt, filt_none k (fun i hi => h i (by omega)), h k (by omega)]; rfl
def nearTo (ws : List Nat) (x k : Nat) : List Int := filt (fun j => decide (apartN (ws.getD j 0) x = leastTo ws x k)) k
theorem nearTo_less {ws : List Nat} {x k : Nat} (h : apartN (ws.getD k 0) x < leastTo ws x k) : nearTo ws x (k + 1) = [(k : Int)] ∧ leastTo ws x (k + 1) = apartN (ws.getD k 0) x := by
  have e : leastTo ws x (k + 1) = apartN (ws.getD k 0) x := by rw [leastTo]; omega
  refine ⟨?_, e⟩
  unfold nearTo
  rw [e, filt_yes (by simp), filt_none k (fun i hi => ?_)]
  · rfl
  · have := leastTo_at (ws := ws) (x := x) hi
    rw [decide_eq_false_iff_not]; omega
theorem nearTo_same {ws : List Nat} {x k : Nat} (h : apartN (ws.getD k 0) x = leastTo ws x k) : nearTo ws x (k + 1) = nearTo ws x k ++ [(k : Int)] ∧ leastTo ws x (k + 1) = leastTo ws x k := by
  have e : leastTo ws x (k + 1) = leastTo ws x k := by rw [leastTo]; omega
  refine ⟨?_, e⟩
  unfold nearTo
  rw [e, filt_yes (by simpa using h)]
theorem nearTo_more {ws : List Nat} {x k : Nat} (h : leastTo ws x k < apartN (ws.getD k 0) x) : nearTo ws x (k + 1) = nearTo ws x k ∧ leastTo ws x (k + 1) = leastTo ws x k := by
  have e : leastTo ws x (k + 1) = leastTo ws x k := by rw [leastTo]; omega
  refine ⟨?_, e⟩
  unfold nearTo
  rw [e, filt_no (by rw [decide_eq_false_iff_not]; omega)]
theorem nearTo_fit (ws : List Nat) (x : Nat) : nearTo ws x ws.length = fitL ws x (leastTo ws x ws.length) := by
  unfold nearTo fitL fitTo
  refine filt_ext _ fun i hi => ?_
  have := leastTo_at (ws := ws) (x := x) hi
  rw [Bool.eq_iff_iff, decide_eq_true_iff, decide_eq_true_iff]
  omega
theorem nearTo_len (ws : List Nat) (x k : Nat) : (nearTo ws x k).length ≤ k := filt_len _ _
theorem fitTo_len (ws : List Nat) (x m k : Nat) : (fitTo ws x m k).length ≤ k := filt_len _ _
theorem fitL_len (ws : List Nat) (x m : Nat) : (fitL ws x m).length ≤ ws.length := filt_len _ _
/-- For how many words more than one fit. -/
def untoldTo (ws : List Nat) (m : Nat) (W : Nat) : Nat := cntB (fun x => decide (1 < (fitL ws x m).length)) W

theorem filt_iff {p : Nat → Bool} : ∀ {k : Nat} {x : Int}, x ∈ filt p k ↔ ∃ j : Nat, j < k ∧ p j = true ∧ x = (j : Int)
  | 0, x => ⟨fun h => absurd h (by simp [filt]), fun ⟨j, h, _⟩ => absurd h (by omega)⟩
  | k + 1, x => by
    cases hp : p k with
    | true =>
      rw [filt_yes hp, List.mem_append, filt_iff (k := k)]
      constructor
      · rintro (⟨j, h1, h2, h3⟩ | h)
        · exact ⟨j, by omega, h2, h3⟩
        · simp at h; exact ⟨k, by omega, hp, h⟩
      · rintro ⟨j, h1, h2, h3⟩
        by_cases e : j = k
        · subst e; exact .inr (by simp [h3])
        · exact .inl ⟨j, by omega, h2, h3⟩
    | false =>
      rw [filt_no hp, filt_iff (k := k)]
      constructor
      · rintro ⟨j, h1, h2, h3⟩; exact ⟨j, by omega, h2, h3⟩
      · rintro ⟨j, h1, h2, h3⟩
        by_cases e : j = k
        · subst e; rw [hp] at h2; cases h2
        · exact ⟨j, by omega, h2, h3⟩
theorem filt_asc (p : Nat → Bool) : ∀ k, (filt p k).Pairwise (· < ·)
  | 0 => List.Pairwise.nil
  | k + 1 => by
    cases hp : p k with
    | false => rw [filt_no hp]; exact filt_asc p k
    | true =>
      rw [filt_yes hp, List.pairwise_append]
      refine ⟨filt_asc p k, List.pairwise_singleton _ _, fun a ha b hb => ?_⟩
      have := filt_mem ha
      simp at hb
      omega
theorem eq_asc : ∀ {l₁ l₂ : List Int}, l₁.Pairwise (· < ·) → l₂.Pairwise (· < ·) → (∀ p, p ∈ l₁ ↔ p ∈ l₂) → l₁ = l₂
  | [], [], _, _, _ => rfl
  | [], b :: s, _, _, h => by have := (h b).2 (by simp); simp at this
  | a :: r, [], _, _, h => by have := (h a).1 (by simp); simp at this
  | a :: r, b :: s, h1, h2, h => by
    obtain ⟨a1, a2⟩ := List.pairwise_cons.1 h1
    obtain ⟨b1, b2⟩ := List.pairwise_cons.1 h2
    have hab : a = b := by
      rcases List.mem_cons.1 ((h a).1 (by simp)) with e | ha
      · exact e
      · rcases List.mem_cons.1 ((h b).2 (by simp)) with e | hb
        · exact e.symm
        · have := a1 b hb
          have := b1 a ha
          omega
    subst hab
    rw [eq_asc a2 b2 (fun p => ⟨fun hp => by
      rcases List.mem_cons.1 ((h p).1 (by simp [hp])) with e | hp'
      · have := a1 p hp; omega
      · exact hp', fun hp => by
      rcases List.mem_cons.1 ((h p).2 (by simp [hp])) with e | hp'
      · have := b1 p hp; omega
      · exact hp'⟩)]
/-- What is sorted of numbers that come in whatever order. -/
theorem sort_filt {zs : List Int} {p : Nat → Bool} {n : Nat} (hn : zs.Nodup) (hm : ∀ x, x ∈ zs ↔ ∃ j : Nat, j < n ∧ p j = true ∧ x = (j : Int)) : (zs.mergeSort fun x y => decide (x ≤ y)) = filt p n := by
  have hp : (zs.mergeSort fun x y => decide (x ≤ y)).Perm zs := List.mergeSort_perm zs _
  have hs : (zs.mergeSort fun x y => decide (x ≤ y)).Pairwise (fun x y => decide (x ≤ y) = true) := List.pairwise_mergeSort (fun a b c h1 h2 => by simp at *; omega) (fun a b => by simp; omega) zs
  have hd : (zs.mergeSort fun x y => decide (x ≤ y)).Pairwise (fun x y => x ≠ y) := hp.symm.nodup hn
  refine eq_asc ?_ (filt_asc p n) fun x => by rw [hp.mem_iff, hm, filt_iff]
  exact (hs.and hd).imp (fun {a b} h => by
    have h1 := h.1
    have h2 := h.2
    simp at h1
    omega)
end Go.Proofs.Ytlhpbhmldcinmaa
namespace Go.Proofs.Ytlhpbhmldcinmaa
open Go.RowKit Go.ChangeShapes Go.WideShapes Go.Maps Go.MapKept Go.ChangeMaps
set_option linter.unusedVariables false

theorem arrWord : WideMaps.ArrKey Try.prog 102 4 14 := ⟨by kernel_rfl, by kernel_rfl, by kernel_rfl, by kernel_rfl⟩
theorem keyedWord : Keyed Try.prog 102 := Keyed.of_law arrWord.law
theorem types_pos5 : ∃ m, Try.prog.types.size = m + 1 := ⟨Try.prog.types.size - 1, by kernel_rfl⟩
def klW (p : Nat → Bool) : Lit := .string (keyBytes ((List.range 14).map fun i => Lit.bool (p i)))
theorem mapM_some {α β : Type} {f : α → Option β} {g : α → β} : ∀ (is : List α), (∀ i ∈ is, f i = some (g i)) → is.mapM f = some (is.map g)
  | [], _ => rfl
  | i :: is, h => by
    rw [List.mapM_cons, h i (by simp), mapM_some is (fun j hj => h j (by simp [hj]))]
    rfl
theorem flat1 {α β : Type} (f : α → β) : ∀ l : List α, (l.map fun a => [f a]).flatten = l.map f
  | [] => rfl
  | a :: l => by simp [flat1 f l]
theorem keyWord (p : Nat → Bool) : keyOf Try.prog 102 (.agg (bwv p)) = some (klW p) := by
  have hkt := arrWord.keyType types_pos5
  obtain ⟨m, hm⟩ := types_pos5
  unfold keyOf
  simp only [arrWord.hu]
  rw [if_pos (by simp [hkt, Value.formed, arrWord.hu, arrWord.size, bwv_size]), hm]
  unfold Program.keyLits
  simp only [arrWord.hu, Value.cells]
  rw [if_pos (by rw [arrWord.size]; simp [bwv_size])]
  have hone : ∀ i ∈ List.range 14, (Try.prog.keyLits (m + 1) 4 (((bwv p).toList.drop (i * Try.prog.cellsOf 4)).take (Try.prog.cellsOf 4))) = some [Lit.bool (p i)] := fun i hi => by
    have hi' := List.mem_range.1 hi
    have hd : ((bwv p).toList.drop (i * 1)).take 1 = [Value.bool (p i)] := by
      rw [Nat.mul_one, List.drop_eq_getElem_cons (by simp [bwv_size]; exact hi'), List.take_succ_cons, List.take_zero]
      have := bwv_at p hi'
      rw [← Array.getElem?_toList, List.getElem?_eq_getElem (by simp [bwv_size]; exact hi')] at this
      simpa using this
    rw [arrWord.one, hd]
    simp [Program.keyLits]
  rw [mapM_some _ hone]
  simp only [Option.map_some, flat1]
  rfl
theorem klW_inj {a b : Nat} (ha : a < 2 ^ 14) (hb : b < 2 ^ 14) (h : klW a.testBit = klW b.testBit) : a = b := by
  have h1 := keyWord a.testBit
  have h2 := keyWord b.testBit
  rw [← h] at h2
  have e := arrWord.law.inj h1 h2
  apply Nat.eq_of_testBit_eq
  intro i
  by_cases hi : i < 14
  · have e1 := bwv_at a.testBit hi
    have e2 := bwv_at b.testBit hi
    have e3 : bwv a.testBit = bwv b.testBit := by simpa using e
    rw [e3, e2] at e1
    simpa using e1.symm
  · have e1 : a.testBit i = false := Nat.testBit_lt_two_pow (Nat.lt_of_lt_of_le ha (Nat.pow_le_pow_right (by omega) (by omega)))
    have e2 : b.testBit i = false := Nat.testBit_lt_two_pow (Nat.lt_of_lt_of_le hb (Nat.pow_le_pow_right (by omega) (by omega)))
    rw [e1, e2]
theorem klW_agg {xs : Array Value} {p : Nat → Bool} (h : keyOf Try.prog 102 (.agg xs) = some (klW p)) : xs = bwv p := by
  have e := arrWord.law.inj h (keyWord p)
  simpa using e
theorem klW_key (p : Nat → Bool) : WideAt.IsKeyLit (klW p) := True.intro
theorem keyed_agg {v : Value} {l : Lit} (h : keyOf Try.prog 102 v = some l) : ∃ xs, v = .agg xs := by
  unfold keyOf at h
  simp only [arrWord.hu] at h
  split at h
  · rename_i hf
    simp [Value.formed, arrWord.hu] at hf
    cases v <;> simp at hf
    exact ⟨_, rfl⟩
  · cases h

section
open Go.WideElems
variable {H : Type} {P : Program} {t k E : TypeId} {w : World} {b n base : Nat} {e : TypeId} {q : IntKind} {D : DataW H}
theorem nodup_key : ∀ {l : List MapEntry}, (l.map (·.key)).Nodup → ∀ {i j : Nat} {x y : MapEntry}, l[i]? = some x → l[j]? = some y → x.key = y.key → i = j := by
  intro l hn i j x y hi hj hk
  have hi' : (l.map (·.key))[i]? = some x.key := by simp [hi]
  have hj' : (l.map (·.key))[j]? = some y.key := by simp [hj]
  rw [← hk] at hj'
  obtain ⟨h1, e1⟩ := List.getElem?_eq_some_iff.1 hi'
  obtain ⟨h2, e2⟩ := List.getElem?_eq_some_iff.1 hj'
  exact (List.getElem_inj hn).1 (e1.trans e2.symm)
/-- A store hangs on the map's block alone. -/
theorem mapUpdate_same {R : Value → Option (DataW H × List MemPlace)} {es es' : Array MapEntry} {clock clock' : Nat} {key val : Value} {kl : Lit} {w' : World} (K : Keyed P k) (ht : P.underlying t = some (.map k E)) (hb : w.heap[b]? = some (.map es clock)) (hb' : w'.heap[b]? = some (.map es clock)) (F : Fit P k R es clock)
    (hkey : keyOf P k key = some kl) (hrun : (Instr.mapUpdate t (.map (some b)) key val).run P w = .ok () (setBlock w b (.map es' clock'))) :
    (Instr.mapUpdate t (.map (some b)) key val).run P w' = .ok () (setBlock w' b (.map es' clock')) := by
  have hlt : b < w.heap.size := (Array.getElem?_eq_some_iff.1 hb).1
  have same : ∀ {e1 e2 : Array MapEntry} {c1 c2 : Nat}, setBlock w b (.map e1 c1) = setBlock w b (.map e2 c2) → e1 = e2 ∧ c1 = c2 := fun {e1 e2 c1 c2} h => by
    have h1 := heap_setBlock_same hb (.map e1 c1)
    rw [h, heap_setBlock_same hb (.map e2 c2)] at h1
    simp at h1
    exact ⟨h1.1.symm, h1.2.symm⟩
  rcases K.find w hkey es.toList F.keys with ⟨h1, h2⟩ | ⟨j, e0, h1, h2, h3⟩ <;> rcases K.find w' hkey es.toList F.keys with ⟨g1, g2⟩ | ⟨i, e0', g1, g2, g3⟩
  · have e1 : (Instr.mapUpdate t (.map (some b)) key val).run P w = .ok () (setBlock w b (.map (es.push ⟨key, val, clock⟩) (clock + 1))) := by
      simp [Instr.mapUpdate, run_underlying ht, MapKept.run_getObj_map hb, K.check w false hkey, h1, MapKept.run_setObj_map _ hb, Result.andThen, setBlock]
    rw [hrun] at e1
    obtain ⟨rfl, rfl⟩ := same (by simpa using e1)
    simp [Instr.mapUpdate, run_underlying ht, MapKept.run_getObj_map hb', K.check w' false hkey, g1, MapKept.run_setObj_map _ hb', Result.andThen, setBlock]
  · exact absurd g3 (h2 _ (List.mem_of_getElem? g2))
  · exact absurd h3 (g2 _ (List.mem_of_getElem? h2))
  · obtain rfl : j = i := nodup_key F.stamped.2.2 h2 g2 (h3.trans g3.symm)
    have hj : es[j]? = some e0 := by simpa using h2
    have e1 : (Instr.mapUpdate t (.map (some b)) key val).run P w = .ok () (setBlock w b (.map (es.modify j (fun e' => { e' with key := key, val := val })) clock)) := by
      simp [Instr.mapUpdate, run_underlying ht, MapKept.run_getObj_map hb, K.check w false hkey, h1, hj, h3, K.stays w hkey, MapKept.run_setObj_map _ hb, Result.andThen, setBlock]
    rw [hrun] at e1
    obtain ⟨rfl, rfl⟩ := same (by simpa using e1)
    have hj' : es[j]? = some e0' := by simpa using g2
    simp [Instr.mapUpdate, run_underlying ht, MapKept.run_getObj_map hb', K.check w' false hkey, g1, hj', g3, K.stays w' hkey, MapKept.run_setObj_map _ hb', Result.andThen, setBlock]

/-- 'm[k] = append(m[k], ..)': the entry is made or found; behind the append it is stored. -/
theorem groups_entry {key : Value} {kl : Lit} (law : WideMaps.KeyLaw P k) (h : w.ownsGroups P k base e q b n D) (ht : P.underlying t = some (.map k E)) (hz : ∀ u : World, (zeroValue E).run P u = .ok (.slice none 0 0) u) (hn : n < maxLen) (hkey : keyOf P k key = some kl) :
    ∃ (v : Value) (zs : List Int) (st : Nat) (w1 : World), (Instr.mapEntry t (.map (some b)) key).run P w = .ok (.tuple #[v, goInt st]) w1 ∧ D.atKey kl .nil = rowDatum q v zs ∧ w1.ownsInts base e q v zs ∧ zs.length ≤ n ∧ w.grownBy w1 (some b) ∧ w1.heap.size = w.heap.size ∧
      ∀ (w2 : World) (v' : Value) (zs' : List Int), w1.grownBy w2 v.ownBlock → w2.ownsInts base e q v' zs' → zs'.length ≤ n + 1 → (v'.ownBlock = v.ownBlock ∨ ∃ g, v'.ownBlock = some g ∧ w1.heap.size ≤ g) →
        ∃ w3, (Instr.entryStore t (.map (some b)) (goInt st) v').run P w2 = .ok () w3 ∧ w3.ownsGroups P k base e q b (n + 1) (D.put kl (rowDatum q v' zs')) ∧ w2.grownBy w3 (some b) ∧ w3.heap.size = w2.heap.size := by
  have K := Keyed.of_law law
  have h0 := h
  obtain ⟨es, clock, hb, F, hs, hD, hbb, hlen, hap⟩ := h0
  have hlt : b < w.heap.size := (Array.getElem?_eq_some_iff.1 hb).1
  obtain ⟨v0, st, es1, clock1, hrun1, hv0, hst⟩ := entry_then_store (t := t) law ht hz hb F hkey
  obtain ⟨v, zs, hlook, hat, hoi, hzl, hback⟩ := h.at K ht (hz w) hn hkey
  -- the entry's value is what is looked up
  have hvv : v0 = v := by
    rcases Maps.fit_look false K ht (hz w) hb F hkey with ⟨hr, hnone, _⟩ | ⟨e1, y, hm1, hk1, hr, _, _, _⟩
    · rw [hlook] at hr
      have hv : v = .slice none 0 0 := by simpa using hr
      rcases hv0 with ⟨e0, hm0, hk0, _⟩ | ⟨_, hz0⟩
      · exact absurd hk0 (hnone e0 hm0)
      · rw [hz0, hv]
    · rw [hlook] at hr
      have hv : v = e1.val := by simpa using hr
      rcases hv0 with ⟨e0, hm0, hk0, hv0⟩ | ⟨hnone, _⟩
      · obtain ⟨i, hi⟩ := List.mem_iff_getElem?.1 hm0
        obtain ⟨j, hj⟩ := List.mem_iff_getElem?.1 hm1
        have hij := nodup_key F.stamped.2.2 hi hj (hk0.trans hk1.symm)
        subst hij
        rw [hi] at hj
        obtain rfl : e0 = e1 := by simpa using hj
        rw [hv0, hv]
      · exact absurd hk1 (hnone e1 hm1)
  subst hvv
  have grow1 : ∀ {u : World} {e2 : Array MapEntry} {c2 : Nat}, u.heap[b]? = some (.map e2 c2) → ∀ o : Obj, u.grownBy (setBlock u b o) (some b) := fun hu o => ⟨rfl, rfl, rfl, by simp [setBlock], fun i _ hi => heap_setBlock_other hu _ (fun e1 => hi (by rw [e1]))⟩
  have own_ne : ∀ {u : World} {x : Value} {ys : List Int}, u.ownsInts base e q x ys → x.ownBlock = none ∨ x.ownBlock ≠ some b := fun {u x ys} ho => by
    cases hu : x.ownBlock with
    | none => exact .inl rfl
    | some g =>
      refine .inr (fun e1 => ?_)
      have := (ho.1.lt g hu).1
      cases e1
      omega
  have g1 := grow1 hb (.map es1 clock1)
  refine ⟨v0, zs, st, setBlock w b (.map es1 clock1), hrun1, hat, hoi.kept g1 (own_ne hoi), hzl, g1, by simp [setBlock], ?_⟩
  intro w2 v' zs' hg2 hown' hl' hloc
  have hb1 : (setBlock w b (.map es1 clock1)).heap[b]? = some (.map es1 clock1) := heap_setBlock_same hb _
  have hb1lt : b < (setBlock w b (.map es1 clock1)).heap.size := (Array.getElem?_eq_some_iff.1 hb1).1
  have hvb : some b ≠ v0.ownBlock := fun e1 => by
    rcases own_ne hoi with h | h
    · rw [h] at e1; cases e1
    · exact h e1.symm
  have hb2 : w2.heap[b]? = some (.map es1 clock1) := (hg2.block b hb1lt hvb).trans hb1
  obtain ⟨es', clock', hstore, hupd⟩ := hst w2 v' hb2
  -- the map put back
  have hbA : (setBlock w2 b (.map es clock)).heap[b]? = some (.map es clock) := heap_setBlock_same hb2 _
  have gA : w.grownBy (setBlock w2 b (.map es clock)) v0.ownBlock := ⟨hg2.os, hg2.tape, hg2.output, by have := hg2.size; simp [setBlock] at this ⊢; omega, fun i hi hne => by
    by_cases e1 : i = b
    · subst e1; rw [hbA, hb]
    · rw [heap_setBlock_other hb2 _ e1, hg2.block i (by simp [setBlock]; exact hi) hne, heap_setBlock_other hb _ e1]⟩
  have ownA : (setBlock w2 b (.map es clock)).ownsInts base e q v' zs' := hown'.kept (grow1 hb2 _) (own_ne hown')
  obtain ⟨w3, hr3, ho3, hg3⟩ := hback (setBlock w2 b (.map es clock)) v' zs' gA ownA hl' (hloc.imp id fun ⟨g, a, c⟩ => ⟨g, a, by simpa [setBlock] using c⟩)
  have hsame := mapUpdate_same (w' := setBlock w2 b (.map es clock)) K ht hb hbA F hkey hupd
  rw [hr3] at hsame
  obtain rfl : w3 = setBlock (setBlock w2 b (.map es clock)) b (.map es' clock') := by simpa using hsame
  have hww : setBlock (setBlock w2 b (.map es clock)) b (.map es' clock') = setBlock w2 b (.map es' clock') := by
    simp [setBlock]
  rw [hww] at ho3
  exact ⟨_, hstore, ho3, grow1 hb2 _, by simp [setBlock]⟩
end
end Go.Proofs.Ytlhpbhmldcinmaa
namespace Go.Proofs.Ytlhpbhmldcinmaa
open Go.RowKit Go.ChangeShapes Go.WideShapes
set_option linter.unusedVariables false

/-- Whether number k is in question j. -/
def sbit (us : List Int) (j k : Nat) : Bool := inQ (us.getD k 0) j
/-- Questions of which so many numbers have been told. -/
def grow5 (us : List Int) (m : Nat) (c : Nat → Nat) : List Int := (List.range m).map fun j => (ofB (sbit us j) (c j) : Int)
def schL (us : List Int) (m : Nat) : List Int := grow5 us m fun _ => us.length
theorem grow5_len (us : List Int) (m : Nat) (c : Nat → Nat) : (grow5 us m c).length = m := by simp [grow5]
theorem grow5_ext {us : List Int} {m : Nat} {c d : Nat → Nat} (h : ∀ j, j < m → c j = d j) : grow5 us m c = grow5 us m d := by
  unfold grow5
  exact List.map_congr_left fun j hj => by rw [h j (List.mem_range.1 hj)]
theorem grow5_at {us : List Int} {m j : Nat} {c : Nat → Nat} (h : j < m) : (grow5 us m c)[j]? = some (ofB (sbit us j) (c j) : Int) := by simp [grow5, h]
theorem grow5_set {us : List Int} {m j k : Nat} {c : Nat → Nat} (h : j < m) : (grow5 us m c).set j (ofB (sbit us j) k : Int) = grow5 us m (fun x => if x = j then k else c x) := by
  apply List.ext_getElem?
  intro i
  rw [List.getElem?_set]
  by_cases e : j = i
  · subst e
    rw [if_pos rfl, if_pos (by rw [grow5_len]; exact h), grow5_at h, if_pos rfl]
  · rw [if_neg e]
    by_cases hi : i < m
    · rw [grow5_at hi, grow5_at hi, if_neg (fun x => e x.symm)]
    · rw [List.getElem?_eq_none (by rw [grow5_len]; omega), List.getElem?_eq_none (by rw [grow5_len]; omega)]
theorem grow5_no {us : List Int} {m j k : Nat} {c : Nat → Nat} (hb : sbit us j k = false) (hc : c j = k) : grow5 us m c = grow5 us m (fun x => if x = j then k + 1 else c x) := by
  unfold grow5
  refine List.map_congr_left fun x hx => ?_
  show (ofB (sbit us x) (c x) : Int) = (ofB (sbit us x) (if x = j then k + 1 else c x) : Int)
  by_cases e : x = j
  · subst e; rw [if_pos rfl, ofB_no hb, hc]
  · rw [if_neg e]
theorem grow5_zero (us : List Int) (m : Nat) : List.replicate m (Value.int .i64 0) = (grow5 us m fun _ => 0).map (Value.int .i64) := by
  apply List.ext_getElem?
  intro i
  by_cases hi : i < m
  · rw [List.getElem?_map, grow5_at hi, List.getElem?_replicate, if_pos hi]; rfl
  · rw [List.getElem?_eq_none (by simp; omega), List.getElem?_eq_none (by simp [grow5_len]; omega)]
/-- Questions that lie in a block. -/
structure Qrow (w : World) (b : Nat) (l : List Int) : Prop where
  row : w.heap[b]? = some (.cells (l.map (Value.int .i64)).toArray 3 (0, 0))
theorem Qrow.lt {w : World} {b : Nat} {l : List Int} (h : Qrow w b l) : b < w.heap.size := row_ltI h.row
theorem Qrow.step {w w' : World} {b : Nat} {l : List Int} (h : Qrow w b l) (hb : Below w.heap.size w w') : Qrow w' b l := ⟨(hb.block b h.lt).trans h.row⟩
theorem Qrow.cell {w : World} {b j : Nat} {l : List Int} {x : Int} (h : Qrow w b l) (hx : l[j]? = some x) : w.cell? ⟨b, j, none⟩ = some (.int .i64 x) := by rw [row_cellI h.row]; simp [hx]
theorem Qrow.free {w : World} {b : Nat} {l : List Int} (h : Qrow w b l) (i : Nat) : w.frozen? ⟨b, i, none⟩ = false := row_freeI h.row i
theorem Qrow.set {w : World} {b j : Nat} {l : List Int} (h : Qrow w b l) (x : Int) : Qrow (w.setCell ⟨b, j, none⟩ (.int .i64 x)) b (l.set j x) := ⟨by
  have := row_setI h.row j (.int .i64 x)
  rw [this]
  simp⟩
theorem Qrow.far {w : World} {b g : Nat} {l : List Int} (h : Qrow w b l) (hne : b ≠ g) (i : Nat) (u : Value) : Qrow (w.setCell ⟨g, i, none⟩ u) b l := ⟨(Below.heap_setCell w ⟨g, i, none⟩ u b hne).trans h.row⟩
theorem Qrow.drew {w : World} {b : Nat} {l : List Int} (h : Qrow w b l) : Qrow w.drew b l := ⟨h.row⟩
theorem below_drew1 {B : Nat} {a w : World} (h : Below B a w) : Below B a w.drew := ⟨h.os, h.tape, h.output, h.size, h.block⟩
theorem Qrow.new (w : World) (l : List Int) : Qrow (w.alloc (.cells (l.map (Value.int .i64)).toArray 3)) w.heap.size l := ⟨alloc_row _ _ _⟩
theorem lans_qrow {w w' : World} {g c' p : Nat} {l : List Int} {e : Ending} (hl : l.length = p) (he : e = .returned (.tuple #[.slice (some ⟨g, 0, none⟩) p c', .bool true])) (hg : w.heap.size ≤ g) (hr : Qrow w' g l) (hb : Below w.heap.size w w') : LAns w l true e w' := lans_row hl he hg hr.row hb

end Go.Proofs.Ytlhpbhmldcinmaa
namespace Go.Proofs.Ytlhpbhmldcinmaa
open Go.RowKit Go.ChangeShapes Go.WideShapes Go.Maps Go.MapKept Go.ChangeMaps
set_option linter.unusedVariables false

/-- The numbers below k whose true word is v. -/
def grp (qs : List Int) (k v : Nat) : List Int := filt (fun j => twN qs j == v) k
theorem grp_same (qs : List Int) (k : Nat) : grp qs (k + 1) (twN qs k) = grp qs k (twN qs k) ++ [(k : Int)] := filt_yes (by simp)
theorem grp_other {qs : List Int} {k v : Nat} (h : twN qs k ≠ v) : grp qs (k + 1) v = grp qs k v := filt_no (by simpa using h)
theorem grp_len (qs : List Int) (k v : Nat) : (grp qs k v).length ≤ k := filt_len _ _
theorem grp_mem {qs : List Int} {k v : Nat} {x : Int} : x ∈ grp qs k v ↔ ∃ j : Nat, j < k ∧ twN qs j = v ∧ x = (j : Int) := by
  unfold grp
  rw [filt_iff]
  exact ⟨fun ⟨j, a, b, c⟩ => ⟨j, a, by simpa using b, c⟩, fun ⟨j, a, b, c⟩ => ⟨j, a, by simpa using b, c⟩⟩
theorem wf_num {k : Nat} (h : k ≤ 12) : (Lit.int .i64 (k : Int)).wf = true := by
  have : ∀ c : Nat, c ≤ 12 → (Lit.int .i64 (c : Int)).wf = true := by decide +kernel
  exact this k h
def gdat (l : List Int) : DataW Value := match l with | [] => .nil | x :: r => .slice (lits .i64 (x :: r)) []
theorem gdat_row {w : World} {base : Nat} {v : Value} {zs l : List Int} (ho : w.ownsInts base 3 .i64 v zs) (h : gdat l = rowDatum .i64 v zs) : zs = l := by
  rcases ho.datum (H := Value) with ⟨hd, hz⟩ | hd
  · rw [hd] at h
    cases l with
    | nil => exact hz
    | cons x r => cases h
  · rw [hd] at h
    cases l with
    | nil => cases h
    | cons x r =>
      simp only [gdat] at h
      injection h with h1 _
      have hinj : ∀ a b : Int, (DataW.lit (.int .i64 a) : DataW Value) = .lit (.int .i64 b) → a = b := fun a b e => by cases e; rfl
      unfold lits at h1
      exact ((List.map_inj_right hinj).1 h1).symm
theorem gdat_made {w : World} {base : Nat} {v : Value} {zs : List Int} (ho : w.ownsInts base 3 .i64 v zs) (hne : zs ≠ []) : rowDatum .i64 v zs = gdat zs := by
  rw [ho.datum_pos hne]
  cases zs with
  | nil => exact absurd rfl hne
  | cons x r => rfl

/-- The map of the first k numbers by their true words. -/
structure Hold (w : World) (M base : Nat) (qs : List Int) (k : Nat) (D : DataW Value) : Prop where
  owns : w.ownsGroups Try.prog 102 base 3 .i64 M k D
  keys : ∀ kl, has D kl = true → ∃ j, j < k ∧ kl = klW (twN qs j).testBit
  mem : ∀ j, j < k → has D (klW (twN qs j).testBit) = true
  told : ∀ v, v < 2 ^ 14 → D.atKey (klW v.testBit) .nil = gdat (grp qs k v)
theorem groups_empty {w : World} {b base : Nat} {P : Program} {k e : TypeId} {q : IntKind} (hb : w.heap[b]? = some (.map #[] 0)) (h : b < base) : w.ownsGroups (H := Value) P k base e q b 0 (.map []) :=
  ⟨#[], 0, hb, ⟨by simp, stamped_empty 0, by simp⟩, Nat.le_refl _, rfl, h, by simp, by simp⟩
theorem Hold.zero {w : World} {M base : Nat} (qs : List Int) (hb : w.heap[M]? = some (.map #[] 0)) (h : M < base) : Hold w M base qs 0 (.map []) :=
  ⟨groups_empty hb h, fun kl h => (by cases h), fun j h => absurd h (by omega), fun v _ => rfl⟩
theorem groups_isMap {w : World} {P : Program} {k e : TypeId} {base b n : Nat} {q : IntKind} {D : DataW Value} (h : w.ownsGroups P k base e q b n D) : IsMap D := by
  obtain ⟨es, clock, _, _, _, rfl, _⟩ := h
  exact ⟨_, rfl⟩
theorem Hold.put {w w3 : World} {M base : Nat} {qs : List Int} {k : Nat} {D : DataW Value} (h : Hold w M base qs k D) (hl : qs.length ≤ 14) {d : DataW Value} (hd : d = gdat (grp qs (k + 1) (twN qs k))) (ho : w3.ownsGroups Try.prog 102 base 3 .i64 M (k + 1) (D.put (klW (twN qs k).testBit) d)) :
    Hold w3 M base qs (k + 1) (D.put (klW (twN qs k).testBit) d) := by
  have hi := groups_isMap h.owns
  refine ⟨ho, fun kl hk => ?_, fun j hj => ?_, fun v hv => ?_⟩
  · by_cases e : kl = klW (twN qs k).testBit
    · exact ⟨k, by omega, e⟩
    · rw [has_put_other e] at hk
      obtain ⟨j, hj, e2⟩ := h.keys kl hk
      exact ⟨j, by omega, e2⟩
  · by_cases e : klW (twN qs j).testBit = klW (twN qs k).testBit
    · rw [e]; exact has_put_same hi (klW_key _) _
    · rw [has_put_other e]
      exact h.mem j (by
        by_cases e2 : j = k
        · subst e2; exact absurd rfl e
        · omega)
  · by_cases e : v = twN qs k
    · subst e
      rw [atKey_put_same hi (klW_key _), hd]
    · rw [atKey_put_other (fun e2 => e (klW_inj hv (twN_14 hl k) e2)), h.told v hv, grp_other (fun e2 => e e2.symm)]
theorem grown_none {w w' : World} (h : Below w.heap.size w w') : w.grownBy w' none := ⟨h.os, h.tape, h.output, h.size, fun i hi _ => h.block i hi⟩
theorem Hold.lt {w : World} {M base : Nat} {qs : List Int} {k : Nat} {D : DataW Value} (h : Hold w M base qs k D) : M < w.heap.size := by
  obtain ⟨es, clock, hb, _⟩ := h.owns
  exact (Array.getElem?_eq_some_iff.1 hb).1
theorem groups_step {w w' : World} {P : Program} {k e : TypeId} {base b n : Nat} {q : IntKind} {D : DataW Value} (h : w.ownsGroups P k base e q b n D) (hb : Below w.heap.size w w') : w'.ownsGroups P k base e q b n D :=
  h.kept (grown_none hb) (by simp) (fun es clock hbk x hx => by
    cases hx' : x.val.ownBlock with
    | none => exact .inl rfl
    | some g => exact .inr (by simp))
theorem Hold.step {w w' : World} {M base : Nat} {qs : List Int} {k : Nat} {D : DataW Value} (h : Hold w M base qs k D) (hb : Below w.heap.size w w') : Hold w' M base qs k D :=
  ⟨groups_step h.owns hb, h.keys, h.mem, h.told⟩
theorem under_holders : Try.prog.underlying 98 = some (.map 102 53) := by kernel_rfl
theorem zero_ints : ∀ u : World, (zeroValue 53).run Try.prog u = .ok (.slice none 0 0) u := fun u => by
  simp
theorem wpList_mapEntry_holds {w : World} {ops : Array Oper} {rest : List Oper} {o : Oper} {a : Act} {Q : Exit → Act → World → Prop} (hg : o.guard = none) (m x : Operand) (hop : o.op = Op.mapEntry 98 m x)
    (M base n : Nat) (D : DataW Value) (p : Nat → Bool) (hm : a.eval m = .map (some M)) (hx : a.eval x = .agg (bwv p)) (hown : w.ownsGroups Try.prog 102 base 3 .i64 M n D) (hn : n < maxLen)
    (hK : ∀ (v : Value) (zs : List Int) (st : Nat) (w1 : World), D.atKey (klW p) .nil = rowDatum .i64 v zs → w1.ownsInts base 3 .i64 v zs → zs.length ≤ n → w.grownBy w1 (some M) → w1.heap.size = w.heap.size →
      Hid (∀ (w2 : World) (v' : Value) (zs' : List Int), w1.grownBy w2 v.ownBlock → w2.ownsInts base 3 .i64 v' zs' → zs'.length ≤ n + 1 → (v'.ownBlock = v.ownBlock ∨ ∃ g, v'.ownBlock = some g ∧ w1.heap.size ≤ g) →
        ∃ w3, (Instr.entryStore 98 (.map (some M)) (goInt st) v').run Try.prog w2 = .ok () w3 ∧ w3.ownsGroups Try.prog 102 base 3 .i64 M (n + 1) (D.put (klW p) (rowDatum .i64 v' zs')) ∧ w2.grownBy w3 (some M) ∧ w3.heap.size = w2.heap.size) →
      wpList Try.prog ops Q rest (a.put o.dst (.tuple #[v, goInt st])) w1) : wpList Try.prog ops Q (o :: rest) a w := by
  refine wpList_plain hg fun K' hK' => ?_
  obtain ⟨v, zs, st, w1, hrun, h1, h2, h3, h4, h5, h6⟩ := groups_entry arrWord.law hown under_holders zero_ints hn (keyWord p)
  unfold Oper.wp
  simp [execOp, hop, hm, hx, hrun, Result.andThen]
  exact hK' _ _ (hK v zs st w1 h1 h2 h3 h4 h5 h6)
theorem wpList_entryStore_run {w : World} {ops : Array Oper} {rest : List Oper} {o : Oper} {a : Act} {Q : Exit → Act → World → Prop} (hg : o.guard = none) (m s x : Operand) (t : TypeId) (hop : o.op = Op.entryStore t m s x)
    (M st : Nat) (v : Value) (w3 : World) (hm : a.eval m = .map (some M)) (hs : a.eval s = goInt st) (hx : a.eval x = v) (hrun : (Instr.entryStore t (.map (some M)) (goInt st) v).run Try.prog w = .ok () w3)
    (hK : wpList Try.prog ops Q rest (a.put o.dst undef) w3) : wpList Try.prog ops Q (o :: rest) a w := by
  refine wpList_plain hg fun K' hK' => ?_
  unfold Oper.wp
  simp [execOp, hop, hm, hs, hx, hrun, Result.andThen]
  exact hK' _ _ hK

theorem qrow_news {w : World} {b : Nat} {x : Int} (h : Qrow w b [x]) : ∀ j u, [Value.int .i64 x][j]? = some u → w.cell? ((⟨b, 0, none⟩ : Addr).add j) = some u := fun j u hu => by
  cases j with
  | zero =>
    have e : (⟨b, 0, none⟩ : Addr).add 0 = ⟨b, 0, none⟩ := by unfold Addr.add; simp
    rw [e, h.cell (j := 0) (x := x) rfl]
    simpa using hu
  | succ j => simp at hu
theorem Qrow.grown {w w' : World} {b : Nat} {l : List Int} {r : Option Nat} (h : Qrow w b l) (hg : w.grownBy w' r) (hne : some b ≠ r) : Qrow w' b l := ⟨(hg.block b h.lt hne).trans h.row⟩
theorem Wds.grown {w w' : World} {b n : Nat} {f : Nat → Nat} {r : Option Nat} (h : Wds w b f n) (hg : w.grownBy w' r) (hne : some b ≠ r) : Wds w' b f n := ⟨(hg.block b h.lt hne).trans h.row⟩
theorem W14.grown {w w' : World} {b : Nat} {p : Nat → Bool} {r : Option Nat} (h : W14 w b p) (hg : w.grownBy w' r) (hne : some b ≠ r) : W14 w' b p := ⟨(hg.block b h.lt hne).trans h.row⟩
theorem own_far {w : World} {base b : Nat} {v : Value} {zs : List Int} (h : w.ownsInts base 3 .i64 v zs) (hb : b < base) : some b ≠ v.ownBlock := fun e => by
  have := (h.1.lt b e.symm).1
  omega
/-- What a round leaves. -/
theorem hold_round {wr w1 wf w3 : World} {M base ga ca st : Nat} {qs : List Int} {k : Nat} {D : DataW Value} {v : Value} {zs : List Int} (hH : Hold wr M base qs k D) (hl : qs.length ≤ 14) (hk : k ≤ 12)
    (hat : D.atKey (klW (twN qs k).testBit) .nil = rowDatum .i64 v zs) (hoi : w1.ownsInts base 3 .i64 v zs) (hown : wf.ownsInts base 3 .i64 (.slice (some ⟨ga, 0, none⟩) (zs.length + 1) ca) (zs ++ [(k : Int)]))
    (ho3 : w3.ownsGroups Try.prog 102 base 3 .i64 M (k + 1) (D.put (klW (twN qs k).testBit) (rowDatum .i64 (.slice (some ⟨ga, 0, none⟩) (zs.length + 1) ca) (zs ++ [(k : Int)])))) :
    ∃ D', Hold w3 M base qs (k + 1) D' := by
  have hz : zs = grp qs k (twN qs k) := by
    rw [hH.told _ (twN_14 hl k)] at hat
    exact gdat_row hoi hat
  refine ⟨_, hH.put hl ?_ ho3⟩
  rw [gdat_made hown (by simp), grp_same, ← hz]

set_option maxRecDepth 100000 in
set_option maxHeartbeats 4000000 in
theorem holdersOf_any (A : Option Addr) (c lo hi : Nat) (qs : List Int) (n : Nat) (w : World) (hS : Ins w lo hi A qs) (hl : qs.length ≤ 14) (hn : n ≤ 12) :
    Calls Try.prog 105 #[.int .i64 (n : Int), .slice A qs.length c] w fun e w' => ∃ base D, e = .returned (.map (some w.heap.size)) ∧ Hold w' w.heap.size base qs n D ∧ Below w.heap.size w w' := by
  obtain ⟨i0, hi0, hz0, hz1, hz2⟩ := info_parts infoI3
  have HI := Lib.hid hS
  have htop := hS.top
  have HT := Lib.hid (fun W h => allTrue_any A c lo hi qs n W h hl hn)
  have B0 := (Below.refl w.heap.size w).alloc (Nat.le_refl _) (.map #[] 0)
  have hM0 := (MapKept.heap_alloc w (.map #[] 0)).1
  have HI1 := Lib.hid (hS.step B0)
  have HB0 := Lib.hid B0
  have HM0 := Lib.hid hM0
  have hmm : (Instr.makeMap 98 none).run Try.prog w = .ok (.map (some w.heap.size)) (w.alloc (.map #[] 0)) := rfl
  clear hS B0 hM0
  go_enter Try.func105, Try.ntmps105
  go_wp2_with fail
  clear hmm
  generalize w.alloc (.map #[] 0) = wa at HI1 HB0 HM0 ⊢
  have hMlt : w.heap.size < wa.heap.size := (Array.getElem?_eq_some_iff.1 HM0.out).1
  refine (HT.out wa HI1.out).mono ?_
  rintro e wb ⟨rfl, hW, hb⟩
  have HW := Lib.hid hW
  have HH0 := Lib.hid (Hold.zero qs ((hb.block _ hMlt).trans HM0.out) (Nat.lt_of_lt_of_le hMlt hb.size))
  have HB1 := Lib.hid (below_trans HB0.out hb)
  have hgM : wa.heap.size ≠ w.heap.size := by omega
  have hwb := HB1.out.size
  have hglt := hW.lt
  clear hW hb HI1 HB0 HM0 HT hMlt
  generalize wa.heap.size = g at HW hgM hglt ⊢
  go_wp2_with fail
  go_loopw [13] (fun i wr => ∃ (k : Nat) (D : DataW Value), k ≤ n ∧ i = .int .i64 k ∧ Hid (Hold wr w.heap.size wb.heap.size qs k D) ∧ Hid (Wds wr g (twN qs) n) ∧ Hid (Below w.heap.size w wr) ∧ wb.heap.size ≤ wr.heap.size) (fun i _ => n - (intOf i).toNat)
  case atStart => exact ⟨0, _, Nat.zero_le _, rfl, HH0, HW, HB1, Nat.le_refl _⟩
  case round =>
    clear HH0 HB1 HW
    obtain ⟨k, D, hk, rfl, HH, HW, HB, hsz⟩ := hrel
    rename World => wr
    by_cases hlt : k < n
    · have HZ := Lib.hid (W14.new0 wr)
      have HP := Lib.hid (HZ.out.put (twN qs k).testBit)
      have HBn := Lib.hid (below_new14 wr (twN qs k).testBit)
      have HW2 := Lib.hid (HW.out.step HBn.out)
      have HH2 := Lib.hid (HH.out.step HBn.out)
      have HB2 := Lib.hid (below_trans HB.out HBn.out)
      have hsz2 : wb.heap.size ≤ ((wr.alloc (.cells #[.bool false, .bool false, .bool false, .bool false, .bool false, .bool false, .bool false, .bool false, .bool false, .bool false, .bool false, .bool false, .bool false, .bool false] 102)).setRow wr.heap.size (bwv (twN qs k).testBit)).heap.size := Nat.le_trans hsz HBn.out.size
      have BA := (Below.refl _ ((wr.alloc (.cells #[.bool false, .bool false, .bool false, .bool false, .bool false, .bool false, .bool false, .bool false, .bool false, .bool false, .bool false, .bool false, .bool false, .bool false] 102)).setRow wr.heap.size (bwv (twN qs k).testBit))).alloc (Nat.le_refl _) (.cells #[.int .i64 (k : Int)] 3)
      have HH3 := Lib.hid (HH2.out.step BA)
      have HW3 := Lib.hid (HW2.out.step BA)
      have HB3 := Lib.hid (below_trans HB2.out BA)
      have HC3 : Hid (Qrow (((wr.alloc (.cells #[.bool false, .bool false, .bool false, .bool false, .bool false, .bool false, .bool false, .bool false, .bool false, .bool false, .bool false, .bool false, .bool false, .bool false] 102)).setRow wr.heap.size (bwv (twN qs k).testBit)).alloc (.cells #[.int .i64 (k : Int)] 3)) (wr.heap.size + 1) [(k : Int)]) := Lib.hid ⟨alloc_row' _ _ _ _ (by simp)⟩
      have hsz3 := Nat.le_trans hsz2 BA.size
      have HE := Lib.hid (fun (w1 wf w3 : World) (ga ca : Nat) (v : Value) (zs : List Int) hat hoi hown ho3 => hold_round (w1 := w1) (wf := wf) (w3 := w3) (ga := ga) (ca := ca) (st := 0) (v := v) (zs := zs) HH.out hl (show k ≤ 12 by omega) hat hoi hown ho3)
      have hMw := HB.out.size
      have hkm : k < maxLen := by unfold maxLen; omega
      clear HH HB HBn HH2 HB2 HW2 BA hsz2
      go_wp2_with (first
        | (with_reducible refine wpList_load14at rfl (.tmp 16) rfl g n k (twN qs) rfl HW.out hlt ?_)
        | (with_reducible refine wpList_store14 rfl (.tmp 7) (.tmp 17) rfl wr.heap.size (fun _ => false) (twN qs k).testBit rfl rfl HZ.out ?_)
        | (with_reducible refine wpList_load14 rfl (.tmp 7) rfl wr.heap.size (twN qs k).testBit rfl HP.out ?_)
        | (refine wpList_mapEntry_holds rfl (.tmp 18) (.tmp 19) rfl w.heap.size wb.heap.size k D (twN qs k).testBit rfl rfl HH3.out.owns hkm ?_; intro v zs st w1 hat hoi hzl hg1 hs1 hst; have HQ1 := Lib.hid (HC3.out.grown hg1 (by intro e; injection e; omega)); have HW1 := Lib.hid (HW3.out.grown hg1 (by intro e; injection e; omega)); have HB1 := Lib.hid (HB3.out.grown hg1 HB3.out.size (fun j hj => by injection hj; omega)); have hsz1 := Nat.le_trans hsz3 hg1.size; have HAt := Lib.hid hat; have HOi := Lib.hid hoi; clear hat hoi hg1 hs1 HH3 HC3 HW3 HB3 hsz3 HZ HP HW)
        | (at_builtin; refine wpList_append_lies _ rfl (.tmp 20) (.tmp 22) 53 rfl wb.heap.size 3 i0 (.int .i64 0) 1 8 Try.underlying53 hi0 hz0 hz1 hz2 rfl (by decide) v zs.length (zs.map (Value.int .i64)) rfl HOi.out.1 ⟨wr.heap.size + 1, 0, none⟩ 1 1 [.int .i64 (k : Int)] rfl rfl (qrow_news HQ1.out) (by simp [Value.oneCell']) (by decide) (by unfold maxLen; omega) (by omega) hsz1 _ rfl ?_; intro ga ca wf hown ha hblk hlta; have HOwn := Lib.hid (HOi.out.appended hown (wf_num (show k ≤ 12 by omega))); obtain ⟨w3, hrun, ho3, hg3, hs3⟩ := hst.out wf (.slice (some ⟨ga, 0, none⟩) (zs.length + 1) ca) (zs ++ [(k : Int)]) ha HOwn.out (by simp; omega) (hblk.imp (fun e => e.symm) (fun e => ⟨ga, rfl, by omega⟩)); have HW3 := Lib.hid ((HW1.out.grown ha (own_far HOi.out hglt)).grown hg3 (by intro e; injection e; omega)); have HB3 := Lib.hid ((HB1.out.grown ha HB1.out.size (fun j hj => by have := (HOi.out.1.lt j hj).1; omega)).grown hg3 (Nat.le_trans HB1.out.size ha.size) (fun j hj => by injection hj; omega)); have hsz3 := Nat.le_trans hsz1 (Nat.le_trans ha.size hg3.size); have HD := Lib.hid (HE.out w1 wf w3 ga ca v zs HAt.out HOi.out HOwn.out ho3); clear hown ha hblk hlta ho3 hg3 hs3 HQ1 HW1 HB1 hsz1 HAt HOi HOwn hst)
        | (refine wpList_entryStore_run rfl (.tmp 18) (.tmp 25) (.tmp 24) 98 rfl w.heap.size st (.slice (some ⟨ga, 0, none⟩) (zs.length + 1) ca) w3 rfl rfl rfl hrun ?_; clear hrun))
      obtain ⟨D', hD'⟩ := HD.out
      have HDD := Lib.hid hD'
      clear hD' HD
      go_wp2
      go_roundw
      case rel => exact ⟨k + 1, D', by omega, by go_num, HDD, HW3, HB3, hsz3⟩
      case measure => simp [intOf]; omega
    · obtain rfl : k = n := by omega
      go_wp2
      go_ret
      exact ⟨_, _, rfl, HH.out, HB.out⟩
end Go.Proofs.Ytlhpbhmldcinmaa
namespace Go.Proofs.Ytlhpbhmldcinmaa
open Go.RowKit Go.ChangeShapes Go.WideShapes Go.Maps Go.MapKept Go.ChangeMaps
set_option linter.unusedVariables false

theorem Hold.map {w : World} {M base : Nat} {qs : List Int} {n : Nat} {D : DataW Value} (h : Hold w M base qs n D) : w.ownsMap Try.prog 102 (rowElem w base 3 .i64) M n D := by
  obtain ⟨es, clock, hb, F, hs, hD, _⟩ := h.owns
  exact ⟨es, clock, hb, F, hs, hD⟩
/-- Which numbers have come. -/
def came (qs : List Int) (left : Lit → Bool) (j : Nat) : Bool := !left (klW (twN qs j).testBit)
theorem came_start {w : World} {M base : Nat} {qs : List Int} {n : Nat} {D : DataW Value} (h : Hold w M base qs n D) {j : Nat} (hj : j < n) : came qs (has D) j = false := by simp [came, h.mem j hj]
theorem came_end {qs : List Int} {left : Lit → Bool} (hl : ∀ kl, left kl = false) (j : Nat) : came qs left j = true := by simp [came, hl]
theorem came_step {qs : List Int} {left : Lit → Bool} (hl : qs.length ≤ 14) (v j : Nat) (hv : v < 2 ^ 14) : came qs (fun z => left z && !z.sameKey (klW v.testBit)) j = (came qs left j || twN qs j == v) := by
  show (!(left (klW (twN qs j).testBit) && !(klW (twN qs j).testBit).sameKey (klW v.testBit))) = (!left (klW (twN qs j).testBit) || twN qs j == v)
  by_cases e : twN qs j = v
  · subst e
    rw [WideAt.sameKey_self (klW_key _)]
    simp
  · rw [sameKey_ne (fun h => e (klW_inj (twN_14 hl j) hv h))]
    simp [e]
/-- The least of those that have come. -/
structure Least (qs : List Int) (n x : Nat) (left : Lit → Bool) (l : Nat) : Prop where
  le : l ≤ 14
  all : ∀ j, j < n → came qs left j = true → l ≤ apartN (twN qs j) x
  got : l = 14 ∨ ∃ j, j < n ∧ l = apartN (twN qs j) x
theorem leastTo_mem {ws : List Nat} {x : Nat} : ∀ {k}, 0 < k → ∃ j, j < k ∧ leastTo ws x k = apartN (ws.getD j 0) x
  | 0, h => absurd h (by omega)
  | k + 1, _ => by
    by_cases hk : k = 0
    · subst hk
      refine ⟨0, by omega, ?_⟩
      have := apartN_le (ws.getD 0 0) x
      simp only [leastTo]
      omega
    · obtain ⟨j, hj, e⟩ := leastTo_mem (ws := ws) (x := x) (k := k) (by omega)
      by_cases h : leastTo ws x k ≤ apartN (ws.getD k 0) x
      · exact ⟨j, by omega, by rw [leastTo, ← e]; omega⟩
      · exact ⟨k, by omega, by rw [leastTo]; omega⟩
theorem Least.done {qs : List Int} {n x l : Nat} {left : Lit → Bool} (h : Least qs n x left l) (hn : 1 ≤ n) (hl : ∀ kl, left kl = false) : l = leastTo (twL qs n) x n := by
  obtain ⟨j, hj, e⟩ := leastTo_mem (ws := twL qs n) (x := x) (k := n) (by omega)
  rw [twL_at hj] at e
  have h1 := h.all j hj (came_end hl j)
  rcases h.got with h2 | ⟨i, hi, h2⟩
  · have := apartN_le (twN qs j) x
    omega
  · have := leastTo_at (ws := twL qs n) (x := x) hi
    rw [twL_at hi] at this
    omega
theorem Least.step {qs : List Int} {n x l j : Nat} {left : Lit → Bool} (h : Least qs n x left l) (hl : qs.length ≤ 14) (hj : j < n) : Least qs n x (fun z => left z && !z.sameKey (klW (twN qs j).testBit)) (min l (apartN (twN qs j) x)) := by
  have hap := apartN_le (twN qs j) x
  refine ⟨by have := h.le; omega, fun i hi hc => ?_, ?_⟩
  · rw [came_step hl _ _ (twN_14 hl j)] at hc
    rw [Bool.or_eq_true, beq_iff_eq] at hc
    rcases hc with hc | hc
    · have := h.all i hi hc; omega
    · rw [hc]; omega
  · by_cases hm : l ≤ apartN (twN qs j) x
    · rw [show min l (apartN (twN qs j) x) = l by omega]
      exact h.got
    · exact .inr ⟨j, hj, by omega⟩

set_option maxRecDepth 100000 in
set_option maxHeartbeats 4000000 in
theorem nearest_any (M base : Nat) (qs : List Int) (n x : Nat) (D : DataW Value) (w : World) (hH : Hold w M base qs n D) (hl : qs.length ≤ 14) (hn : 1 ≤ n ∧ n ≤ 12) :
    Calls Try.prog 106 #[.map (some M), .agg (bwv x.testBit)] w fun e w' => e = .returned (.int .i64 (leastTo (twL qs n) x n : Int)) ∧ Below w.heap.size w w' := by
  have HT0 := Lib.hid (W14.new w x.testBit w.heap.size rfl)
  have B0 := (Below.refl w.heap.size w).alloc (Nat.le_refl _) (.cells (bwv x.testBit) 102)
  have HH := Lib.hid (hH.step B0)
  have HB0 := Lib.hid B0
  have hMlt := hH.lt
  have hKeys := Lib.hid hH.keys
  have HA := Lib.hid (fun p q W => apart_any p q W)
  have HS0 : Hid (Least qs n x (has D) 14) := Lib.hid ⟨Nat.le_refl _, fun j hj hc => (by rw [came_start hH hj] at hc; cases hc), .inl rfl⟩
  clear B0 hH
  go_enter Try.func106, Try.ntmps106
  obtain ⟨R, hown⟩ : ∃ R, (w.alloc (.cells (bwv x.testBit) 102)).ownsMap Try.prog 102 R M n D := ⟨_, HH.out.map⟩
  have hr0 : (w.alloc (.cells (bwv x.testBit) 102)).heap.size = w.heap.size + 1 := by simp
  go_wp2_with (first
    | (at_range; refine wpList_range_own _ rfl _ 98 rfl 102 53 keyedWord under_holders R M n D rfl hown ?_; intro w0 hrg0 hg0 hs0))
  go_frame
  rw [hr0] at hrg0 ⊢
  have HR0 := Lib.hid hrg0
  have HT1 := Lib.hid (HT0.out.grown hg0 (by simp))
  have HB1 := Lib.hid (HB0.out.grown hg0 HB0.out.size (fun j hj => by cases hj))
  clear hrg0 hg0 hs0 hown HT0 HB0 HH hr0
  go_loopw [5] (fun v wr => ∃ (l : Nat) (left : Lit → Bool) (cnt : Nat), v = .int .i64 (l : Int) ∧ Hid (wr.ranges Try.prog 102 R M (w.heap.size + 1) n D left cnt) ∧ Hid (Least qs n x left l) ∧ Hid (W14 wr w.heap.size x.testBit) ∧ Hid (Below w.heap.size w wr)) (fun _ wr => wr.rangeLeft M (w.heap.size + 1))
  case atStart => exact ⟨14, _, _, rfl, HR0, HS0, HT1, HB1⟩
  case round =>
    clear HR0 HS0 HT1 HB1
    obtain ⟨l, left, cnt, rfl, HR, HS, HT, HB⟩ := hrel
    rename World => wr
    have hl14 := HS.out.le
    go_wp2_with (at_next; refine wpList_next_ranges _ rfl (.tmp 8) rfl 102 keyedWord R (fun xs : Array Value => Value.agg xs) (fun v : Value => v) (fun key kl h => keyed_agg h) (fun v y h => ⟨v, rfl⟩) M (w.heap.size + 1) n D left cnt rfl HR.out ?_ ?_)
    · intro _ hl0
      have HD := Lib.hid (HS.out.done hn.1 hl0)
      go_wp2
      go_ret
      rw [HD.out]
      exact ⟨rfl, HB.out⟩
    · intro xs v kl yd yp w1 cnt1 hkey hlk hv hat hrg1 hlt hg1 hs1 hen
      obtain ⟨j, hj, rfl⟩ := hKeys.out kl (has_true_of_atKey hat)
      obtain rfl := klW_agg hkey
      have HT1 := Lib.hid (HT.out.grown hg1 (by intro e; injection e; omega))
      have HB1 := Lib.hid (HB.out.grown hg1 HB.out.size (fun i hi => by injection hi; omega))
      have HZ := Lib.hid (W14.new0 w1)
      have HP := Lib.hid (HZ.out.put (twN qs j).testBit)
      have HBn := Lib.hid (below_new14 w1 (twN qs j).testBit)
      have HT2 := Lib.hid (HT1.out.step HBn.out)
      have HB2 := Lib.hid (below_trans HB1.out HBn.out)
      have HR2 := Lib.hid (hrg1.kept (grown_none HBn.out) (by simp) (by simp))
      have hlc : wr.rangeLeft M (w.heap.size + 1) = cnt := HR.out.left_eq
      have HLC := Lib.hid hlc
      have HS2 := Lib.hid (HS.out.step hl hj)
      have HAk := Lib.hid (fun W => HA.out (twN qs j).testBit x.testBit W)
      rw [show cntB (fun i => (twN qs j).testBit i != x.testBit i) 14 = apartN (twN qs j) x from rfl] at HAk
      have hap := apartN_le (twN qs j) x
      clear hkey hlk hv hat hrg1 hg1 hs1 HT HB HT1 HB1 HBn HR HS hlc
      generalize apartN (twN qs j) x = a at HAk HS2 hap
      go_wp2_with (first
        | (with_reducible refine wpList_store14 rfl (.tmp 6) (.tmp 12) rfl w1.heap.size (fun _ => false) (twN qs j).testBit rfl rfl HZ.out ?_)
        | (with_reducible refine wpList_load14 rfl (.tmp 6) rfl w1.heap.size (twN qs j).testBit rfl HP.out ?_)
        | (with_reducible refine wpList_load14 rfl (.tmp 3) rfl w.heap.size x.testBit rfl HT2.out ?_))
      refine (HAk.out _).mono ?_
      rintro e w7 ⟨rfl, hb⟩
      have HT3 := Lib.hid (HT2.out.step hb)
      have HB3 := Lib.hid (below_trans HB2.out hb)
      have HR3 := Lib.hid (HR2.out.kept (grown_none hb) (by simp) (by simp))
      clear hb HT2 HB2 HR2 HP HZ hen
      go_wp2
      go_roundw
      case rel => exact ⟨min l a, _, cnt1, by congr 1; omega, HR3, HS2, HT3, HB3⟩
      case measure => rw [HR3.out.left_eq, HLC.out]; exact hlt
end Go.Proofs.Ytlhpbhmldcinmaa
namespace Go.Proofs.Ytlhpbhmldcinmaa
open Go.RowKit Go.ChangeShapes Go.WideShapes Go.Maps Go.MapKept Go.ChangeMaps Go.Sort
set_option linter.unusedVariables false

/-- What has been collected of those that have come. -/
structure Coll (qs : List Int) (n x m : Nat) (left : Lit → Bool) (zs : List Int) : Prop where
  nodup : zs.Nodup
  mem : ∀ y, y ∈ zs ↔ ∃ j : Nat, j < n ∧ (came qs left j && decide (apartN (twN qs j) x ≤ m)) = true ∧ y = (j : Int)
theorem Coll.sorted {qs : List Int} {n x m : Nat} {left : Lit → Bool} {zs : List Int} (h : Coll qs n x m left zs) : (zs.mergeSort fun x y => decide (x ≤ y)) = filt (fun j => came qs left j && decide (apartN (twN qs j) x ≤ m)) n := sort_filt h.nodup h.mem
theorem Coll.len {qs : List Int} {n x m : Nat} {left : Lit → Bool} {zs : List Int} (h : Coll qs n x m left zs) : zs.length ≤ n := by
  have h1 := h.sorted
  have h2 := filt_len (fun j => came qs left j && decide (apartN (twN qs j) x ≤ m)) n
  rw [← h1, List.length_mergeSort] at h2
  exact h2
theorem Coll.done {qs : List Int} {n x m : Nat} {left : Lit → Bool} {zs : List Int} (h : Coll qs n x m left zs) (hl : ∀ kl, left kl = false) : (zs.mergeSort fun x y => decide (x ≤ y)) = fitL (twL qs n) x m := by
  rw [h.sorted]
  unfold fitL fitTo
  rw [twL_len]
  refine filt_ext _ fun j hj => ?_
  rw [came_end hl, twL_at hj, Bool.true_and]
theorem Coll.start {w : World} {M base : Nat} {qs : List Int} {n x m : Nat} {D : DataW Value} (h : Hold w M base qs n D) : Coll qs n x m (has D) [] :=
  ⟨List.nodup_nil, fun y => ⟨fun h => absurd h (by simp), fun ⟨j, hj, hc, _⟩ => by rw [came_start h hj] at hc; simp at hc⟩⟩
theorem grp_nodup (qs : List Int) (n v : Nat) : (grp qs n v).Nodup := (filt_asc _ n).imp (fun {a b} h => by omega)
theorem Coll.take {qs : List Int} {n x m v : Nat} {left : Lit → Bool} {zs : List Int} (h : Coll qs n x m left zs) (hl : qs.length ≤ 14) (hv : v < 2 ^ 14) (hlk : left (klW v.testBit) = true) (hm : apartN v x ≤ m) :
    Coll qs n x m (fun z => left z && !z.sameKey (klW v.testBit)) (zs ++ grp qs n v) := by
  refine ⟨List.nodup_append.2 ⟨h.nodup, grp_nodup _ _ _, fun a ha b hb e => ?_⟩, fun y => ?_⟩
  · subst e
    obtain ⟨j, _, hc, e1⟩ := (h.mem a).1 ha
    obtain ⟨i, _, e2, e3⟩ := grp_mem.1 hb
    obtain rfl : i = j := by omega
    unfold came at hc
    rw [e2, hlk] at hc
    simp at hc
  · rw [List.mem_append, h.mem, grp_mem]
    constructor
    · rintro (⟨j, hj, hc, e⟩ | ⟨j, hj, e1, e⟩)
      · refine ⟨j, hj, ?_, e⟩
        rw [came_step hl _ _ hv]
        rw [Bool.and_eq_true] at hc ⊢
        exact ⟨by rw [hc.1]; rfl, hc.2⟩
      · refine ⟨j, hj, ?_, e⟩
        rw [came_step hl _ _ hv, e1]
        simp [hm]
    · rintro ⟨j, hj, hc, e⟩
      rw [came_step hl _ _ hv, Bool.and_eq_true, Bool.or_eq_true, beq_iff_eq] at hc
      rcases hc.1 with h1 | h1
      · exact .inl ⟨j, hj, by rw [h1, hc.2]; rfl, e⟩
      · exact .inr ⟨j, hj, h1, e⟩
theorem Coll.pass {qs : List Int} {n x m v : Nat} {left : Lit → Bool} {zs : List Int} (h : Coll qs n x m left zs) (hl : qs.length ≤ 14) (hv : v < 2 ^ 14) (hm : ¬ apartN v x ≤ m) :
    Coll qs n x m (fun z => left z && !z.sameKey (klW v.testBit)) zs := by
  refine ⟨h.nodup, fun y => ?_⟩
  rw [h.mem]
  constructor
  · rintro ⟨j, hj, hc, e⟩
    refine ⟨j, hj, ?_, e⟩
    rw [came_step hl _ _ hv]
    rw [Bool.and_eq_true] at hc ⊢
    exact ⟨by rw [hc.1]; rfl, hc.2⟩
  · rintro ⟨j, hj, hc, e⟩
    rw [came_step hl _ _ hv, Bool.and_eq_true, Bool.or_eq_true, beq_iff_eq] at hc
    rcases hc.1 with h1 | h1
    · exact ⟨j, hj, by rw [h1, hc.2]; rfl, e⟩
    · rw [h1] at hc
      exact absurd (of_decide_eq_true hc.2) hm
theorem row_news {w : World} {g : Nat} {cur : Array Value} {L : List Int} {t : TypeId} (hb : w.heap[g]? = some (.cells cur t (0, 0))) (ht : cur.toList.take (L.length * 1) = L.map (Value.int .i64)) : ∀ j u, (L.map (Value.int .i64))[j]? = some u → w.cell? ((⟨g, 0, none⟩ : Addr).add j) = some u := fun j u hu => by
  have hadd : (⟨g, 0, none⟩ : Addr).add j = ⟨g, j, none⟩ := by unfold Addr.add; split <;> simp_all
  rw [hadd, row_cellI hb]
  rw [← ht] at hu
  have hj : j < L.length * 1 := by
    rcases Nat.lt_or_ge j (L.length * 1) with h | h
    · exact h
    · rw [List.getElem?_take_eq_none h] at hu; cases hu
  rw [List.getElem?_take_of_lt hj] at hu
  simpa using hu
theorem iter_ne {w : World} {B n r : Nat} {v : Value} {xs : List Value} {e : TypeId} {P : Program} {k : TypeId} {R : Value → Option (DataW Value × List MemPlace)} {b n' cnt : Nat} {D : DataW Value} {left : Lit → Bool} (h : w.ownsRow B e 1 v n xs) (hr : w.ranges P k R b r n' D left cnt) : some r ≠ v.ownBlock := fun he => by
  obtain ⟨_, _, _, _, _, _, _, _, _, hrr, _⟩ := hr
  rcases h.2 with ⟨rfl, _⟩ | ⟨g, cap, cur, rfl, _, hg, _⟩
  · cases he
  · injection he with he
    subst he
    rw [hg] at hrr
    cases hrr

end Go.Proofs.Ytlhpbhmldcinmaa
namespace Go.Proofs.Ytlhpbhmldcinmaa
open Go.RowKit Go.ChangeShapes Go.WideShapes
set_option linter.unusedVariables false

theorem fitTo_yes {ws : List Nat} {x m k : Nat} (h : apartN (ws.getD k 0) x ≤ m) : fitTo ws x m (k + 1) = fitTo ws x m k ++ [(k : Int)] := filt_yes (by simpa using h)
theorem fitTo_no {ws : List Nat} {x m k : Nat} (h : ¬ apartN (ws.getD k 0) x ≤ m) : fitTo ws x m (k + 1) = fitTo ws x m k := filt_no (by simpa using h)
theorem natI_at {ws : List Nat} {k : Nat} (h : k < ws.length) : (ws.map Int.ofNat)[k]? = some ((ws.getD k 0 : Nat) : Int) := by simp [List.getD, h]
theorem getD_mem {ws : List Nat} {k : Nat} (h : k < ws.length) : ws.getD k 0 ∈ ws := by
  have : ws.getD k 0 = ws[k] := by simp [List.getD, h]
  rw [this]
  exact List.getElem_mem h
theorem twL_14 {qs : List Int} (hl : qs.length ≤ 14) (n : Nat) : ∀ v ∈ twL qs n, v < 2 ^ 14 := fun v hv => by
  simp [twL] at hv
  obtain ⟨k, _, rfl⟩ := hv
  exact twN_14 hl k
theorem word_nat {m : Nat} {x : Int} (hm : m ≤ 14) (h : wOK5 m x = true) : ∃ v : Nat, x = (v : Int) ∧ v < 2 ^ m ∧ v < 2 ^ 14 := by
  have h2 := wOK5_iff.1 h
  have e : (2 : Int) ^ m = ((2 ^ m : Nat) : Int) := by norm_cast
  have hp := pow_mono14 hm
  exact ⟨x.toNat, by omega, by omega, by omega⟩
end Go.Proofs.Ytlhpbhmldcinmaa
namespace Go.Proofs.Ytlhpbhmldcinmaa
open Go.RowKit Go.ChangeShapes Go.WideShapes
set_option linter.unusedVariables false

set_option maxRecDepth 100000 in
set_option maxHeartbeats 2000000 in
theorem l5Near_any (A : Option Addr) (c lo hi : Nat) (ws : List Nat) (x : Nat) (w : World) (hS : Ins w lo hi A (ws.map Int.ofNat)) (hw : ∀ v ∈ ws, v < 2 ^ 14) (hx : x < 2 ^ 14) (hl : ws.length ≤ 12) :
    Calls Try.prog 82 #[.slice A ws.length c, .int .i64 (x : Int)] w fun e w' => ∃ v, e = .returned (.tuple #[v, .int .i64 (leastTo ws x ws.length : Int)]) ∧ w'.ownsRow w.heap.size 3 1 v (nearTo ws x ws.length).length ((nearTo ws x ws.length).map (Value.int .i64)) ∧ Below w.heap.size w w' := by
  obtain ⟨i0, hi0, hz0, hz1, hz2⟩ := info_parts infoI3
  have HI := Lib.hid hS
  have htop := hS.top
  have HA := Lib.hid (fun k (hk : k < ws.length) W => l5Apart_any (ws.getD k 0) x W (hw _ (getD_mem hk)) hx)
  have HWl := Lib.hid (fun k (hk : k < ws.length) => hw _ (getD_mem hk))
  have hx2 : x < 16384 := hx
  have O0 := Lib.hid (O0_any w w.heap.size (Nat.le_refl _))
  clear hS hw hx
  go_enter Try.func82, Try.ntmps82
  go_wp2_with fail
  go_loopw [6, 7, 8] (fun out l i wr => ∃ (k : Nat), k ≤ ws.length ∧ i = .int .i64 k ∧ l = .int .i64 (leastTo ws x k : Int) ∧ Hid (wr.ownsRow w.heap.size 3 1 out (nearTo ws x k).length ((nearTo ws x k).map (Value.int .i64))) ∧ Hid (Past w.heap.size w wr)) (fun _ _ i _ => ws.length - (intOf i).toNat)
  case atStart => exact ⟨0, Nat.zero_le _, rfl, rfl, (by first | exact O0.out | exact O0), Past.of_below ((Below.refl _ _).alloc (Nat.le_refl _) _)⟩
  case round =>
    obtain ⟨k, hk, rfl, rfl, HO, HP⟩ := hrel
    rename World => wr
    have hsz := HP.out.size
    by_cases hlt : k < ws.length
    · obtain ⟨b, o, rfl, _, hb, hcs⟩ := (HI.out.past HP.out htop).ints (by simp; omega)
      have hcell := hcs k _ (natI_at hlt)
      have HAk := Lib.hid (HA.out k hlt)
      have hwk : ws.getD k 0 < 16384 := HWl.out k hlt
      have hap := apartN_le (ws.getD k 0) x
      have hfl := nearTo_len ws x k
      have hll := leastTo_le ws x k
      have H1 := Lib.hid (nearTo_less (ws := ws) (x := x) (k := k))
      have H2 := Lib.hid (nearTo_same (ws := ws) (x := x) (k := k))
      have H3 := Lib.hid (nearTo_more (ws := ws) (x := x) (k := k))
      clear hcs
      generalize nearTo ws x k = f at HO hfl H2 H3
      generalize leastTo ws x k = L at hll H1 H2 H3 ⊢
      generalize apartN (ws.getD k 0) x = a at HAk hap H1 H2 H3
      generalize ws.getD k 0 = u at hcell HAk hwk
      have hown := HO.out
      by_cases hle : a < L
      · have HF := Lib.hid (H1.out hle)
        have hown1 := O0_any wr w.heap.size hsz
        clear H1 H2 H3 hown HO
        go_wp2_with (first | (go_at_call 103; refine (HAk.out _).mono ?_; rintro e w1 ⟨rfl, rfl⟩) | (at_builtin; refine wpList_append_own _ rfl _ _ 53 rfl w.heap.size 3 i0 (.int .i64 0) 1 8 Try.underlying53 hi0 hz0 hz1 hz2 rfl (by decide) _ _ _ rfl (hown1.alloc _) ⟨_, 0, none⟩ 1 1 [.int .i64 (k : Int)] rfl rfl (qrow_news (x := (k : Int)) ⟨alloc_row' _ _ _ _ (by simp)⟩) (by simp [Value.oneCell']) (by unfold maxLen; omega) (by omega) (by simp <;> omega) ?_; intro v' w1 hown' hgrow _))
        have HO2 := Lib.hid (own_snocI (zs := []) hown' rfl)
        have HP2 := Lib.hid ((HP.out.trans (Past.of_below ((Below.refl _ _).alloc (Nat.le_refl _) (.cells #[] 3)))).trans (Past.grown hown1 hgrow))
        clear hown' hgrow hown1
        go_wp2
        go_roundw
        case rel => exact ⟨k + 1, by omega, by go_num, by rw [HF.out.2], by rw [HF.out.1]; exact HO2.out, HP2.out⟩
        case measure => simp [intOf]; omega
      · by_cases heq : a = L
        · subst heq
          have HF := Lib.hid (H2.out rfl)
          clear H1 H2 H3
          go_wp2_with (first | (go_at_call 103; refine (HAk.out _).mono ?_; rintro e w1 ⟨rfl, rfl⟩) | (at_builtin; refine wpList_append_own _ rfl _ _ 53 rfl w.heap.size 3 i0 (.int .i64 0) 1 8 Try.underlying53 hi0 hz0 hz1 hz2 rfl (by decide) _ _ _ rfl (hown.alloc _) ⟨_, 0, none⟩ 1 1 [.int .i64 (k : Int)] rfl rfl (cell_one_new _ _ _) (by simp [Value.oneCell']) (by unfold maxLen; omega) (by omega) (by simp; omega) ?_; intro v' w1 hown' hgrow _))
          have HO2 := Lib.hid (own_snocI hown' rfl)
          have HP2 := Lib.hid (HP.out.trans (Past.grown hown hgrow))
          clear hown' hgrow hown HO
          go_wp2
          go_roundw
          case rel => exact ⟨k + 1, by omega, by go_num, by rw [HF.out.2], by rw [HF.out.1]; exact HO2.out, HP2.out⟩
          case measure => simp [intOf]; omega
        · have HF := Lib.hid (H3.out (by omega))
          clear H1 H2 H3
          go_wp2_with (first | (go_at_call 103; refine (HAk.out _).mono ?_; rintro e w1 ⟨rfl, rfl⟩))
          go_roundw
          case rel => exact ⟨k + 1, by omega, by go_num, by rw [HF.out.2], by rw [HF.out.1]; exact hown, HP.out⟩
          case measure => simp [intOf]; omega
    · obtain rfl : k = ws.length := by omega
      go_wp2
      go_ret2
      exact ⟨_, rfl, HO.out, HP.out.below (Nat.le_refl _) (Nat.le_refl _)⟩

/-- A list, a number and whether they are. -/
def LAns3 (w : World) (l : List Int) (x : Int) (b : Bool) (e : Ending) (w' : World) : Prop :=
  ∃ B c', e = .returned (.tuple #[.slice B l.length c', .int .i64 x, .bool b]) ∧ Res w' w.heap.size w'.heap.size B l ∧ Below w.heap.size w w'
theorem lans3_own {w w' : World} {v : Value} {zs : List Int} {x : Int} {b : Bool} {e : Ending} (he : e = .returned (.tuple #[v, .int .i64 x, .bool b])) (ho : w'.ownsRow w.heap.size 3 1 v zs.length (zs.map (Value.int .i64))) (hb : Below w.heap.size w w') : LAns3 w zs x b e w' := by
  obtain ⟨A, c, rfl, _, hr⟩ := own_res ho rfl
  exact ⟨A, c, he, hr, hb⟩
theorem lans3_nil {w w1 : World} (hb : Below w.heap.size w w1) : LAns3 w [] 0 false (.returned (.tuple #[.slice (some ⟨w1.heap.size, 0, none⟩) 0 0, .int .i64 0, .bool false])) (w1.alloc (.cells #[] 3)) :=
  ⟨_, 0, rfl, empty_res w1 w.heap.size hb.size, hb.alloc hb.size _⟩
end Go.Proofs.Ytlhpbhmldcinmaa
namespace Go.Proofs.Ytlhpbhmldcinmaa
open Go.RowKit Go.ChangeShapes Go.WideShapes Go.Maps
set_option linter.unusedVariables false

/-- How many answers a word has false, if the nearest number is the secret. -/
def gq (qs : List Int) (n x : Nat) : Nat := leastTo (twL qs n) x n
theorem gq_le {qs : List Int} {n x : Nat} (hn : 1 ≤ n) (hl : qs.length ≤ 14) (hx : x < 2 ^ qs.length) : gq qs n x ≤ qs.length := by
  have h1 := leastTo_at (ws := twL qs n) (x := x) (j := 0) (k := n) (by omega)
  rw [twL_at (by omega)] at h1
  exact Nat.le_trans h1 (apartN_lt hl (twN_lt _ _) hx)
theorem zsN_getD (f : Nat → Nat) {n j : Nat} (h : j < n) : (zsN f n).getD j 0 = ((f j : Nat) : Int) := by simp [zsN, List.getD, h]
theorem zsN_right (g : Nat → Nat) (n w : Nat) : (zsN (rightTo g w) n).set (g w) ((rightTo g w (g w) : Nat) + 1 : Int) = zsN (rightTo g (w + 1)) n := by
  refine List.ext_getElem (by simp [zsN]) fun i h1 h2 => ?_
  rw [List.getElem_set]
  simp only [zsN, List.getElem_map, List.getElem_range, rightTo]
  split
  · rename_i e
    subst e
    omega
  · rename_i e
    omega
theorem zsN_zero (g : Nat → Nat) (n : Nat) : ((zsN (rightTo g 0) n).map (Value.int .i64)).toArray = Array.replicate n (Value.int .i64 0) := by
  have : zsN (rightTo g 0) n = List.replicate n 0 := by
    refine List.ext_getElem (by simp [zsN]) fun i h1 h2 => ?_
    simp [zsN, rightTo]
  rw [this]
  simp
theorem shuns_new {w : World} {M base : Nat} {qs : List Int} {k : Nat} {D : DataW Value} (h : Hold w M base qs k D) : w.Shuns M (fun j => j = w.heap.size) :=
  World.Shuns.reno (No := fun _ => False) (fun _ _ _ _ _ _ _ hN => hN) h.owns (fun g hg => .inr (by omega))
theorem shuns_old {w : World} {M base g : Nat} {qs : List Int} {k : Nat} {D : DataW Value} (h : Hold w M base qs k D) (hg : g < base) : w.Shuns M (fun j => j = g) := fun es clock hb x hx g' hg' hN => by
  subst hN
  rcases h.owns.rowsAbove (row := some g') (fun j hj => by cases hj; exact hg) es clock hb x hx with h1 | h1
  · rw [h1] at hg'; cases hg'
  · exact h1 hg'
theorem shuns_step {w w' : World} {M g : Nat} (h : w.Shuns M (fun j => j = g)) (hl : M < w.heap.size) (hb : Below w.heap.size w w') : w'.Shuns M (fun j => j = g) := h.kept (grown_none hb) hl (by simp)
theorem grown_cell {w : World} {g : Nat} (j : Nat) (v : Value) : w.grownBy (w.setCell ⟨g, j, none⟩ v) (some g) := by
  have hw := within_set (Within.refl g (g + 1) w) (Nat.le_refl _) (Nat.lt_succ_self _) j v
  exact ⟨hw.os, hw.tape, hw.output, hw.size, fun i hi hne => hw.block i hi (by
    rcases Nat.lt_trichotomy i g with h | h | h
    · exact .inl h
    · exact absurd (by rw [h]) hne
    · exact .inr h)⟩
theorem hold_cell {w : World} {M base g : Nat} {qs : List Int} {k : Nat} {D : DataW Value} (h : Hold w M base qs k D) (hs : w.Shuns M (fun j => j = g)) (hne : M ≠ g) (j : Nat) (v : Value) : Hold (w.setCell ⟨g, j, none⟩ v) M base qs k D ∧ (w.setCell ⟨g, j, none⟩ v).Shuns M (fun j => j = g) :=
  ⟨⟨h.owns.kept (grown_cell j v) (fun e => hne (Option.some.inj e)) (hs.rowsOff fun i hi => (Option.some.inj hi).symm), h.keys, h.mem, h.told⟩, hs.kept (grown_cell j v) h.lt (fun e => hne (Option.some.inj e))⟩
theorem hold_at {w w3 : World} {base : Nat} {qs : List Int} {n : Nat} {D : DataW Value} {RW : Array Value} (h : Hold w3 (w.alloc (.cells RW 3)).drew.heap.size base qs n D) : Hold w3 (w.heap.size + 1) base qs n D := by
  rw [show (w.alloc (.cells RW 3)).drew.heap.size = w.heap.size + 1 from by (show (w.alloc (.cells RW 3)).heap.size = _; simp)] at h
  exact h
theorem hold_base {w : World} {M base : Nat} {qs : List Int} {k : Nat} {D : DataW Value} (h : Hold w M base qs k D) : M < base := by
  obtain ⟨es, clock, hb, F, hs, _, hbb, _⟩ := h.owns
  exact hbb
set_option maxRecDepth 100000 in
set_option maxHeartbeats 4000000 in
theorem rightByFalse_any (n : Nat) (A : Option Addr) (c lo hi : Nat) (l : List Int) (w : World) (hS : Ins w lo hi A l) (hn1 : 1 ≤ n) (hn : n ≤ 12) (hl : l.length ≤ 12) :
    Calls Try.prog 84 #[.int .i64 (n : Int), .slice A l.length c] w fun e w' => ∃ g, e = .returned (.slice (some ⟨g, 0, none⟩) (l.length + 1) (l.length + 1)) ∧ w.heap.size ≤ g ∧ w'.heap[g]? = some (.cells (((zsN (rightTo (gq l n) (2 ^ l.length)) (l.length + 1)).map (Value.int .i64)).toArray) 3 (0, 0)) ∧ Below w.heap.size w w' := by
  have HI := Lib.hid hS
  have hmk := makeInts1 l.length (by omega)
  have hwr : IntKind.i64.wrap ((l.length : Int) + 1) = (l.length : Int) + 1 := IntWalk.i64_in _ (by omega)
  rw [← hwr] at hmk
  clear hwr
  have hRW := zsN_zero (gq l n) (l.length + 1)
  generalize Array.replicate (l.length + 1) (Value.int .i64 0) = RW at hmk hRW
  have HRW := Lib.hid hRW
  clear hRW
  have HF := Lib.hid (fun W h => holdersOf_any A c lo hi l n W h (by omega) hn)
  have hp12 := pow13 l.length (by omega)
  have HPI : Hid ((2 : Int) ^ l.length = ((2 ^ l.length : Nat) : Int)) := Lib.hid (by rw [Int.natCast_pow]; rfl)
  have HN := Lib.hid (fun (M base x : Nat) (D : DataW Value) (W : World) (h : Hold W M base l n D) => nearest_any M base l n x D W h (by omega) ⟨hn1, hn⟩)
  have HGQ := Lib.hid (fun (x : Nat) (hx : x < 2 ^ l.length) => gq_le (qs := l) (n := n) (x := x) hn1 (by omega) hx)
  have HAW := Lib.hid (fun (x : Nat) (hx : x < 2 ^ l.length) (W : World) => answersOf_any x W (Nat.lt_of_lt_of_le hx (Nat.pow_le_pow_right (by omega) (by omega))))
  clear hS
  go_enter Try.func84, Try.ntmps84
  go_upto_region 1 with fail
  go_cut [5, 6] from 8 to 14 (fun p5 p6 wx => ∃ (M base g : Nat) (D : DataW Value), p5 = .map (some M) ∧ p6 = .slice (some ⟨g, 0, none⟩) (l.length + 1) (l.length + 1) ∧ Hid (Hold wx M base l n D) ∧ Hid (wx.Shuns M (fun j => j = g)) ∧ M ≠ g ∧ Hid (wx.heap[g]? = some (.cells RW 3 (0, 0))) ∧ Hid (Below w.heap.size w wx) ∧ w.heap.size ≤ g)
  case first =>
    go_region_with (first | (go_at_call 105; (with_reducible refine (HF.out _ (HI.out.step (Below.refl _ w).drew)).mono ?_); rintro e w3 ⟨base, D, rfl, hh, hb⟩; have hbx := below_trans (Below.refl _ w).drew hb) | (go_at_call 105; (with_reducible refine (HF.out _ (HI.out.step ((Below.refl _ w).alloc (Nat.le_refl _) (.cells RW 3)).drew)).mono ?_); rintro e w3 ⟨base, D, rfl, hh, hb⟩; have hbx := below_trans ((Below.refl _ w).alloc (Nat.le_refl _) (.cells RW 3)).drew hb; have hrw := (hb.block w.heap.size (by show w.heap.size < (w.alloc (.cells RW 3)).heap.size; simp)).trans (alloc_row' w RW 3 w.heap.size rfl)))
    all_goals
      go_wp2_with fail
      go_meet
      first
        | exact ⟨_, base, w3.heap.size, D, rfl, rfl, Lib.hid (hh.step ((Below.refl _ w3).alloc (Nat.le_refl _) _)), Lib.hid (shuns_step (shuns_new hh) hh.lt ((Below.refl _ w3).alloc (Nat.le_refl _) _)), Nat.ne_of_lt hh.lt, Lib.hid (alloc_row' w3 RW 3 _ rfl), Lib.hid (hbx.alloc hbx.size _), hbx.size⟩
        | exact ⟨_, base, w.heap.size, D, rfl, rfl, Lib.hid (hold_at hh), Lib.hid (shuns_old (hold_at hh) (by have h9 := hold_base (hold_at hh); omega)), by omega, Lib.hid hrw, Lib.hid hbx, Nat.le_refl _⟩
  case rest =>
    obtain ⟨M, base, g, D, rfl, rfl, HH, HSh, hne, HR, HB, hgl⟩ := hcut
    rename World => w3
    rw [← HRW.out] at HR
    clear HRW hmk HF HI
    go_wp2_with fail
    go_loopw [18] (fun i wr => ∃ (x : Nat), (x : Int) ≤ (2 : Int) ^ l.length ∧ i = .int .i64 (x : Int) ∧ Hid (wr.heap[g]? = some (.cells (((zsN (rightTo (gq l n) x) (l.length + 1)).map (Value.int .i64)).toArray) 3 (0, 0))) ∧ Hid (Hold wr M base l n D) ∧ Hid (wr.Shuns M (fun j => j = g)) ∧ Hid (Below w.heap.size w wr)) (fun i _ => 2 ^ l.length - (intOf i).toNat)
    case atStart => exact ⟨0, by omega, rfl, HR, HH, HSh, HB⟩
    case round =>
      clear HR HH HSh HB
      obtain ⟨x, hx, rfl, HR, HH, HSh, HB⟩ := hrel
      rename World => wr
      by_cases hlt : (x : Int) < (2 : Int) ^ l.length
      · have hxn : x < 2 ^ l.length := by have := HPI.out; omega
        have hj := HGQ.out x hxn
        have HA := Lib.hid (HAW.out x hxn)
        have HNx := Lib.hid (fun W h => HN.out M base x D W h)
        have hgx : leastTo (twL l n) x n = gq l n x := rfl
        rw [hgx] at HNx
        clear hgx
        have HZ := Lib.hid (zsN_right (gq l n) (l.length + 1) x)
        have hrb := rightTo_le (gq l n) (gq l n x) x
        go_wp2_with fail
        with_reducible refine (HA.out _).mono ?_
        rintro e w4 ⟨rfl, hb⟩
        have HH4 := Lib.hid (HH.out.step hb)
        have HSh4 := Lib.hid (shuns_step HSh.out HH.out.lt hb)
        have HR4 : Hid (w4.heap[g]? = some (.cells (((zsN (rightTo (gq l n) x) (l.length + 1)).map (Value.int .i64)).toArray) 3 (0, 0))) := Lib.hid ((hb.block _ (row_ltI HR.out)).trans HR.out)
        have HB4 := Lib.hid (below_trans HB.out hb)
        clear hb HH HSh HR HB
        go_wp2_with fail
        with_reducible refine (HNx.out _ HH4.out).mono ?_
        rintro e w5 ⟨rfl, hb⟩
        have HH5 := Lib.hid (HH4.out.step hb)
        have HSh5 := Lib.hid (shuns_step HSh4.out HH4.out.lt hb)
        have hrow : w5.heap[g]? = some (.cells (((zsN (rightTo (gq l n) x) (l.length + 1)).map (Value.int .i64)).toArray) 3 (0, 0)) := (hb.block _ (row_ltI HR4.out)).trans HR4.out
        have HB5 := Lib.hid (below_trans HB4.out hb)
        clear hb HH4 HSh4 HR4 HB4 HA HNx
        have hcell := getD_cell hrow (i := gq l n x) (by rw [zsN_len]; omega)
        rw [zsN_getD (rightTo (gq l n) x) (by omega)] at hcell
        have hfr := row_freeI hrow (gq l n x)
        have HO2 := Lib.hid (row_setI hrow (gq l n x) (.int .i64 ((rightTo (gq l n) x (gq l n x) : Nat) + 1 : Int)))
        rw [map_set, HZ.out] at HO2
        have HW := Lib.hid (within_set (Within.refl g (g + 1) w5) (Nat.le_refl _) (by omega) (gq l n x) (.int .i64 ((rightTo (gq l n) x (gq l n x) : Nat) + 1 : Int)))
        have HHc := Lib.hid (hold_cell HH5.out HSh5.out hne (gq l n x) (.int .i64 ((rightTo (gq l n) x (gq l n x) : Nat) + 1 : Int)))
        clear hrow HZ
        generalize rightTo (gq l n) x (gq l n x) = v at hcell HO2 HW HHc hrb
        generalize gq l n x = j at hcell hfr HO2 HW HHc hj ⊢
        go_wp2
        go_roundw
        case rel => exact ⟨x + 1, by omega, by go_num, HO2, Lib.hid HHc.out.1, Lib.hid HHc.out.2, Lib.hid (HB5.out.trans (HW.out.below hgl HB5.out.size))⟩
        case measure => have := HPI.out; simp [intOf]; omega
      · have hq : x = 2 ^ l.length := by have := HPI.out; omega
        have HQE := Lib.hid hq
        clear hq
        rw [HQE.out] at HR
        go_wp2
        go_ret
        exact ⟨g, rfl, hgl, HR.out, HB.out⟩
end Go.Proofs.Ytlhpbhmldcinmaa
namespace Go.Proofs.Ytlhpbhmldcinmaa
open Go.RowKit Go.ChangeShapes Go.WideShapes Go.Maps
set_option linter.unusedVariables false

theorem pow12' (n : Nat) (h : n ≤ 12) : 2 ^ n ≤ 4096 ∧ 1 ≤ 2 ^ n := by
  have : ∀ n, n ≤ 12 → 2 ^ n ≤ 4096 ∧ 1 ≤ 2 ^ n := by decide
  exact this n h
theorem filt_pos {p : Nat → Bool} {j : Nat} (hp : p j = true) : ∀ k, j < k → 0 < (filt p k).length
  | k + 1, h => by
    rw [filt]
    rw [List.length_append]
    by_cases e : j = k
    · subst e
      rw [if_pos hp]
      simp
    · have := filt_pos hp k (by omega)
      omega
theorem nearTo_pos {ws : List Nat} {x k : Nat} (h : 0 < k) : 0 < (nearTo ws x k).length := by
  obtain ⟨j, hj, e⟩ := leastTo_mem (ws := ws) (x := x) h
  exact filt_pos (j := j) (decide_eq_true e.symm) k hj
/-- The draws in which the first near number is the secret. -/
def decN (qs : List Int) (n a b k : Nat) : Nat := sumF (fun x => dr a b qs.length (gq qs n x)) k
theorem decN_le {qs : List Int} {n a b : Nat} (hg : GivenS n a b qs) (k : Nat) (hk : k ≤ 2 ^ qs.length) : decN qs n a b k ≤ 4096000000000000 := by
  have h1 := sumF_le (f := fun x => dr a b qs.length (gq qs n x)) (B := 1000000000000) k fun i hi => dr_bd a b _ _ hg.b10 hg.ab hg.l12 (gq_le hg.n1 (by have := hg.l12; omega) (Nat.lt_of_lt_of_le hi hk))
  have h2 := (pow12' qs.length hg.l12).1
  have h3 := Nat.mul_le_mul_right 1000000000000 (show k ≤ 4096 by omega)
  unfold decN
  omega
theorem decN_sum {qs : List Int} {n a b : Nat} (hg : GivenS n a b qs) : sumT (rightTo (gq qs n) (2 ^ qs.length)) (dr a b qs.length) (qs.length + 1) = decN qs n a b (2 ^ qs.length) :=
  right_sum (gq qs n) (dr a b qs.length) qs.length (2 ^ qs.length) fun x hx => gq_le hg.n1 (by have := hg.l12; omega) hx
theorem right_bd {qs : List Int} {n a b : Nat} (hg : GivenS n a b qs) (k : Nat) (hk : k ≤ qs.length + 1) : sumT (rightTo (gq qs n) (2 ^ qs.length)) (dr a b qs.length) k ≤ 53248000000000000 := by
  have h2 := (pow12' qs.length hg.l12).1
  have h1 := sumT_le (f := rightTo (gq qs n) (2 ^ qs.length)) (T := dr a b qs.length) (B := 4096) (C := 1000000000000) k fun i hi => ⟨Nat.le_trans (rightTo_le _ _ _) h2, dr_bd a b _ _ hg.b10 hg.ab hg.l12 (by omega)⟩
  have h3 := Nat.mul_le_mul_right (4096 * 1000000000000) (show k ≤ 13 by have := hg.l12; omega)
  omega
set_option maxRecDepth 100000 in
set_option maxHeartbeats 4000000 in
theorem chanceDecoded_impl (n a b : Nat) (A : Option Addr) (c lo hi : Nat) (l : List Int) (w : World) (hS : Ins w lo hi A l) (hg : GivenS n a b l)  :
    Calls Try.prog 46 #[.int .i64 (n : Int), .slice A l.length c, .agg #[.int .i64 (a : Int), .int .i64 (b : Int)]] w fun e w' => e = .returned (.tuple #[.agg #[.int .i64 ((fr1 (decN l n a b (2 ^ l.length)) (n * b ^ l.length) : Nat) : Int), .int .i64 ((fr2 (decN l n a b (2 ^ l.length)) (n * b ^ l.length) : Nat) : Int)], .bool true]) ∧ Below w.heap.size w w' := by
  have HT := Lib.hid (Two.new w (.int .i64 (a : Int)) (.int .i64 (b : Int)) 25 (w.heap.size) rfl)
  have HB := Lib.hid ((Below.refl w.heap.size w).alloc (Nat.le_refl _) (.cells #[.int .i64 (a : Int), .int .i64 (b : Int)] 25))
  have HR := Lib.hid (Two.new (w.alloc (.cells #[.int .i64 (a : Int), .int .i64 (b : Int)] 25)) (.int .i64 0) (.int .i64 0) 28 (w.heap.size + 1) (by simp))
  replace HT := Lib.hid (HT.out.step ((Below.refl _ _).alloc (Nat.le_refl _) (.cells #[.int .i64 0, .int .i64 0] 28)))
  replace HB := Lib.hid (HB.out.alloc HB.out.size (.cells #[.int .i64 0, .int .i64 0] 28))
  have HI := Lib.hid (hS.step HB.out)
  have HG := Lib.hid (fun W => isDoubt_impl (a : Int) (b : Int) W)
  rw [dOK_iff.2 ⟨⟨by have := hg.b1; omega, by have := hg.b10; omega⟩, by omega, by have := hg.ab; omega⟩] at HG
  have HS := Lib.hid (fun W h => isDrawnScheme_any (n : Int) A c lo hi l W h (by have := hg.l12; omega))
  rw [hg.ok, inB_t (x := (l.length : Int)) (a := 0) (b := 12) (by omega) (by have := hg.l12; omega)] at HS
  have HRt := Lib.hid (fun W h => rightByFalse_any n A c lo hi l W h hg.n1 hg.n12 hg.l12)
  have h12 := hg.l12
  have HDr := Lib.hid (fun (W : World) (k : Nat) (hk : k ≤ l.length) => draws_any a b l.length k hg.b10 hg.ab hg.l12 hk W)
  have HPw := Lib.hid (fun W => powerOf_any b l.length hg.b10 hg.l12 W)
  have HBD := Lib.hid (right_bd hg)
  have HSU := Lib.hid (decN_sum hg)
  have HRB := Lib.hid (fun k => Nat.le_trans (rightTo_le (gq l n) k (2 ^ l.length)) (pow12' l.length hg.l12).1)
  have HDB := Lib.hid (fun (k : Nat) (hk : k ≤ l.length) => dr_bd a b l.length k hg.b10 hg.ab hg.l12 hk)
  have hb12 := pow_bd b l.length hg.b10 hg.l12
  have hbp := pow_pos7 hg.b1 l.length
  have hQ1 : 1 ≤ n * b ^ l.length := Nat.mul_pos hg.n1 hbp
  have hQ2 : n * b ^ l.length ≤ 12 * 1000000000000 := Nat.mul_le_mul hg.n12 hb12
  have hdn := decN_le hg (2 ^ l.length) (Nat.le_refl _)
  have HCo := Lib.hid (fun W => fractionOf_any (decN l n a b (2 ^ l.length)) (n * b ^ l.length) hQ1 (by omega) (by omega) W)
  have hnm : ((n * b ^ l.length : Nat) : Int) = (n : Int) * ((b ^ l.length : Nat) : Int) := Int.natCast_mul _ _
  have hnb : 0 ≤ (n : Int) * ((b ^ l.length : Nat) : Int) ∧ (n : Int) * ((b ^ l.length : Nat) : Int) ≤ 12000000000000 := by rw [← hnm]; omega
  rw [hnm] at HCo
  generalize fr1 (decN l n a b (2 ^ l.length)) (n * b ^ l.length) = X at HCo ⊢
  generalize fr2 (decN l n a b (2 ^ l.length)) (n * b ^ l.length) = Y at HCo ⊢
  clear hQ1 hQ2 hnm hbp
  generalize hpm : ((b ^ l.length : Nat) : Int) = pm at HPw HCo hnb
  clear hpm hb12
  clear hS hg
  go_enter Try.func46, Try.ntmps46
  go_wp2_with fail
  generalize (w.alloc (.cells #[.int .i64 (a : Int), .int .i64 (b : Int)] 25)).alloc (.cells #[.int .i64 0, .int .i64 0] 28) = w0 at HT HR HB HI ⊢
  have h0 := HT.out.c0
  have h1 := HT.out.c1
  with_reducible refine (HG.out _).mono ?_
  rintro e w1 ⟨rfl, hb⟩
  replace HT := Lib.hid (HT.out.step hb)
  replace HR := Lib.hid (HR.out.step hb)
  replace HB := Lib.hid (below_trans HB.out hb)
  replace HI := Lib.hid (HI.out.step hb)
  replace h0 := HT.out.c0
  replace h1 := HT.out.c1
  clear hb
  go_wp2_with (first | (go_at_call 83; (with_reducible refine (HS.out _ HI.out).mono ?_); rintro e wX ⟨rfl, hw⟩; have hw := hw.symm; subst hw))
  with_reducible refine (HRt.out _ HI.out).mono ?_
  rintro e w2 ⟨g, rfl, hgl, hrow, hb⟩
  replace HT := Lib.hid (HT.out.step hb)
  replace HR := Lib.hid (HR.out.step hb)
  replace HB := Lib.hid (below_trans HB.out hb)
  replace HI := Lib.hid (HI.out.step hb)
  replace h0 := HT.out.c0
  replace h1 := HT.out.c1
  have HW := Lib.hid (row_ins70 hrow)
  clear hrow
  clear hb
  clear h0 h1
  clear HI HG HS HRt
  go_wp2_with fail
  go_loopw [8, 28] (fun s i wr => ∃ (k : Nat), k ≤ l.length + 1 ∧ i = .int .i64 (k : Int) ∧ s = .int .i64 ((sumT (rightTo (gq l n) (2 ^ l.length)) (dr a b l.length) k : Nat) : Int) ∧ Hid (Two wr w.heap.size (.int .i64 (a : Int)) (.int .i64 (b : Int)) 25) ∧ Hid (Two wr (w.heap.size + 1) (.int .i64 0) (.int .i64 0) 28) ∧ Hid (Ins wr g (g + 1) (some ⟨g, 0, none⟩) (zsN (rightTo (gq l n) (2 ^ l.length)) (l.length + 1))) ∧ Hid (Below w.heap.size w wr)) (fun _ i _ => l.length + 1 - (intOf i).toNat)
  case atStart => exact ⟨0, Nat.zero_le _, rfl, rfl, HT, HR, HW, HB⟩
  case round =>
    clear HT HR HW HB
    obtain ⟨k, hk, rfl, rfl, HT, HR, HW, HB⟩ := hrel
    by_cases hlt : k < l.length + 1
    · have HDk := Lib.hid (fun W => HDr.out W k (by omega))
      obtain ⟨bb, oo, hbo, _, hbl, hc⟩ := zsN_cell HW.out.ints hlt
      injection hbo with hbo
      injection hbo with hb1 hb2
      subst hb1 hb2
      rw [Nat.zero_add] at hc
      have b1 := HBD.out k hk
      have b2 := HBD.out (k + 1) (by omega)
      have b3 := HRB.out k
      have b4 := HDB.out k (by omega)
      have HS1 := Lib.hid (sumT_next (rightTo (gq l n) (2 ^ l.length)) (dr a b l.length) k)
      have hx : 0 ≤ (((rightTo (gq l n) (2 ^ l.length)) k : Nat) : Int) * ((dr a b l.length k : Nat) : Int) ∧ ((sumT (rightTo (gq l n) (2 ^ l.length)) (dr a b l.length) k : Nat) : Int) + (((rightTo (gq l n) (2 ^ l.length)) k : Nat) : Int) * ((dr a b l.length k : Nat) : Int) ≤ 53248000000000000 := ⟨Int.mul_nonneg (Int.natCast_nonneg _) (Int.natCast_nonneg _), by rw [HS1.out]; omega⟩
      clear b2
      generalize (rightTo (gq l n) (2 ^ l.length)) k = x at HS1 hc hx b3
      generalize dr a b l.length k = y at HS1 HDk hx b4
      generalize sumT (rightTo (gq l n) (2 ^ l.length)) (dr a b l.length) k = s1 at HS1 hx b1
      have h0 := HT.out.c0
      have h1 := HT.out.c1
      go_wp2_with fail
      with_reducible refine (HDk.out _).mono ?_
      rintro e w3 ⟨rfl, hb⟩
      replace HT := Lib.hid (HT.out.step hb)
      replace HR := Lib.hid (HR.out.step hb)
      replace HW := Lib.hid (HW.out.step hb)
      replace HB := Lib.hid (below_trans HB.out hb)
      replace h0 := HT.out.c0
      replace h1 := HT.out.c1
      clear hb
      go_wp2
      go_roundw
      case rel => exact ⟨k + 1, by omega, by go_num, by rw [HS1.out], HT, HR, HW, HB⟩
      case measure => simp [intOf]; omega
    · obtain rfl : k = l.length + 1 := by omega
      rw [HSU.out]
      generalize decN l n a b (2 ^ l.length) = dn at HCo hdn ⊢
      have h0 := HT.out.c0
      have h1 := HT.out.c1
      go_wp2_with (first | (go_at_call 86; (with_reducible refine (HPw.out _).mono ?_); rintro e wX ⟨rfl, hw⟩; have hw := hw.symm; subst hw))
      clear h0 h1
      with_reducible refine (HCo.out _).mono ?_
      rintro e w4 ⟨rfl, hb⟩
      replace HR := Lib.hid (HR.out.step hb)
      replace HB := Lib.hid (below_trans HB.out hb)
      clear hb
      have q0 := HR.out.c0
      have q1 := HR.out.c1
      have q2 := HR.out.f0
      have q3 := HR.out.f1
      go_wp2
      obtain ⟨hs, hw⟩ := stored2 HR.out.row (.int .i64 (X : Int)) (.int .i64 (Y : Int))
      generalize ((w4.setCell ⟨w.heap.size + 1, 0, none⟩ (.int .i64 (X : Int))).setCell ⟨w.heap.size + 1, 1, none⟩ (.int .i64 (Y : Int))) = wf at hs hw ⊢
      have e0 := two0 hs
      have e1 := two1 hs
      refine bodyPost_ret (v := .tuple #[.agg #[.int .i64 (X : Int), .int .i64 (Y : Int)], .bool true]) (by simp [results, go_sem, e0, e1]) rfl ?_
      exact ⟨rfl, HB.out.trans (hw.below (Nat.le_succ _) HB.out.size)⟩
set_option maxRecDepth 100000 in
set_option maxHeartbeats 4000000 in
theorem chanceDecoded_impl_no (n a b : Int) (A : Option Addr) (c lo hi : Nat) (l : List Int) (w : World) (hS : Ins w lo hi A l) (hl : l.length ≤ 1048576) (h : givesB n l a b = false) :
    Calls Try.prog 46 #[.int .i64 n, .slice A l.length c, .agg #[.int .i64 a, .int .i64 b]] w fun e w' => e = .returned (.tuple #[.agg #[.int .i64 0, .int .i64 0], .bool false]) ∧ Below w.heap.size w w' := by
  have HT := Lib.hid (Two.new w (.int .i64 a) (.int .i64 b) 25 (w.heap.size) rfl)
  have HB := Lib.hid ((Below.refl w.heap.size w).alloc (Nat.le_refl _) (.cells #[.int .i64 a, .int .i64 b] 25))
  have HR := Lib.hid (Two.new (w.alloc (.cells #[.int .i64 a, .int .i64 b] 25)) (.int .i64 0) (.int .i64 0) 28 (w.heap.size + 1) (by simp))
  replace HT := Lib.hid (HT.out.step ((Below.refl _ _).alloc (Nat.le_refl _) (.cells #[.int .i64 0, .int .i64 0] 28)))
  replace HB := Lib.hid (HB.out.alloc HB.out.size (.cells #[.int .i64 0, .int .i64 0] 28))
  have HI := Lib.hid (hS.step HB.out)
  have HG := Lib.hid (fun W => isDoubt_impl a b W)
  have HS := Lib.hid (fun W h => isDrawnScheme_any n A c lo hi l W h hl)
  clear hS
  cases hd : dOK a b with
  | false =>
    rw [hd] at HG
    clear hd h HS
    go_enter Try.func46, Try.ntmps46
    go_wp2_with fail
    generalize (w.alloc (.cells #[.int .i64 a, .int .i64 b] 25)).alloc (.cells #[.int .i64 0, .int .i64 0] 28) = w0 at HT HR HB HI ⊢
    have h0 := HT.out.c0
    have h1 := HT.out.c1
    with_reducible refine (HG.out _).mono ?_
    rintro e w1 ⟨rfl, hb⟩
    replace HT := Lib.hid (HT.out.step hb)
    replace HR := Lib.hid (HR.out.step hb)
    replace HB := Lib.hid (below_trans HB.out hb)
    replace HI := Lib.hid (HI.out.step hb)
    replace h0 := HT.out.c0
    replace h1 := HT.out.c1
    clear hb
    clear h0 h1
    have q0 := HR.out.c0
    have q1 := HR.out.c1
    have q2 := HR.out.f0
    have q3 := HR.out.f1
    go_wp2
    obtain ⟨hs, hw⟩ := stored2 HR.out.row (.int .i64 0) (.int .i64 0)
    generalize ((w1.setCell ⟨w.heap.size + 1, 0, none⟩ (.int .i64 0)).setCell ⟨w.heap.size + 1, 1, none⟩ (.int .i64 0)) = wf at hs hw ⊢
    have e0 := two0 hs
    have e1 := two1 hs
    refine bodyPost_ret (v := .tuple #[.agg #[.int .i64 0, .int .i64 0], .bool false]) (by simp [results, go_sem, e0, e1]) rfl ?_
    exact ⟨rfl, HB.out.trans (hw.below (Nat.le_succ _) HB.out.size)⟩
  | true =>
    rw [hd] at HG
    rw [show (isSch n l && inB (l.length : Int) 0 12) = false by simpa [givesB, hd] using h] at HS
    clear hd h
    go_enter Try.func46, Try.ntmps46
    go_wp2_with fail
    generalize (w.alloc (.cells #[.int .i64 a, .int .i64 b] 25)).alloc (.cells #[.int .i64 0, .int .i64 0] 28) = w0 at HT HR HB HI ⊢
    have h0 := HT.out.c0
    have h1 := HT.out.c1
    with_reducible refine (HG.out _).mono ?_
    rintro e w1 ⟨rfl, hb⟩
    replace HT := Lib.hid (HT.out.step hb)
    replace HR := Lib.hid (HR.out.step hb)
    replace HB := Lib.hid (below_trans HB.out hb)
    replace HI := Lib.hid (HI.out.step hb)
    replace h0 := HT.out.c0
    replace h1 := HT.out.c1
    clear hb
    clear h0 h1
    have q0 := HR.out.c0
    have q1 := HR.out.c1
    have q2 := HR.out.f0
    have q3 := HR.out.f1
    go_wp2_with (first | (go_at_call 83; (with_reducible refine (HS.out _ HI.out).mono ?_); rintro e wX ⟨rfl, hw⟩; have hw := hw.symm; subst hw))
    obtain ⟨hs, hw⟩ := stored2 HR.out.row (.int .i64 0) (.int .i64 0)
    generalize ((w1.setCell ⟨w.heap.size + 1, 0, none⟩ (.int .i64 0)).setCell ⟨w.heap.size + 1, 1, none⟩ (.int .i64 0)) = wf at hs hw ⊢
    have e0 := two0 hs
    have e1 := two1 hs
    refine bodyPost_ret (v := .tuple #[.agg #[.int .i64 0, .int .i64 0], .bool false]) (by simp [results, go_sem, e0, e1]) rfl ?_
    exact ⟨rfl, HB.out.trans (hw.below (Nat.le_succ _) HB.out.size)⟩
set_option maxRecDepth 100000 in
set_option maxHeartbeats 2000000 in
theorem chanceDecoded_spec_no (n a b : Int) (A : Option Addr) (c lo hi : Nat) (l : List Int) (w : World) (hS : Ins w lo hi A l) (hl : l.length ≤ 1048576) (h : givesB n l a b = false) :
    Calls Try.prog 44 #[.int .i64 n, .slice A l.length c, .agg #[.int .i64 a, .int .i64 b]] w fun e w' => e = .returned (.tuple #[.agg #[.int .i64 0, .int .i64 0], .bool false]) ∧ Below w.heap.size w w' := by
  have HT := Lib.hid (Two.new w (.int .i64 a) (.int .i64 b) 25 (w.heap.size) rfl)
  have HB := Lib.hid ((Below.refl w.heap.size w).alloc (Nat.le_refl _) (.cells #[.int .i64 a, .int .i64 b] 25))
  have HR := Lib.hid (Two.new (w.alloc (.cells #[.int .i64 a, .int .i64 b] 25)) (.int .i64 0) (.int .i64 0) 28 (w.heap.size + 1) (by simp))
  replace HT := Lib.hid (HT.out.step ((Below.refl _ _).alloc (Nat.le_refl _) (.cells #[.int .i64 0, .int .i64 0] 28)))
  replace HB := Lib.hid (HB.out.alloc HB.out.size (.cells #[.int .i64 0, .int .i64 0] 28))
  have HI := Lib.hid (hS.step HB.out)
  have HA := Lib.hid (fun W hh => l7Scheme_any n a b A c lo hi l W hh hl)
  rw [h] at HA
  clear hS h
  go_enter Try.func44, Try.ntmps44
  go_wp2_with fail
  generalize (w.alloc (.cells #[.int .i64 a, .int .i64 b] 25)).alloc (.cells #[.int .i64 0, .int .i64 0] 28) = w0 at HT HR HB HI ⊢
  have h0 := HT.out.c0
  have h1 := HT.out.c1
  with_reducible refine (HA.out _ HI.out).mono ?_
  rintro e w1 ⟨rfl, hb⟩
  replace HT := Lib.hid (HT.out.step hb)
  replace HR := Lib.hid (HR.out.step hb)
  replace HB := Lib.hid (below_trans HB.out hb)
  replace HI := Lib.hid (HI.out.step hb)
  replace h0 := HT.out.c0
  replace h1 := HT.out.c1
  clear hb
  clear h0 h1
  have q0 := HR.out.c0
  have q1 := HR.out.c1
  have q2 := HR.out.f0
  have q3 := HR.out.f1
  go_wp2
  obtain ⟨hs, hw⟩ := stored2 HR.out.row (.int .i64 0) (.int .i64 0)
  generalize ((w1.setCell ⟨w.heap.size + 1, 0, none⟩ (.int .i64 0)).setCell ⟨w.heap.size + 1, 1, none⟩ (.int .i64 0)) = wf at hs hw ⊢
  have e0 := two0 hs
  have e1 := two1 hs
  refine bodyPost_ret (v := .tuple #[.agg #[.int .i64 0, .int .i64 0], .bool false]) (by simp [results, go_sem, e0, e1]) rfl ?_
  exact ⟨rfl, HB.out.trans (hw.below (Nat.le_succ _) HB.out.size)⟩
theorem near_len (ws : List Nat) (x k : Nat) (h : k ≤ 12) : (nearTo ws x k).length ≤ 12 := Nat.le_trans (filt_len _ _) h
set_option maxRecDepth 100000 in
set_option maxHeartbeats 4000000 in
theorem chanceDecoded_spec (n a b : Nat) (A : Option Addr) (c lo hi : Nat) (l : List Int) (w : World) (hS : Ins w lo hi A l) (hg : GivenS n a b l)  :
    Calls Try.prog 44 #[.int .i64 (n : Int), .slice A l.length c, .agg #[.int .i64 (a : Int), .int .i64 (b : Int)]] w fun e w' => e = .returned (.tuple #[.agg #[.int .i64 ((fr1 (decN l n a b (2 ^ l.length)) (n * b ^ l.length) : Nat) : Int), .int .i64 ((fr2 (decN l n a b (2 ^ l.length)) (n * b ^ l.length) : Nat) : Int)], .bool true]) ∧ Below w.heap.size w w' := by
  have HT := Lib.hid (Two.new w (.int .i64 (a : Int)) (.int .i64 (b : Int)) 25 (w.heap.size) rfl)
  have HB := Lib.hid ((Below.refl w.heap.size w).alloc (Nat.le_refl _) (.cells #[.int .i64 (a : Int), .int .i64 (b : Int)] 25))
  have HR := Lib.hid (Two.new (w.alloc (.cells #[.int .i64 (a : Int), .int .i64 (b : Int)] 25)) (.int .i64 0) (.int .i64 0) 28 (w.heap.size + 1) (by simp))
  replace HT := Lib.hid (HT.out.step ((Below.refl _ _).alloc (Nat.le_refl _) (.cells #[.int .i64 0, .int .i64 0] 28)))
  replace HB := Lib.hid (HB.out.alloc HB.out.size (.cells #[.int .i64 0, .int .i64 0] 28))
  have HI := Lib.hid (hS.step HB.out)
  have HA := Lib.hid (fun W h => l7Scheme_any (n : Int) (a : Int) (b : Int) A c lo hi l W h (by have := hg.l12; omega))
  rw [hg.yes] at HA
  have HWo := Lib.hid (fun W h => l5Words_any A c lo hi l n W h (by have := hg.l12; omega) hg.n12)
  have hlen : ((twL l n).map Int.ofNat).length = n := by simp [twL]
  have hn1 := hg.n1
  have hn12 := hg.n12
  have h12 := hg.l12
  have hp12 := pow13 l.length (by omega)
  have hpw := pow13' l.length h12
  have HPI : Hid ((2 : Int) ^ l.length = ((2 ^ l.length : Nat) : Int)) := Lib.hid (by rw [Int.natCast_pow]; rfl)
  have HNr : Hid (∀ (W : World) (g cc x : Nat), Ins W g (g + 1) (some ⟨g, 0, none⟩) (twI l n) → x < 2 ^ l.length → Calls Try.prog 82 #[.slice (some ⟨g, 0, none⟩) n cc, .int .i64 (x : Int)] W fun e w' => ∃ g' k' c', 0 < k' ∧ k' ≤ 12 ∧ e = .returned (.tuple #[.slice (some ⟨g', 0, none⟩) k' c', .int .i64 ((gq l n x : Nat) : Int)]) ∧ Below W.heap.size W w') := Lib.hid (fun W g cc x hI hx => by
    have h := l5Near_any (some ⟨g, 0, none⟩) cc g (g + 1) (twL l n) x W hI (twL_14 (by omega) n) (Nat.lt_of_lt_of_le hx (Nat.pow_le_pow_right (by omega) (by omega))) (by rw [twL_len]; omega)
    rw [twL_len] at h
    refine h.mono ?_
    rintro e w' ⟨v, rfl, hrow, hb⟩
    have hpos := nearTo_pos (ws := twL l n) (x := x) (k := n) (by omega)
    obtain ⟨g', c', e', _, _⟩ := own_rowS6 hrow rfl hpos
    refine ⟨g', _, c', hpos, near_len _ _ _ (by omega), ?_, hb⟩
    rw [e']
    rfl)
  have HPt := Lib.hid (fun (W : World) (x : Nat) (hx : x < 2 ^ l.length) => l7Parts_any a b l.length (gq l n x) hg.b10 hg.ab hg.l12 (gq_le hg.n1 (by omega) hx) W)
  have HPw := Lib.hid (fun W => l7Power_any b l.length hg.b10 hg.l12 W)
  have HBD := Lib.hid (fun k hk => decN_le hg k hk)
  have HNX : Hid (∀ k, ((decN l n a b k : Nat) : Int) + ((dr a b l.length (gq l n k) : Nat) : Int) = ((decN l n a b (k + 1) : Nat) : Int)) := Lib.hid (fun k => sumF_next (fun x => dr a b l.length (gq l n x)) k)
  have hb12 := pow_bd b l.length hg.b10 hg.l12
  have hbp := pow_pos7 hg.b1 l.length
  have hQ1 : 1 ≤ n * b ^ l.length := Nat.mul_pos hg.n1 hbp
  have hQ2 : n * b ^ l.length ≤ 12 * 1000000000000 := Nat.mul_le_mul hg.n12 hb12
  have hdn := decN_le hg (2 ^ l.length) (Nat.le_refl _)
  have HCo := Lib.hid (fun W => l7Cut_any (decN l n a b (2 ^ l.length)) (n * b ^ l.length) hQ1 (by omega) (by omega) W)
  have hnm : ((n * b ^ l.length : Nat) : Int) = (n : Int) * ((b ^ l.length : Nat) : Int) := Int.natCast_mul _ _
  have hnb : 0 ≤ (n : Int) * ((b ^ l.length : Nat) : Int) ∧ (n : Int) * ((b ^ l.length : Nat) : Int) ≤ 12000000000000 := by rw [← hnm]; omega
  rw [hnm] at HCo
  generalize fr1 (decN l n a b (2 ^ l.length)) (n * b ^ l.length) = X at HCo ⊢
  generalize fr2 (decN l n a b (2 ^ l.length)) (n * b ^ l.length) = Y at HCo ⊢
  clear hQ1 hQ2 hnm hbp
  generalize hpm : ((b ^ l.length : Nat) : Int) = pm at HPw HCo hnb
  clear hpm hb12 hdn
  clear hS hg
  go_enter Try.func44, Try.ntmps44
  go_wp2_with fail
  generalize (w.alloc (.cells #[.int .i64 (a : Int), .int .i64 (b : Int)] 25)).alloc (.cells #[.int .i64 0, .int .i64 0] 28) = w0 at HT HR HB HI ⊢
  have h0 := HT.out.c0
  have h1 := HT.out.c1
  with_reducible refine (HA.out _ HI.out).mono ?_
  rintro e w1 ⟨rfl, hb⟩
  replace HT := Lib.hid (HT.out.step hb)
  replace HR := Lib.hid (HR.out.step hb)
  replace HB := Lib.hid (below_trans HB.out hb)
  replace HI := Lib.hid (HI.out.step hb)
  replace h0 := HT.out.c0
  replace h1 := HT.out.c1
  clear hb
  go_wp2_with fail
  with_reducible refine (HWo.out _ HI.out).mono ?_
  rintro e w2 ⟨v, rfl, hrow, hb⟩
  replace HT := Lib.hid (HT.out.step hb)
  replace HR := Lib.hid (HR.out.step hb)
  replace HB := Lib.hid (below_trans HB.out hb)
  replace HI := Lib.hid (HI.out.step hb)
  replace h0 := HT.out.c0
  replace h1 := HT.out.c1
  clear hb
  obtain ⟨gr, cr, rfl, hgr, hIr⟩ := row_insT hlen hrow (by omega)
  have HW := Lib.hid hIr
  clear hrow hIr
  clear h0 h1
  clear HI HA HWo hlen
  go_wp2_with fail
  go_loopw [8, 11] (fun s i wr => ∃ (x : Nat), (x : Int) ≤ (2 : Int) ^ l.length ∧ i = .int .i64 (x : Int) ∧ s = .int .i64 ((decN l n a b x : Nat) : Int) ∧ Hid (Two wr w.heap.size (.int .i64 (a : Int)) (.int .i64 (b : Int)) 25) ∧ Hid (Two wr (w.heap.size + 1) (.int .i64 0) (.int .i64 0) 28) ∧ Hid (Ins wr gr (gr + 1) (some ⟨gr, 0, none⟩) (twI l n)) ∧ Hid (Below w.heap.size w wr)) (fun _ i _ => 2 ^ l.length - (intOf i).toNat)
  case atStart => exact ⟨0, by omega, rfl, rfl, HT, HR, HW, HB⟩
  case round =>
    clear HT HR HW HB
    obtain ⟨x, hx, rfl, rfl, HT, HR, HW, HB⟩ := hrel
    by_cases hlt : (x : Int) < (2 : Int) ^ l.length
    · have hxn : x < 2 ^ l.length := by have := HPI.out; omega
      have HNq := Lib.hid (fun W h => HNr.out W gr cr x h hxn)
      have HPq := Lib.hid (fun W => HPt.out W x hxn)
      have b1 := HBD.out x (by omega)
      have b2 := HBD.out (x + 1) (by omega)
      have HS1 := Lib.hid (HNX.out x)
      have hdx : ((dr a b l.length (gq l n x) : Nat) : Int) ≤ 4096000000000000 := by have := HS1.out; omega
      generalize dr a b l.length (gq l n x) = y at HPq HS1 hdx
      generalize ((gq l n x : Nat) : Int) = gx at HNq HPq
      generalize decN l n a b x = s1 at HS1 b1
      clear b2
      go_wp2_with fail
      with_reducible refine (HNq.out _ HW.out).mono ?_
      rintro e w3 ⟨g', k', c', hk1, hk2, rfl, hb⟩
      replace HT := Lib.hid (HT.out.step hb)
      replace HR := Lib.hid (HR.out.step hb)
      replace HW := Lib.hid (HW.out.step hb)
      replace HB := Lib.hid (below_trans HB.out hb)
      clear hb
      have h0 := HT.out.c0
      have h1 := HT.out.c1
      go_wp2_with fail
      with_reducible refine (HPq.out _).mono ?_
      rintro e w4 ⟨rfl, hb⟩
      replace HT := Lib.hid (HT.out.step hb)
      replace HR := Lib.hid (HR.out.step hb)
      replace HW := Lib.hid (HW.out.step hb)
      replace HB := Lib.hid (below_trans HB.out hb)
      replace h0 := HT.out.c0
      replace h1 := HT.out.c1
      clear hb
      go_wp2
      go_roundw
      case rel => exact ⟨x + 1, by omega, by go_num, by rw [HS1.out], HT, HR, HW, HB⟩
      case measure => have := HPI.out; simp [intOf]; omega
    · have hq : x = 2 ^ l.length := by have := HPI.out; omega
      have hdn := HBD.out x (by omega)
      rw [← hq] at HCo
      generalize decN l n a b x = dn at HCo hdn ⊢
      have h0 := HT.out.c0
      have h1 := HT.out.c1
      clear hq
      go_wp2_with (first | (go_at_call 55; (with_reducible refine (HPw.out _).mono ?_); rintro e wX ⟨rfl, hw⟩; have hw := hw.symm; subst hw))
      clear h0 h1
      with_reducible refine (HCo.out _).mono ?_
      rintro e w5 ⟨rfl, hb⟩
      replace HR := Lib.hid (HR.out.step hb)
      replace HB := Lib.hid (below_trans HB.out hb)
      clear hb
      have q0 := HR.out.c0
      have q1 := HR.out.c1
      have q2 := HR.out.f0
      have q3 := HR.out.f1
      go_wp2
      obtain ⟨hs, hw⟩ := stored2 HR.out.row (.int .i64 (X : Int)) (.int .i64 (Y : Int))
      generalize ((w5.setCell ⟨w.heap.size + 1, 0, none⟩ (.int .i64 (X : Int))).setCell ⟨w.heap.size + 1, 1, none⟩ (.int .i64 (Y : Int))) = wf at hs hw ⊢
      have e0 := two0 hs
      have e1 := two1 hs
      refine bodyPost_ret (v := .tuple #[.agg #[.int .i64 (X : Int), .int .i64 (Y : Int)], .bool true]) (by simp [results, go_sem, e0, e1]) rfl ?_
      exact ⟨rfl, HB.out.trans (hw.below (Nat.le_succ _) HB.out.size)⟩
/-- What ChanceDecoded answers. -/
theorem chanceDecoded_both (n : Int) (l : List Int) (h : l.length ≤ 1048576) (a b : Int) : ∃ (r0 u0 : Int) (r1 : Bool),
    (∀ (w : World) (A : Option Addr) (c lo hi : Nat), Ins w lo hi A l → Calls Try.prog 46 #[.int .i64 n, .slice A l.length c, .agg #[.int .i64 a, .int .i64 b]] w fun e w' => e = .returned (.tuple #[.agg #[.int .i64 r0, .int .i64 u0], .bool r1]) ∧ Below w.heap.size w w') ∧
    (∀ (w : World) (A : Option Addr) (c lo hi : Nat), Ins w lo hi A l → Calls Try.prog 44 #[.int .i64 n, .slice A l.length c, .agg #[.int .i64 a, .int .i64 b]] w fun e w' => e = .returned (.tuple #[.agg #[.int .i64 r0, .int .i64 u0], .bool r1]) ∧ Below w.heap.size w w') := by
  cases hg : givesB n l a b with
  | false => exact ⟨_, _, _, fun w A c lo hi hS => chanceDecoded_impl_no n a b A c lo hi l w hS h hg, fun w A c lo hi hS => chanceDecoded_spec_no n a b A c lo hi l w hS h hg⟩
  | true =>
    obtain ⟨N, x, y, rfl, rfl, rfl, hG⟩ := gives_nats hg
    exact ⟨_, _, _, fun w A c lo hi hS => chanceDecoded_impl N x y A c lo hi l w hS hG, fun w A c lo hi hS => chanceDecoded_spec N x y A c lo hi l w hS hG⟩
end Go.Proofs.Ytlhpbhmldcinmaa
namespace Go.Proofs.Ytlhpbhmldcinmaa
open Go.RowKit
set_option linter.unusedVariables false

set_option maxRecDepth 100000 in
set_option maxHeartbeats 4000000 in
theorem fnExactChanceDecoded_walk (n : Int) (A : Option Addr) (c : Nat) (l : List Int) (a b : Int) (W : World) (wfn : (Lit.int .i64 n).wf = true) (hS : Ints W 0 W.heap.size A l) (hc : l.length ≤ c) (hcm : c ≤ maxLen) (wfa : (Lit.int .i64 a).wf = true) (wfb : (Lit.int .i64 b).wf = true) (hsh : W.ShapedOpen Try.prog) :
    Calls Try.prog 13 #[.int .i64 n, .slice A l.length c, .agg #[.int .i64 a, .int .i64 b]] W fun e w' => e = .returned (.bool true) ∧ Below W.heap.size W w' := by
  clear hsh
  unfold maxLen at hcm
  by_cases hl : l.length ≤ 1048576
  · skip
    obtain ⟨r0, u0, r1, hI, hC⟩ := chanceDecoded_both n l hl a b
    have CI := Lib.hid hI
    have CS := Lib.hid hC
    have HD := Lib.hid (fun V => toDoubt_any a b V)
    clear hI hC
    have HI := Lib.hid (Ins.mk hS (Nat.le_refl _))
    have HT := Lib.hid (Two.new W (.int .i64 a) (.int .i64 b) 23 (W.heap.size) rfl)
    have HB := Lib.hid ((Below.refl W.heap.size W).alloc (Nat.le_refl _) (.cells #[.int .i64 a, .int .i64 b] 23))
    replace HI := Lib.hid (HI.out.step HB.out)
    have HC := Lib.hid (fun (V : World) (h : Ins V 0 W.heap.size A l) => toInts_any A c 0 W.heap.size l V h hl)
    clear hS hc hcm
    go_enter Try.func13, Try.ntmps13
    go_wp2_with fail
    generalize W.alloc (.cells #[.int .i64 a, .int .i64 b] 23) = w0 at HT HB HI ⊢
    go_upto_region 3 with fail
    go_cut [7, 8] from 15 to 23 (fun p7 p8 wx => ∃ nb, p7 = .pointer (some ⟨nb, 0, none⟩) ∧ p8 = .bool r1 ∧ w0.heap.size ≤ nb ∧ Hid (Two wx nb (.int .i64 r0) (.int .i64 u0) 28) ∧ Hid (Below w0.heap.size w0 wx))
    case first =>
      have HTd := Lib.hid (HT.out.step (Below.refl _ w0).drew)
      have HTa := Lib.hid (HT.out.step ((Below.refl _ w0).alloc (Nat.le_refl _) (.cells #[.int .i64 0, .int .i64 0] 28)).drew)
      have d0 := HTd.out.c0
      have d1 := HTd.out.c1
      have d2 := HTa.out.c0
      have d3 := HTa.out.c1
      have HNa := Lib.hid ((Two.new w0 (.int .i64 0) (.int .i64 0) 28 w0.heap.size rfl).step (Below.refl _ _).drew)
      go_region_with (first
        | (go_at_call 44; (with_reducible refine (CS.out v2 _ _ _ _ HR_v2.out.ins).mono ?_); rintro e v3 ⟨rfl, hb⟩; have HN_v3 := Lib.hid (HN_v2.out.step hb); have HL_v3 := HL_v2; have q0 := HN_v3.out.c0; have q1 := HN_v3.out.c1; have q2 := HN_v3.out.f0; have q3 := HN_v3.out.f1; have HB_v3 := Lib.hid (below_trans HB_v2.out hb); clear hb)
        | (go_at_call 44; (with_reducible refine (CS.out v2 _ _ _ _ HR_v2.out.ins).mono ?_); rintro e v3 ⟨rfl, hb⟩; have HB_v3 := Lib.hid (below_trans HB_v2.out hb); clear hb)
        | (go_at_call 44; (with_reducible refine (CS.out (v2.alloc (.cells #[.int .i64 0, .int .i64 0] 28)) _ _ _ _ (HR_v2.out.step ((Below.refl _ v2).alloc (Nat.le_refl _) (.cells #[.int .i64 0, .int .i64 0] 28))).ins).mono ?_); rintro e v3 ⟨rfl, hb⟩; have HN_v3 := Lib.hid ((Two.new v2 (.int .i64 0) (.int .i64 0) 28 v2.heap.size rfl).step hb); have HL_v3 := HB_v2.out.size; have q0 := HN_v3.out.c0; have q1 := HN_v3.out.c1; have q2 := HN_v3.out.f0; have q3 := HN_v3.out.f1; have HB_v3 := Lib.hid (below_trans (below_trans HB_v2.out ((Below.refl _ v2).alloc (Nat.le_refl _) (.cells #[.int .i64 0, .int .i64 0] 28))) hb); clear hb)
        | (go_at_call 16; (with_reducible refine (HD.out v1).mono ?_); rintro e v2 ⟨rfl, hb⟩; have HN_v2 := Lib.hid (HN_v1.out.step hb); have HL_v2 := HL_v1; have HB_v2 := Lib.hid (below_trans HB_v1.out hb); have HT_v2 := Lib.hid (HT.out.step HB_v2.out); have x0 := HT_v2.out.c0; have x1 := HT_v2.out.c1; have HTb_v2 := Lib.hid (HT_v2.out.step ((Below.refl _ v2).alloc (Nat.le_refl _) (.cells #[.int .i64 0, .int .i64 0] 28))); have y0 := HTb_v2.out.c0; have y1 := HTb_v2.out.c1; have HR_v2 := Lib.hid (HR_v1.out.step hb); clear hb)
        | (go_at_call 16; (with_reducible refine (HD.out v1).mono ?_); rintro e v2 ⟨rfl, hb⟩; have HB_v2 := Lib.hid (below_trans HB_v1.out hb); have HT_v2 := Lib.hid (HT.out.step HB_v2.out); have x0 := HT_v2.out.c0; have x1 := HT_v2.out.c1; have HTb_v2 := Lib.hid (HT_v2.out.step ((Below.refl _ v2).alloc (Nat.le_refl _) (.cells #[.int .i64 0, .int .i64 0] 28))); have y0 := HTb_v2.out.c0; have y1 := HTb_v2.out.c1; have HR_v2 := Lib.hid (HR_v1.out.step hb); clear hb)
        | (go_at_call 16; (with_reducible refine (HD.out (v1.alloc (.cells #[.int .i64 0, .int .i64 0] 28))).mono ?_); rintro e v2 ⟨rfl, hb⟩; have HB_v2 := Lib.hid (below_trans (below_trans HB_v1.out ((Below.refl _ v1).alloc (Nat.le_refl _) (.cells #[.int .i64 0, .int .i64 0] 28))) hb); have HT_v2 := Lib.hid (HT.out.step HB_v2.out); have x0 := HT_v2.out.c0; have x1 := HT_v2.out.c1; have HTb_v2 := Lib.hid (HT_v2.out.step ((Below.refl _ v2).alloc (Nat.le_refl _) (.cells #[.int .i64 0, .int .i64 0] 28))); have y0 := HTb_v2.out.c0; have y1 := HTb_v2.out.c1; have HN_v2 := Lib.hid ((Two.new v1 (.int .i64 0) (.int .i64 0) 28 v1.heap.size rfl).step hb); have HL_v2 := HB_v1.out.size; have HR_v2 := Lib.hid (HR_v1.out.step (below_trans ((Below.refl _ v1).alloc (Nat.le_refl _) (.cells #[.int .i64 0, .int .i64 0] 28)) hb)); clear hb)
        | (go_at_call 45; (with_reducible refine (HC.out _ (HI.out.step (Below.refl _ w0).drew)).mono ?_); rintro e v1 ⟨Bw, rfl, hr, hb⟩; have HB_v1 := Lib.hid (below_trans (Below.refl _ w0).drew hb); have HT_v1 := Lib.hid (HT.out.step HB_v1.out); have x0 := HT_v1.out.c0; have x1 := HT_v1.out.c1; have HTb_v1 := Lib.hid (HT_v1.out.step ((Below.refl _ v1).alloc (Nat.le_refl _) (.cells #[.int .i64 0, .int .i64 0] 28))); have y0 := HTb_v1.out.c0; have y1 := HTb_v1.out.c1; have HR_v1 := Lib.hid hr; clear hr hb)
        | (go_at_call 45; (with_reducible refine (HC.out _ (HI.out.step ((Below.refl _ w0).alloc (Nat.le_refl _) (.cells #[.int .i64 0, .int .i64 0] 28)).drew)).mono ?_); rintro e v1 ⟨Bw, rfl, hr, hb⟩; have HB_v1 := Lib.hid (below_trans ((Below.refl _ w0).alloc (Nat.le_refl _) (.cells #[.int .i64 0, .int .i64 0] 28)).drew hb); have HT_v1 := Lib.hid (HT.out.step HB_v1.out); have x0 := HT_v1.out.c0; have x1 := HT_v1.out.c1; have HTb_v1 := Lib.hid (HT_v1.out.step ((Below.refl _ v1).alloc (Nat.le_refl _) (.cells #[.int .i64 0, .int .i64 0] 28))); have y0 := HTb_v1.out.c0; have y1 := HTb_v1.out.c1; have HN_v1 := Lib.hid (HNa.out.step hb); have HL_v1 := Nat.le_refl w0.heap.size; have HR_v1 := Lib.hid hr; clear hr hb))
      all_goals
        go_wp2_with fail
        go_meet
        first
          | exact ⟨_, rfl, rfl, HL_v3, Lib.hid ⟨(stored2 HN_v3.out.row (.int .i64 r0) (.int .i64 u0)).1⟩, Lib.hid (HB_v3.out.trans ((stored2 HN_v3.out.row (.int .i64 r0) (.int .i64 u0)).2.below HL_v3 HB_v3.out.size))⟩
          | exact ⟨_, rfl, rfl, HB_v3.out.size, Lib.hid (Two.new v3 (.int .i64 r0) (.int .i64 u0) 28 _ rfl), Lib.hid (HB_v3.out.alloc HB_v3.out.size _)⟩
    case rest =>
      obtain ⟨nb, rfl, rfl, hnb, HN, HBx⟩ := hcut
      rename World => w20
      replace HT := Lib.hid (HT.out.step HBx.out)
      replace HI := Lib.hid (HI.out.step HBx.out)
      replace HB := Lib.hid (below_trans HB.out HBx.out)
      clear HBx CS
      go_wp2_with fail
      with_reducible refine (HC.out _ HI.out).mono ?_
      rintro e w21 ⟨Bx, rfl, hr, hb⟩
      replace HT := Lib.hid (HT.out.step hb)
      replace HB := Lib.hid (below_trans HB.out hb)
      replace HI := Lib.hid (HI.out.step hb)
      replace HN := Lib.hid (HN.out.step hb)
      have HR := Lib.hid hr
      clear hr
      clear hb
      have h0 := HT.out.c0
      have h1 := HT.out.c1
      go_wp2_with fail
      with_reducible refine (HD.out _).mono ?_
      rintro e w22 ⟨rfl, hb⟩
      replace HT := Lib.hid (HT.out.step hb)
      replace HB := Lib.hid (below_trans HB.out hb)
      replace HI := Lib.hid (HI.out.step hb)
      replace HN := Lib.hid (HN.out.step hb)
      replace HR := Lib.hid (HR.out.step hb)
      replace h0 := HT.out.c0
      replace h1 := HT.out.c1
      clear hb
      go_wp2_with fail
      with_reducible refine (CI.out _ _ _ _ _ HR.out.ins).mono ?_
      rintro e w23 ⟨rfl, hb⟩
      replace HT := Lib.hid (HT.out.step hb)
      replace HB := Lib.hid (below_trans HB.out hb)
      replace HI := Lib.hid (HI.out.step hb)
      replace HN := Lib.hid (HN.out.step hb)
      replace HR := Lib.hid (HR.out.step hb)
      replace h0 := HT.out.c0
      replace h1 := HT.out.c1
      clear hb
      clear h0 h1
      have hb2 := (Below.refl _ w23).alloc (Nat.le_refl _) (.cells #[.int .i64 r0, .int .i64 u0] 28)
      have HM := Lib.hid (Two.new w23 (.int .i64 r0) (.int .i64 u0) 28 w23.heap.size rfl)
      replace HT := Lib.hid (HT.out.step hb2)
      replace HB := Lib.hid (below_trans HB.out hb2)
      replace HI := Lib.hid (HI.out.step hb2)
      replace HN := Lib.hid (HN.out.step hb2)
      replace HR := Lib.hid (HR.out.step hb2)
      have m0 := HN.out.c0
      have m1 := HN.out.c1
      have k0 := HM.out.c0
      have k1 := HM.out.c1
      clear hb2
      go_wp2_with fail
      generalize w23.alloc (.cells #[.int .i64 r0, .int .i64 u0] 28) = w40 at HM HT HB HI HN HR m0 m1 k0 k1 ⊢
      with_reducible refine (eqIntA2_same7 r0 u0 _).mono ?_
      rintro e w41 ⟨rfl, hb⟩
      replace HT := Lib.hid (HT.out.step hb)
      replace HB := Lib.hid (below_trans HB.out hb)
      replace HI := Lib.hid (HI.out.step hb)
      replace HN := Lib.hid (HN.out.step hb)
      replace HR := Lib.hid (HR.out.step hb)
      clear hb
      clear m0 m1 k0 k1 HM HN
      go_wp2_with fail
      with_reducible refine (HC.out _ HI.out).mono ?_
      rintro e w42 ⟨By, rfl, hr, hb⟩
      replace HT := Lib.hid (HT.out.step hb)
      replace HB := Lib.hid (below_trans HB.out hb)
      replace HI := Lib.hid (HI.out.step hb)
      replace HR := Lib.hid (HR.out.step hb)
      have HR2 := Lib.hid hr
      clear hr
      clear hb
      go_wp2_with fail
      with_reducible refine (eqInts_same Bx By l.length l.length _ _ _ _ l _ HR.out.ins HR2.out.ins hl).mono ?_
      rintro e w43 ⟨rfl, hb⟩
      replace HT := Lib.hid (HT.out.step hb)
      replace HB := Lib.hid (below_trans HB.out hb)
      replace HI := Lib.hid (HI.out.step hb)
      replace HR := Lib.hid (HR.out.step hb)
      replace HR2 := Lib.hid (HR2.out.step hb)
      clear hb
      go_wp2
      go_ret
      exact ⟨rfl, HB.out⟩
  · skip
    have HT := Lib.hid (Two.new W (.int .i64 a) (.int .i64 b) 23 (W.heap.size) rfl)
    have HB := Lib.hid ((Below.refl W.heap.size W).alloc (Nat.le_refl _) (.cells #[.int .i64 a, .int .i64 b] 23))
    clear hS
    go_enter Try.func13, Try.ntmps13
    go_wp2
    go_ret
    exact ⟨rfl, HB.out⟩

end Go.Proofs.Ytlhpbhmldcinmaa
