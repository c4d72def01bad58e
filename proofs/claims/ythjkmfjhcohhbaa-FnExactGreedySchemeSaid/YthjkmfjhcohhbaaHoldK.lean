/- Words as keys of a map of slices; the entry that is appended to. -/
import Derived.Test.YthjkmfjhcohhbaaTrueWs
import Derived.Test.YthjkmfjhcohhbaaNearN
import Derived.WideKeyPair
import Derived.WideKeyEntry
import Derived.Maps.GroupsBeside
import Derived.Maps.RangeWalk
import Derived.Deep.AppendLies
namespace Go.Proofs.Ythjkmfjhcohhbaa
open Go.RowKit Go.ChangeShapes Go.WideShapes Go.Maps Go.MapKept Go.ChangeMaps
set_option linter.unusedVariables false

theorem arrWord : WideMaps.ArrKey Try.prog 48 4 14 := ⟨by kernel_rfl, by kernel_rfl, by kernel_rfl, by kernel_rfl⟩
theorem keyedWord : Keyed Try.prog 48 := Keyed.of_law arrWord.law
theorem types_pos5 : ∃ m, Try.prog.types.size = m + 1 := ⟨Try.prog.types.size - 1, by kernel_rfl⟩
def klW (p : Nat → Bool) : Lit := .string (keyBytes ((List.range 14).map fun i => Lit.bool (p i)))
theorem mapM_some {α β : Type} {f : α → Option β} {g : α → β} : ∀ (is : List α), (∀ i ∈ is, f i = some (g i)) → is.mapM f = some (is.map g)
  | [], _ => rfl
  | i :: is, h => by
    rw [List.mapM_cons, h i (by simp), mapM_some is (fun j hj => h j (by simp [hj]))]
    rfl
theorem flat1 {α β : Type} (f : α → β) : ∀ l : List α, (l.map fun a => [f a]).flatten = l.map f
  | [] => rfl
  | a :: l => by simp [flat1 f l]
theorem keyWord (p : Nat → Bool) : keyOf Try.prog 48 (.agg (bwv p)) = some (klW p) := by
  have hkt := arrWord.keyType types_pos5
  obtain ⟨m, hm⟩ := types_pos5
  unfold keyOf
  simp only [arrWord.hu]
  rw [if_pos (by simp [hkt, Value.formed, arrWord.hu, arrWord.size, bwv_size]), hm]
  unfold Program.keyLits
  simp only [arrWord.hu, Value.cells]
  rw [if_pos (by rw [arrWord.size]; simp [bwv_size])]
  have hone : ∀ i ∈ List.range 14, (Try.prog.keyLits (m + 1) 4 (((bwv p).toList.drop (i * Try.prog.cellsOf 4)).take (Try.prog.cellsOf 4))) = some [Lit.bool (p i)] := fun i hi => by
    have hi' := List.mem_range.1 hi
    have hd : ((bwv p).toList.drop (i * 1)).take 1 = [Value.bool (p i)] := by
      rw [Nat.mul_one, List.drop_eq_getElem_cons (by simp [bwv_size]; exact hi'), List.take_succ_cons, List.take_zero]
      have := bwv_at p hi'
      rw [← Array.getElem?_toList, List.getElem?_eq_getElem (by simp [bwv_size]; exact hi')] at this
      simpa using this
    rw [arrWord.one, hd]
    simp [Program.keyLits]
  rw [mapM_some _ hone]
  simp only [Option.map_some, flat1]
  rfl
theorem klW_inj {a b : Nat} (ha : a < 2 ^ 14) (hb : b < 2 ^ 14) (h : klW a.testBit = klW b.testBit) : a = b := by
  have h1 := keyWord a.testBit
  have h2 := keyWord b.testBit
  rw [← h] at h2
  have e := arrWord.law.inj h1 h2
  apply Nat.eq_of_testBit_eq
  intro i
  by_cases hi : i < 14
  · have e1 := bwv_at a.testBit hi
    have e2 := bwv_at b.testBit hi
    have e3 : bwv a.testBit = bwv b.testBit := by simpa using e
    rw [e3, e2] at e1
    simpa using e1.symm
  · have e1 : a.testBit i = false := Nat.testBit_lt_two_pow (Nat.lt_of_lt_of_le ha (Nat.pow_le_pow_right (by omega) (by omega)))
    have e2 : b.testBit i = false := Nat.testBit_lt_two_pow (Nat.lt_of_lt_of_le hb (Nat.pow_le_pow_right (by omega) (by omega)))
    rw [e1, e2]
theorem klW_agg {xs : Array Value} {p : Nat → Bool} (h : keyOf Try.prog 48 (.agg xs) = some (klW p)) : xs = bwv p := by
  have e := arrWord.law.inj h (keyWord p)
  simpa using e
theorem klW_key (p : Nat → Bool) : WideAt.IsKeyLit (klW p) := True.intro
theorem keyed_agg {v : Value} {l : Lit} (h : keyOf Try.prog 48 v = some l) : ∃ xs, v = .agg xs := by
  unfold keyOf at h
  simp only [arrWord.hu] at h
  split at h
  · rename_i hf
    simp [Value.formed, arrWord.hu] at hf
    cases v <;> simp at hf
    exact ⟨_, rfl⟩
  · cases h

section
open Go.WideElems
variable {H : Type} {P : Program} {t k E : TypeId} {w : World} {b n base : Nat} {e : TypeId} {q : IntKind} {D : DataW H}
theorem nodup_key : ∀ {l : List MapEntry}, (l.map (·.key)).Nodup → ∀ {i j : Nat} {x y : MapEntry}, l[i]? = some x → l[j]? = some y → x.key = y.key → i = j := by
  intro l hn i j x y hi hj hk
  have hi' : (l.map (·.key))[i]? = some x.key := by simp [hi]
  have hj' : (l.map (·.key))[j]? = some y.key := by simp [hj]
  rw [← hk] at hj'
  obtain ⟨h1, e1⟩ := List.getElem?_eq_some_iff.1 hi'
  obtain ⟨h2, e2⟩ := List.getElem?_eq_some_iff.1 hj'
  exact (List.getElem_inj hn).1 (e1.trans e2.symm)
/-- A store hangs on the map's block alone. -/
theorem mapUpdate_same {R : Value → Option (DataW H × List MemPlace)} {es es' : Array MapEntry} {clock clock' : Nat} {key val : Value} {kl : Lit} {w' : World} (K : Keyed P k) (ht : P.underlying t = some (.map k E)) (hb : w.heap[b]? = some (.map es clock)) (hb' : w'.heap[b]? = some (.map es clock)) (F : Fit P k R es clock)
    (hkey : keyOf P k key = some kl) (hrun : (Instr.mapUpdate t (.map (some b)) key val).run P w = .ok () (setBlock w b (.map es' clock'))) :
    (Instr.mapUpdate t (.map (some b)) key val).run P w' = .ok () (setBlock w' b (.map es' clock')) := by
  have hlt : b < w.heap.size := (Array.getElem?_eq_some_iff.1 hb).1
  have same : ∀ {e1 e2 : Array MapEntry} {c1 c2 : Nat}, setBlock w b (.map e1 c1) = setBlock w b (.map e2 c2) → e1 = e2 ∧ c1 = c2 := fun {e1 e2 c1 c2} h => by
    have h1 := heap_setBlock_same hb (.map e1 c1)
    rw [h, heap_setBlock_same hb (.map e2 c2)] at h1
    simp at h1
    exact ⟨h1.1.symm, h1.2.symm⟩
  rcases K.find w hkey es.toList F.keys with ⟨h1, h2⟩ | ⟨j, e0, h1, h2, h3⟩ <;> rcases K.find w' hkey es.toList F.keys with ⟨g1, g2⟩ | ⟨i, e0', g1, g2, g3⟩
  · have e1 : (Instr.mapUpdate t (.map (some b)) key val).run P w = .ok () (setBlock w b (.map (es.push ⟨key, val, clock⟩) (clock + 1))) := by
      simp [Instr.mapUpdate, run_underlying ht, MapKept.run_getObj_map hb, K.check w false hkey, h1, MapKept.run_setObj_map _ hb, Result.andThen, setBlock]
    rw [hrun] at e1
    obtain ⟨rfl, rfl⟩ := same (by simpa using e1)
    simp [Instr.mapUpdate, run_underlying ht, MapKept.run_getObj_map hb', K.check w' false hkey, g1, MapKept.run_setObj_map _ hb', Result.andThen, setBlock]
  · exact absurd g3 (h2 _ (List.mem_of_getElem? g2))
  · exact absurd h3 (g2 _ (List.mem_of_getElem? h2))
  · obtain rfl : j = i := nodup_key F.stamped.2.2 h2 g2 (h3.trans g3.symm)
    have hj : es[j]? = some e0 := by simpa using h2
    have e1 : (Instr.mapUpdate t (.map (some b)) key val).run P w = .ok () (setBlock w b (.map (es.modify j (fun e' => { e' with key := key, val := val })) clock)) := by
      simp [Instr.mapUpdate, run_underlying ht, MapKept.run_getObj_map hb, K.check w false hkey, h1, hj, h3, K.stays w hkey, MapKept.run_setObj_map _ hb, Result.andThen, setBlock]
    rw [hrun] at e1
    obtain ⟨rfl, rfl⟩ := same (by simpa using e1)
    have hj' : es[j]? = some e0' := by simpa using g2
    simp [Instr.mapUpdate, run_underlying ht, MapKept.run_getObj_map hb', K.check w' false hkey, g1, hj', g3, K.stays w' hkey, MapKept.run_setObj_map _ hb', Result.andThen, setBlock]

/-- 'm[k] = append(m[k], ..)': the entry is made or found; behind the append it is stored. -/
theorem groups_entry {key : Value} {kl : Lit} (law : WideMaps.KeyLaw P k) (h : w.ownsGroups P k base e q b n D) (ht : P.underlying t = some (.map k E)) (hz : ∀ u : World, (zeroValue E).run P u = .ok (.slice none 0 0) u) (hn : n < maxLen) (hkey : keyOf P k key = some kl) :
    ∃ (v : Value) (zs : List Int) (st : Nat) (w1 : World), (Instr.mapEntry t (.map (some b)) key).run P w = .ok (.tuple #[v, goInt st]) w1 ∧ D.atKey kl .nil = rowDatum q v zs ∧ w1.ownsInts base e q v zs ∧ zs.length ≤ n ∧ w.grownBy w1 (some b) ∧ w1.heap.size = w.heap.size ∧
      ∀ (w2 : World) (v' : Value) (zs' : List Int), w1.grownBy w2 v.ownBlock → w2.ownsInts base e q v' zs' → zs'.length ≤ n + 1 → (v'.ownBlock = v.ownBlock ∨ ∃ g, v'.ownBlock = some g ∧ w1.heap.size ≤ g) →
        ∃ w3, (Instr.entryStore t (.map (some b)) (goInt st) v').run P w2 = .ok () w3 ∧ w3.ownsGroups P k base e q b (n + 1) (D.put kl (rowDatum q v' zs')) ∧ w2.grownBy w3 (some b) ∧ w3.heap.size = w2.heap.size := by
  have K := Keyed.of_law law
  have h0 := h
  obtain ⟨es, clock, hb, F, hs, hD, hbb, hlen, hap⟩ := h0
  have hlt : b < w.heap.size := (Array.getElem?_eq_some_iff.1 hb).1
  obtain ⟨v0, st, es1, clock1, hrun1, hv0, hst⟩ := entry_then_store (t := t) law ht hz hb F hkey
  obtain ⟨v, zs, hlook, hat, hoi, hzl, hback⟩ := h.at K ht (hz w) hn hkey
  -- the entry's value is what is looked up
  have hvv : v0 = v := by
    rcases Maps.fit_look false K ht (hz w) hb F hkey with ⟨hr, hnone, _⟩ | ⟨e1, y, hm1, hk1, hr, _, _, _⟩
    · rw [hlook] at hr
      have hv : v = .slice none 0 0 := by simpa using hr
      rcases hv0 with ⟨e0, hm0, hk0, _⟩ | ⟨_, hz0⟩
      · exact absurd hk0 (hnone e0 hm0)
      · rw [hz0, hv]
    · rw [hlook] at hr
      have hv : v = e1.val := by simpa using hr
      rcases hv0 with ⟨e0, hm0, hk0, hv0⟩ | ⟨hnone, _⟩
      · obtain ⟨i, hi⟩ := List.mem_iff_getElem?.1 hm0
        obtain ⟨j, hj⟩ := List.mem_iff_getElem?.1 hm1
        have hij := nodup_key F.stamped.2.2 hi hj (hk0.trans hk1.symm)
        subst hij
        rw [hi] at hj
        obtain rfl : e0 = e1 := by simpa using hj
        rw [hv0, hv]
      · exact absurd hk1 (hnone e1 hm1)
  subst hvv
  have grow1 : ∀ {u : World} {e2 : Array MapEntry} {c2 : Nat}, u.heap[b]? = some (.map e2 c2) → ∀ o : Obj, u.grownBy (setBlock u b o) (some b) := fun hu o => ⟨rfl, rfl, rfl, by simp [setBlock], fun i _ hi => heap_setBlock_other hu _ (fun e1 => hi (by rw [e1]))⟩
  have own_ne : ∀ {u : World} {x : Value} {ys : List Int}, u.ownsInts base e q x ys → x.ownBlock = none ∨ x.ownBlock ≠ some b := fun {u x ys} ho => by
    cases hu : x.ownBlock with
    | none => exact .inl rfl
    | some g =>
      refine .inr (fun e1 => ?_)
      have := (ho.1.lt g hu).1
      cases e1
      omega
  have g1 := grow1 hb (.map es1 clock1)
  refine ⟨v0, zs, st, setBlock w b (.map es1 clock1), hrun1, hat, hoi.kept g1 (own_ne hoi), hzl, g1, by simp [setBlock], ?_⟩
  intro w2 v' zs' hg2 hown' hl' hloc
  have hb1 : (setBlock w b (.map es1 clock1)).heap[b]? = some (.map es1 clock1) := heap_setBlock_same hb _
  have hb1lt : b < (setBlock w b (.map es1 clock1)).heap.size := (Array.getElem?_eq_some_iff.1 hb1).1
  have hvb : some b ≠ v0.ownBlock := fun e1 => by
    rcases own_ne hoi with h | h
    · rw [h] at e1; cases e1
    · exact h e1.symm
  have hb2 : w2.heap[b]? = some (.map es1 clock1) := (hg2.block b hb1lt hvb).trans hb1
  obtain ⟨es', clock', hstore, hupd⟩ := hst w2 v' hb2
  -- the map put back
  have hbA : (setBlock w2 b (.map es clock)).heap[b]? = some (.map es clock) := heap_setBlock_same hb2 _
  have gA : w.grownBy (setBlock w2 b (.map es clock)) v0.ownBlock := ⟨hg2.os, hg2.tape, hg2.output, by have := hg2.size; simp [setBlock] at this ⊢; omega, fun i hi hne => by
    by_cases e1 : i = b
    · subst e1; rw [hbA, hb]
    · rw [heap_setBlock_other hb2 _ e1, hg2.block i (by simp [setBlock]; exact hi) hne, heap_setBlock_other hb _ e1]⟩
  have ownA : (setBlock w2 b (.map es clock)).ownsInts base e q v' zs' := hown'.kept (grow1 hb2 _) (own_ne hown')
  obtain ⟨w3, hr3, ho3, hg3⟩ := hback (setBlock w2 b (.map es clock)) v' zs' gA ownA hl' (hloc.imp id fun ⟨g, a, c⟩ => ⟨g, a, by simpa [setBlock] using c⟩)
  have hsame := mapUpdate_same (w' := setBlock w2 b (.map es clock)) K ht hb hbA F hkey hupd
  rw [hr3] at hsame
  obtain rfl : w3 = setBlock (setBlock w2 b (.map es clock)) b (.map es' clock') := by simpa using hsame
  have hww : setBlock (setBlock w2 b (.map es clock)) b (.map es' clock') = setBlock w2 b (.map es' clock') := by
    simp [setBlock]
  rw [hww] at ho3
  exact ⟨_, hstore, ho3, grow1 hb2 _, by simp [setBlock]⟩
end
end Go.Proofs.Ythjkmfjhcohhbaa
