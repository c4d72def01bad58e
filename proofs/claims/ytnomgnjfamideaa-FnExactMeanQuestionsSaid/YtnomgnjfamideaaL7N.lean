/- Chances as numbers: fractions in lowest terms, draws by false answers, sums over places. -/
import Derived.Test.YtnomgnjfamideaaBall
namespace Go.Proofs.Ytnomgnjfamideaa
open Go.RowKit Go.ChangeShapes Go.WideShapes
set_option linter.unusedVariables false

/-- A fraction in lowest terms: its numerator and its denominator. -/
def fr1 (a b : Nat) : Nat := a / Nat.gcd a b
def fr2 (a b : Nat) : Nat := b / Nat.gcd a b
theorem fr_gcd_pos (a : Nat) {b : Nat} (hb : 0 < b) : 0 < Nat.gcd a b := Nat.gcd_pos_of_pos_right a hb
theorem fr1_mul (a b : Nat) : fr1 a b * Nat.gcd a b = a := Nat.div_mul_cancel (Nat.gcd_dvd_left a b)
theorem fr2_mul (a b : Nat) : fr2 a b * Nat.gcd a b = b := Nat.div_mul_cancel (Nat.gcd_dvd_right a b)
theorem fr1_le (a b : Nat) : fr1 a b ≤ a := Nat.div_le_self _ _
theorem fr2_le (a b : Nat) : fr2 a b ≤ b := Nat.div_le_self _ _
theorem fr2_pos (a : Nat) {b : Nat} (hb : 0 < b) : 0 < fr2 a b :=
  Nat.div_pos (Nat.le_of_dvd hb (Nat.gcd_dvd_right a b)) (fr_gcd_pos a hb)
theorem fr1_le_fr2 {a b : Nat} (h : a ≤ b) : fr1 a b ≤ fr2 a b := Nat.div_le_div_right h
theorem fr_scale {g : Nat} (a b : Nat) (hg : 0 < g) : fr1 (g * a) (g * b) = fr1 a b ∧ fr2 (g * a) (g * b) = fr2 a b := by
  unfold fr1 fr2
  rw [Nat.gcd_mul_left]
  exact ⟨Nat.mul_div_mul_left _ _ hg, Nat.mul_div_mul_left _ _ hg⟩
theorem fr_cross {a b c d : Nat} (hb : 0 < b) (hd : 0 < d) (h : a * d = c * b) : fr1 a b = fr1 c d ∧ fr2 a b = fr2 c d := by
  have h1 := fr_scale a b hd
  have h2 := fr_scale c d hb
  have e1 : d * a = b * c := by rw [Nat.mul_comm d a, h, Nat.mul_comm]
  rw [e1, Nat.mul_comm d b] at h1
  exact ⟨h1.1.symm.trans h2.1, h1.2.symm.trans h2.2⟩
theorem fr_prod (a b c d : Nat) : a * d = fr1 a b * fr2 c d * (Nat.gcd a b * Nat.gcd c d) := by
  have h1 := fr1_mul a b
  have h2 := fr2_mul c d
  generalize fr1 a b = x at h1 ⊢
  generalize fr2 c d = y at h2 ⊢
  generalize Nat.gcd a b = g at h1 ⊢
  generalize Nat.gcd c d = g' at h2 ⊢
  subst h1 h2
  rw [Nat.mul_mul_mul_comm]
theorem fr_less {a b c d : Nat} (hb : 0 < b) (hd : 0 < d) : fr1 a b * fr2 c d < fr1 c d * fr2 a b ↔ a * d < c * b := by
  have hp : 0 < Nat.gcd a b * Nat.gcd c d := Nat.mul_pos (fr_gcd_pos a hb) (fr_gcd_pos c hd)
  rw [fr_prod a b c d, fr_prod c d a b, Nat.mul_comm (Nat.gcd c d)]
  exact (Nat.mul_lt_mul_right hp).symm
theorem fr_eq {a b c d : Nat} (hb : 0 < b) (hd : 0 < d) : (fr1 a b = fr1 c d ∧ fr2 a b = fr2 c d) ↔ a * d = c * b := by
  refine ⟨fun ⟨h1, h2⟩ => ?_, fun h => fr_cross hb hd h⟩
  rw [fr_prod a b c d, fr_prod c d a b, h1, h2, Nat.mul_comm (Nat.gcd c d)]
theorem fr_zero {b : Nat} (hb : 0 < b) : fr1 0 b = 0 ∧ fr2 0 b = 1 := by
  unfold fr1 fr2
  rw [Nat.gcd_zero_left]
  exact ⟨Nat.zero_div _, Nat.div_self hb⟩
theorem fr_self {b : Nat} (hb : 0 < b) : fr1 b b = 1 ∧ fr2 b b = 1 := by
  unfold fr1 fr2
  rw [Nat.gcd_self]
  exact ⟨Nat.div_self hb, Nat.div_self hb⟩

/-- The sum of what is told of the first places, each as often as it is drawn. -/
def sumT (f T : Nat → Nat) : Nat → Nat
  | 0 => 0
  | k + 1 => sumT f T k + f k * T k
def sumF (f : Nat → Nat) : Nat → Nat
  | 0 => 0
  | k + 1 => sumF f k + f k
theorem sumT_congr {f T T' : Nat → Nat} : ∀ (k : Nat), (∀ i, i < k → T i = T' i) → sumT f T k = sumT f T' k
  | 0, _ => rfl
  | k + 1, h => by
    unfold sumT
    rw [sumT_congr k fun i hi => h i (by omega), h k (by omega)]
theorem sumF_congr {f g : Nat → Nat} : ∀ (k : Nat), (∀ i, i < k → f i = g i) → sumF f k = sumF g k
  | 0, _ => rfl
  | k + 1, h => by
    unfold sumF
    rw [sumF_congr k fun i hi => h i (by omega), h k (by omega)]
theorem sumT_ones (f : Nat → Nat) : ∀ k, sumT f (fun _ => 1) k = sumF f k
  | 0 => rfl
  | k + 1 => by
    unfold sumT sumF
    rw [sumT_ones f k, Nat.mul_one]
theorem sumT_before (f : Nat → Nat) (j : Nat) : ∀ k, k ≤ j → sumT f (fun i => if i < j then 1 else 0) k = sumF f k := fun k hk => by
  rw [sumT_congr (T' := fun _ => 1) k fun i hi => if_pos (by omega), sumT_ones]
theorem sumT_lt (f : Nat → Nat) (j : Nat) : ∀ k, sumT f (fun i => if i < j then 1 else 0) k = sumF f (min j k)
  | 0 => by simp [sumT, sumF]
  | k + 1 => by
    unfold sumT
    rw [sumT_lt f j k]
    by_cases h : k < j
    · rw [if_pos h, Nat.mul_one, Nat.min_eq_right (show k + 1 ≤ j from h), Nat.min_eq_right (by omega : k ≤ j)]
      rfl
    · rw [if_neg h, Nat.mul_zero, Nat.add_zero, Nat.min_eq_left (by omega : j ≤ k), Nat.min_eq_left (by omega : j ≤ k + 1)]
theorem sumT_no (f : Nat → Nat) (j : Nat) : ∀ k, k ≤ j → sumT f (fun i => if i = j then 1 else 0) k = 0
  | 0, _ => rfl
  | k + 1, h => by
    unfold sumT
    rw [sumT_no f j k (by omega), if_neg (by omega), Nat.mul_zero]
theorem sumT_one (f : Nat → Nat) (j : Nat) : ∀ k, j < k → sumT f (fun i => if i = j then 1 else 0) k = f j
  | k + 1, h => by
    unfold sumT
    by_cases hj : k = j
    · subst hj
      rw [sumT_no f k k (Nat.le_refl _), if_pos rfl]
      omega
    · rw [sumT_one f j k (by omega), if_neg hj]
      omega
theorem sumF_mono (f : Nat → Nat) {j : Nat} : ∀ {k : Nat}, j ≤ k → sumF f j ≤ sumF f k
  | 0, h => by obtain rfl : j = 0 := by omega
               exact Nat.le_refl _
  | k + 1, h => by
    by_cases hj : j = k + 1
    · subst hj; exact Nat.le_refl _
    · have := sumF_mono f (j := j) (k := k) (by omega)
      simp only [sumF]
      omega
theorem term_le (f : Nat → Nat) {j k : Nat} (h : j < k) : f j ≤ sumF f k := by
  have h1 := sumF_mono f (show j + 1 ≤ k from h)
  simp only [sumF] at h1
  omega
theorem sumT_le {f T : Nat → Nat} {B C : Nat} : ∀ (k : Nat), (∀ i, i < k → f i ≤ B ∧ T i ≤ C) → sumT f T k ≤ k * (B * C)
  | 0, _ => Nat.zero_le _
  | k + 1, h => by
    have h1 := sumT_le k fun i hi => h i (by omega)
    have h2 := Nat.mul_le_mul (h k (by omega)).1 (h k (by omega)).2
    simp only [sumT]
    rw [Nat.succ_mul]
    omega
theorem sumF_le {f : Nat → Nat} {B : Nat} : ∀ (k : Nat), (∀ i, i < k → f i ≤ B) → sumF f k ≤ k * B
  | 0, _ => Nat.zero_le _
  | k + 1, h => by
    have h1 := sumF_le k fun i hi => h i (by omega)
    have h2 := h k (by omega)
    simp only [sumF]
    rw [Nat.succ_mul]
    omega
theorem sumT_part {f T : Nat → Nat} : ∀ (k : Nat), (∀ i, i < k → T i ≤ 1) → sumT f T k ≤ sumF f k
  | 0, _ => Nat.le_refl _
  | k + 1, h => by
    have h1 := sumT_part (f := f) k fun i hi => h i (by omega)
    have h2 := Nat.mul_le_mul (Nat.le_refl (f k)) (h k (by omega))
    simp only [sumT, sumF]
    omega

/-- Draws of m answers with certain k false: each answer has b lots, a of which are false. -/
def dr (a b m k : Nat) : Nat := a ^ k * (b - a) ^ (m - k)
/-- Draws of m answers with any k false. -/
def wd (a b m k : Nat) : Nat := ways m k * dr a b m k
theorem pow_bd (x k : Nat) (hx : x ≤ 10) (hk : k ≤ 12) : x ^ k ≤ 1000000000000 := by
  have h1 := Nat.pow_le_pow_left hx k
  have h2 := Nat.pow_le_pow_right (show 0 < 10 by omega) hk
  have h3 : (10 : Nat) ^ 12 = 1000000000000 := by decide
  omega
theorem wd_all (a b m : Nat) (hb : b ≤ 10) (ha : a ≤ b) (hm : m ≤ 12) : sumF (wd a b m) (m + 1) = b ^ m := by
  have : ∀ b, b ≤ 10 → ∀ a, a ≤ b → ∀ m, m ≤ 12 → sumF (wd a b m) (m + 1) = b ^ m := by decide +kernel
  exact this b hb a ha m hm
theorem wd_mean (a b m : Nat) (hb : b ≤ 10) (ha : a ≤ b) (hm : m ≤ 12) : sumT (wd a b m) id (m + 1) * b = m * a * b ^ m := by
  have : ∀ b, b ≤ 10 → ∀ a, a ≤ b → ∀ m, m ≤ 12 → sumT (wd a b m) id (m + 1) * b = m * a * b ^ m := by decide +kernel
  exact this b hb a ha m hm
theorem dr_le (a b m k : Nat) (hb : b ≤ 10) (ha : a ≤ b) (hk : k ≤ m) : dr a b m k ≤ b ^ m := by
  have h1 := Nat.pow_le_pow_left ha k
  have h2 := Nat.pow_le_pow_left (Nat.sub_le b a) (m - k)
  have h3 := Nat.mul_le_mul h1 h2
  rw [← Nat.pow_add, show k + (m - k) = m by omega] at h3
  exact h3
theorem wd_le (a b m k : Nat) (hb : b ≤ 10) (ha : a ≤ b) (hm : m ≤ 12) (hk : k ≤ m) : wd a b m k ≤ 1000000000000 := by
  have h1 := term_le (wd a b m) (show k < m + 1 by omega)
  rw [wd_all a b m hb ha hm] at h1
  exact Nat.le_trans h1 (pow_bd b m hb hm)
theorem dr_bd (a b m k : Nat) (hb : b ≤ 10) (ha : a ≤ b) (hm : m ≤ 12) (hk : k ≤ m) : dr a b m k ≤ 1000000000000 :=
  Nat.le_trans (dr_le a b m k hb ha hk) (pow_bd b m hb hm)
theorem pow_pos7 {b : Nat} (hb : 1 ≤ b) (m : Nat) : 0 < b ^ m := Nat.pow_pos (by omega)

/-- The first greatest of f 0 .. f k. -/
def bestTo (f : Nat → Nat) : Nat → Nat
  | 0 => 0
  | k + 1 => if f (bestTo f k) < f (k + 1) then k + 1 else bestTo f k
theorem bestTo_le (f : Nat → Nat) : ∀ k, bestTo f k ≤ k
  | 0 => Nat.le_refl _
  | k + 1 => by
    unfold bestTo
    have := bestTo_le f k
    split <;> omega
theorem bestTo_most (f : Nat → Nat) : ∀ k i, i ≤ k → f i ≤ f (bestTo f k)
  | 0, i, h => by obtain rfl : i = 0 := by omega
                  exact Nat.le_refl _
  | k + 1, i, h => by
    unfold bestTo
    split
    · by_cases hi : i = k + 1
      · subst hi; exact Nat.le_refl _
      · have := bestTo_most f k i (by omega)
        omega
    · by_cases hi : i = k + 1
      · subst hi; omega
      · exact bestTo_most f k i (by omega)
theorem bestTo_first (f : Nat → Nat) : ∀ k i, i < bestTo f k → f i < f (bestTo f k)
  | 0, i, h => by simp [bestTo] at h
  | k + 1, i, h => by
    unfold bestTo at h ⊢
    split at h
    · rename_i hc
      rw [if_pos hc]
      have := bestTo_most f k i (by omega)
      omega
    · rename_i hc
      rw [if_neg hc]
      exact bestTo_first f k i h
/-- The first least of g 0 .. g k. -/
def leastAt (g : Nat → Nat) : Nat → Nat
  | 0 => 0
  | k + 1 => if g (k + 1) < g (leastAt g k) then k + 1 else leastAt g k
theorem leastAt_le (g : Nat → Nat) : ∀ k, leastAt g k ≤ k
  | 0 => Nat.le_refl _
  | k + 1 => by
    unfold leastAt
    have := leastAt_le g k
    split <;> omega

/-- How many of the first words lead to j. -/
def rightTo (g : Nat → Nat) : Nat → Nat → Nat
  | 0, _ => 0
  | w + 1, j => rightTo g w j + (if g w = j then 1 else 0)
theorem rightTo_le (g : Nat → Nat) (j : Nat) : ∀ w, rightTo g w j ≤ w
  | 0 => Nat.le_refl _
  | w + 1 => by
    have := rightTo_le g j w
    unfold rightTo
    split <;> omega
theorem sumT_add (f g T : Nat → Nat) : ∀ k, sumT (fun j => f j + g j) T k = sumT f T k + sumT g T k
  | 0 => rfl
  | k + 1 => by
    simp only [sumT]
    rw [sumT_add f g T k, Nat.add_mul]
    omega
theorem sumT_swap (T : Nat → Nat) (j : Nat) : ∀ k, sumT (fun i => if j = i then 1 else 0) T k = if j < k then T j else 0
  | 0 => by simp [sumT]
  | k + 1 => by
    simp only [sumT]
    rw [sumT_swap T j k]
    by_cases h : j = k
    · subst h; simp
    · rw [if_neg h]
      by_cases h2 : j < k
      · rw [if_pos h2, if_pos (by omega)]; omega
      · rw [if_neg h2, if_neg (by omega)]; omega
theorem right_sum (g T : Nat → Nat) (m : Nat) : ∀ w, (∀ x, x < w → g x ≤ m) → sumT (rightTo g w) T (m + 1) = sumF (fun x => T (g x)) w
  | 0, _ => by
    show sumT (fun _ => 0) T (m + 1) = 0
    have : ∀ k, sumT (fun _ => 0) T k = 0 := fun k => by
      induction k with
      | zero => rfl
      | succ k ih => simp only [sumT, ih]; omega
    exact this _
  | w + 1, h => by
    have h1 := right_sum g T m w fun x hx => h x (by omega)
    show sumT (fun j => rightTo g w j + (if g w = j then 1 else 0)) T (m + 1) = _
    rw [sumT_add, h1, sumT_swap, if_pos (by have := h w (by omega); omega)]
    rfl
end Go.Proofs.Ytnomgnjfamideaa
