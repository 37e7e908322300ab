/-
  The product of the field of 2^128 as the document makes it: the coefficients of the product, and then the rest; elements as sixteen bytes. Plain mathematics, behind GhF.
-/
import Derived.Test.YtojdhcbfjiojdaaGhF
namespace Go.Proofs.Ytojdhcbfjiojdaa

/-- The coefficients of the product: that of x^n is the bit 254 - n; the first i coefficients of a have been taken. -/
def hcv (a b : Nat) : Nat → Nat
  | 0 => 0
  | i + 1 => hcv a b i ^^^ (if hbit a i then b <<< (127 - i) else 0)
/-- What is put at the coefficients of x^128 and below, for one more. -/
def hM : Nat := hR <<< 1 ^^^ 1
/-- The rest, the coefficients of x^254 down to x^(255 - j) struck out. -/
def hrd (p : Nat) : Nat → Nat
  | 0 => p
  | j + 1 => if (hrd p j).testBit j then hrd p j ^^^ hM <<< j else hrd p j

theorem hX_shl (b : Nat) : hX (b <<< 1) = b := by
  unfold hX
  have h : (b <<< 1).testBit 0 = false := by rw [Nat.testBit_shiftLeft]; simp
  rw [h, if_neg (by simp), Nat.shiftLeft_shiftRight]
theorem it_succ (X : Nat → Nat) (k b : Nat) : it X (k + 1) b = it X k (X b) := by
  induction k with
  | zero => rfl
  | succ k ih => rw [it, ih]; rfl
theorem it_shl (k b : Nat) : it hX k (b <<< k) = b := by
  induction k with
  | zero => rfl
  | succ k ih => rw [it_succ, show b <<< (k + 1) = (b <<< k) <<< 1 from Nat.shiftLeft_add b k 1, hX_shl, ih]
theorem it_nought (k : Nat) : it hX k 0 = 0 := add_nought (T := it hX k) (it_add hX_add k)
/-- The rest of the product's coefficients is the product. -/
theorem it_hcv (a b : Nat) (n : Nat) (hn : n ≤ 128) : it hX 127 (hcv a b n) = gL hX hbit n a b := by
  induction n with
  | zero => exact it_nought 127
  | succ n ih =>
    rw [hcv, it_add hX_add, ih (by omega), gL]
    congr 1
    split
    · rw [show 127 = n + (127 - n) from by omega, ← it_it, show n + (127 - n) - n = 127 - n from by omega, it_shl]
    · exact it_nought 127
theorem hM_shr : hM >>> 1 = hR := by decide
theorem hM_odd : hM.testBit 0 = true := by decide
theorem hrd_shr (p j : Nat) : hrd p j >>> j = it hX j p := by
  induction j with
  | zero => rfl
  | succ j ih =>
    have h1 : hrd p (j + 1) >>> (j + 1) = (hrd p (j + 1) >>> j) >>> 1 := Nat.shiftRight_add _ j 1
    rw [h1, it]
    have h2 : (hrd p j).testBit j = (it hX j p).testBit 0 := by rw [← ih, Nat.testBit_shiftRight, Nat.add_zero]
    rw [hrd, h2]
    have h3 : hX (it hX j p) = if (it hX j p).testBit 0 then it hX j p >>> 1 ^^^ hR else it hX j p >>> 1 := rfl
    rw [h3]
    split
    · rw [Nat.shiftRight_xor_distrib, Nat.shiftLeft_shiftRight, ih, Nat.shiftRight_xor_distrib, hM_shr]
    · rw [ih]
/-- What is struck out is nought. -/
theorem hrd_low (p j : Nat) : ∀ i, i < j → (hrd p j).testBit i = false := by
  induction j with
  | zero => intro i hi; omega
  | succ j ih =>
    intro i hi
    rw [hrd]
    have hs : (hM <<< j).testBit i = decide (i = j) := by
      rw [Nat.testBit_shiftLeft]
      by_cases e : i = j
      · subst e
        rw [Nat.sub_self, hM_odd]
        simp
      · have : ¬ j ≤ i := by omega
        simp [this, e]
    by_cases e : i = j
    · subst e
      split
      · rename_i h
        rw [Nat.testBit_xor, h, hs]; simp
      · rename_i h
        simpa using h
    · split
      · rw [Nat.testBit_xor, ih i (by omega), hs]; simp [e]
      · exact ih i (by omega)
theorem hrd_hcv (a b : Nat) : hrd (hcv a b 128) 127 >>> 127 = hm a b := by
  rw [hrd_shr, it_hcv a b 128 (Nat.le_refl _)]; rfl

/-- One coefficient more of a: what it does to each of the product's. -/
theorem hcv_bit (a b i n : Nat) (hb : b < 2 ^ 128) (hi : i < 128) (hn : n ≤ 254) :
    (hcv a b (i + 1)).testBit (254 - n) = ((hcv a b i).testBit (254 - n) ^^ (hbit a i && (decide (i ≤ n ∧ n < i + 128) && hbit b (n - i)))) := by
  rw [hcv, Nat.testBit_xor]
  congr 1
  cases h : hbit a i
  · simp
  · simp only [if_true, Bool.true_and]
    rw [Nat.testBit_shiftLeft]
    by_cases h1 : n < i + 128
    · by_cases h2 : i ≤ n
      · have e : 254 - n - (127 - i) = 127 - (n - i) := by omega
        have h3 : 127 - i ≤ 254 - n := by omega
        simp only [h3, decide_true, Bool.true_and, h1, h2, and_self]
        unfold hbit
        rw [e]
      · have h4 : ¬ (i ≤ n ∧ n < i + 128) := fun h => h2 h.1
        have h5 : b.testBit (254 - n - (127 - i)) = false := Nat.testBit_lt_two_pow (Nat.lt_of_lt_of_le hb (Nat.pow_le_pow_right (by omega) (by omega)))
        rw [h5, Bool.and_false, decide_eq_false h4, Bool.false_and]
    · have h4 : ¬ (i ≤ n ∧ n < i + 128) := fun h => h1 h.2
      have h3 : ¬ 127 - i ≤ 254 - n := by omega
      rw [decide_eq_false h4, Bool.false_and]
      simp [h3]
theorem hcv_nought (a b n : Nat) : (hcv a b 0).testBit n = false := by simp [hcv]

theorem small_lt {a n : Nat} (h : a < 256) (hn : 8 ≤ n) : a < 2 ^ n := Nat.lt_of_lt_of_le h (Nat.pow_le_pow_right (n := 2) (by omega) hn)
/-- Sixteen bytes as an element's number. -/
def num16 (f : Nat → Nat) : Nat → Nat
  | 0 => 0
  | k + 1 => num16 f k * 256 + f k
theorem num16_lt (f : Nat → Nat) (k : Nat) (h : ∀ i, i < k → f i < 256) : num16 f k < 256 ^ k := by
  induction k with
  | zero => simp [num16]
  | succ k ih =>
    have h1 := ih fun i hi => h i (by omega)
    have h2 := h k (by omega)
    rw [num16, Nat.pow_succ]
    omega
theorem num16_bit (f : Nat → Nat) (k : Nat) (h : ∀ i, i < k → f i < 256) (i : Nat) (hi : i < 8 * k) : (num16 f k).testBit (8 * k - 1 - i) = (f (i / 8)).testBit (7 - i % 8) := by
  induction k with
  | zero => omega
  | succ k ih =>
    rw [num16]
    have h2 := h k (by omega)
    have e : num16 f k * 256 + f k = (num16 f k) <<< 8 ||| f k := by
      have h3 := Nat.shiftLeft_add_eq_or_of_lt (i := 8) (b := f k) (by simpa using h2) (num16 f k)
      rw [Nat.shiftLeft_eq] at h3 ⊢
      exact h3
    rw [e, Nat.testBit_or, Nat.testBit_shiftLeft]
    by_cases hl : i < 8 * k
    · have h3 : 8 ≤ 8 * (k + 1) - 1 - i := by omega
      have h4 : (f k).testBit (8 * (k + 1) - 1 - i) = false := Nat.testBit_lt_two_pow (small_lt h2 (by omega))
      rw [h4, Bool.or_false, show 8 * (k + 1) - 1 - i - 8 = 8 * k - 1 - i from by omega, ih (fun i hi => h i (by omega)) hl]
      simp [h3]
    · have h3 : ¬ 8 ≤ 8 * (k + 1) - 1 - i := by omega
      have e1 : i / 8 = k := by omega
      have e2 : 8 * (k + 1) - 1 - i = 7 - i % 8 := by omega
      rw [e1, ← e2]
      simp [h3]
/-- The element of sixteen bytes. -/
def hof (f : Nat → Nat) : Nat := num16 f 16
theorem hof_lt (f : Nat → Nat) (h : ∀ i, i < 16 → f i < 256) : hof f < 2 ^ 128 := by
  have := num16_lt f 16 h
  rwa [show (256 : Nat) ^ 16 = 2 ^ 128 from by decide] at this
theorem hof_bit (f : Nat → Nat) (h : ∀ i, i < 16 → f i < 256) (i : Nat) (hi : i < 128) : hbit (hof f) i = (f (i / 8)).testBit (7 - i % 8) := num16_bit f 16 h i (by omega)
/-- The bytes of an element. -/
def hby (a i : Nat) : Nat := a / 256 ^ (15 - i) % 256
theorem hby_lt (a i : Nat) : hby a i < 256 := Nat.mod_lt _ (by omega)
theorem hby_bit (a i j : Nat) (hi : i < 16) (hj : j < 8) : (hby a i).testBit (7 - j) = hbit a (8 * i + j) := by
  unfold hby hbit
  rw [show (256 : Nat) = 2 ^ 8 from rfl, ← Nat.pow_mul, Nat.testBit_mod_two_pow, ← Nat.shiftRight_eq_div_pow, Nat.testBit_shiftRight]
  have h1 : 7 - j < 8 := by omega
  rw [decide_eq_true h1, Bool.true_and]
  congr 1
  omega
/-- Two elements of sixteen bytes each are one just if their bytes are. -/
theorem hof_hby (f : Nat → Nat) (h : ∀ i, i < 16 → f i < 256) (i : Nat) (hi : i < 16) : hby (hof f) i = f i := by
  apply Nat.eq_of_testBit_eq
  intro j
  by_cases hj : j < 8
  · have := hby_bit (hof f) i (7 - j) hi (by omega)
    rw [show 7 - (7 - j) = j from by omega] at this
    rw [this, hof_bit f h _ (by omega), show (8 * i + (7 - j)) / 8 = i from by omega, show 7 - (8 * i + (7 - j)) % 8 = j from by omega]
  · rw [Nat.testBit_lt_two_pow (small_lt (hby_lt _ _) (by omega)), Nat.testBit_lt_two_pow (small_lt (h i hi) (by omega))]
theorem hby_hof (a : Nat) (ha : a < 2 ^ 128) : hof (hby a) = a := by
  apply Nat.eq_of_testBit_eq
  intro j
  by_cases hj : j < 128
  · have h1 := hof_bit (hby a) (fun i _ => hby_lt a i) (127 - j) (by omega)
    unfold hbit at h1
    rw [show 127 - (127 - j) = j from by omega] at h1
    rw [h1]
    have h2 := hby_bit a ((127 - j) / 8) ((127 - j) % 8) (by omega) (by omega)
    rw [h2]
    unfold hbit
    congr 1
    omega
  · rw [Nat.testBit_lt_two_pow (Nat.lt_of_lt_of_le (hof_lt _ fun i _ => hby_lt a i) (Nat.pow_le_pow_right (by omega) (by omega))), Nat.testBit_lt_two_pow (Nat.lt_of_lt_of_le ha (Nat.pow_le_pow_right (by omega) (by omega)))]
/-- Sums go byte by byte. -/
theorem hof_xor (f g : Nat → Nat) (hf : ∀ i, i < 16 → f i < 256) (hg : ∀ i, i < 16 → g i < 256) : hof (fun i => f i ^^^ g i) = hof f ^^^ hof g := by
  have hfg : ∀ i, i < 16 → f i ^^^ g i < 256 := fun i hi => Nat.xor_lt_two_pow (n := 8) (hf i hi) (hg i hi)
  apply Nat.eq_of_testBit_eq
  intro j
  rw [Nat.testBit_xor]
  by_cases hj : j < 128
  · have h1 := hof_bit (fun i => f i ^^^ g i) hfg (127 - j) (by omega)
    have h2 := hof_bit f hf (127 - j) (by omega)
    have h3 := hof_bit g hg (127 - j) (by omega)
    unfold hbit at h1 h2 h3
    rw [show 127 - (127 - j) = j from by omega] at h1 h2 h3
    rw [h1, h2, h3, Nat.testBit_xor]
  · have b : ∀ n, n < 2 ^ 128 → n.testBit j = false := fun n hn => Nat.testBit_lt_two_pow (Nat.lt_of_lt_of_le hn (Nat.pow_le_pow_right (by omega) (by omega)))
    rw [b _ (hof_lt _ hfg), b _ (hof_lt _ hf), b _ (hof_lt _ hg)]; rfl
end Go.Proofs.Ytojdhcbfjiojdaa
