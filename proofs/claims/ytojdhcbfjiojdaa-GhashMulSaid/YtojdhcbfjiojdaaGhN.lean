/-
  What each round of the document's product does to a coefficient, and to a byte of the answer. Plain mathematics.
-/
import Derived.Test.YtojdhcbfjiojdaaGhM
namespace Go.Proofs.Ytojdhcbfjiojdaa

/-- The product's coefficients, where the first m of b's have been added for the coefficient i of a. -/
def cK (a b i m n : Nat) : Bool := (hcv a b i).testBit (254 - n) ^^ (decide (i ≤ n ∧ n < i + m) && hbit b (n - i))
theorem cK_start (a b i n : Nat) : cK a b i 0 n = (hcv a b i).testBit (254 - n) := by
  unfold cK
  have h : ¬ (i ≤ n ∧ n < i + 0) := by omega
  rw [decide_eq_false h]; simp
theorem cK_old (a b i m : Nat) : cK a b i m (i + m) = (hcv a b i).testBit (254 - (i + m)) := by
  unfold cK
  have h : ¬ (i ≤ i + m ∧ i + m < i + m) := by omega
  rw [decide_eq_false h]; simp
theorem cK_next (a b i m : Nat) : cK a b i (m + 1) (i + m) = ((hcv a b i).testBit (254 - (i + m)) ^^ hbit b m) := by
  unfold cK
  have h : i ≤ i + m ∧ i + m < i + (m + 1) := by omega
  rw [decide_eq_true h, Bool.true_and, Nat.add_sub_cancel_left]
theorem cK_far (a b i m n : Nat) (h : n ≠ i + m) : cK a b i (m + 1) n = cK a b i m n := by
  unfold cK
  by_cases h1 : i ≤ n ∧ n < i + m
  · rw [decide_eq_true h1, decide_eq_true (by omega : i ≤ n ∧ n < i + (m + 1))]
  · rw [decide_eq_false h1, decide_eq_false (by omega : ¬ (i ≤ n ∧ n < i + (m + 1)))]
theorem cK_end (a b i n : Nat) (hb : b < 2 ^ 128) (hi : i < 128) (hn : n ≤ 254) (h : hbit a i = true) : cK a b i 128 n = (hcv a b (i + 1)).testBit (254 - n) := by
  rw [hcv_bit a b i n hb hi hn, h]
  unfold cK
  rw [Bool.true_and]
theorem cK_skip (a b i n : Nat) (hb : b < 2 ^ 128) (hi : i < 128) (hn : n ≤ 254) (h : hbit a i = false) : (hcv a b (i + 1)).testBit (254 - n) = (hcv a b i).testBit (254 - n) := by
  rw [hcv_bit a b i n hb hi hn, h]; simp

theorem hM_all : ((List.range 255).all fun k => hM.testBit k == decide (k = 0 ∨ k = 121 ∨ k = 126 ∨ k = 127 ∨ k = 128)) = true := by decide +kernel
theorem hM_bit (k : Nat) (hk : k < 255) : hM.testBit k = decide (k = 0 ∨ k = 121 ∨ k = 126 ∨ k = 127 ∨ k = 128) :=
  eq_of_beq (List.all_eq_true.mp hM_all k (List.mem_range.mpr hk))
/-- A coefficient that is struck out, and where it is put in once more. -/
theorem hrd_step (p j n : Nat) (hj : j ≤ 126) (hn : n ≤ 254) (h : (hrd p j).testBit j = true) :
    (hrd p (j + 1)).testBit (254 - n) = ((hrd p j).testBit (254 - n) ^^ decide (n + j = 254 ∨ n + 121 + j = 254 ∨ n + 126 + j = 254 ∨ n + 127 + j = 254 ∨ n + 128 + j = 254)) := by
  rw [hrd, if_pos h, Nat.testBit_xor]
  congr 1
  rw [Nat.testBit_shiftLeft]
  by_cases h1 : j ≤ 254 - n
  · rw [hM_bit _ (by omega)]
    simp only [h1, decide_true, Bool.true_and, decide_eq_decide]
    omega
  · rw [decide_eq_false (by omega : ¬ 254 - n ≥ j), Bool.false_and, eq_comm, decide_eq_false_iff_not]
    omega
theorem hrd_skip (p j : Nat) (h : (hrd p j).testBit j = false) : hrd p (j + 1) = hrd p j := by
  rw [hrd, h, if_neg (by simp)]
/-- The product's bits, as they lie at last. -/
theorem hm_bit (a b i : Nat) (hi : i < 128) : hbit (hm a b) i = (hrd (hcv a b 128) 127).testBit (254 - i) := by
  rw [← hrd_hcv]
  unfold hbit
  rw [Nat.testBit_shiftRight]
  congr 1
  omega

/-- The answer's bytes, i bits told. -/
def zK (a i q : Nat) : Nat := if q < i / 8 then hby a q else if q = i / 8 then hby a q / 2 ^ (8 - i % 8) else 0
theorem zK_start (a q : Nat) : zK a 0 q = 0 := by
  unfold zK
  have h : ¬ q < 0 / 8 := by omega
  rw [if_neg h]
  split
  · have := hby_lt a q
    show hby a q / 256 = 0
    omega
  · rfl
theorem zK_end (a q : Nat) (hq : q < 16) : zK a 128 q = hby a q := by
  unfold zK
  rw [if_pos (by omega)]
theorem zK_far (a i q : Nat) (h : q ≠ i / 8) : zK a (i + 1) q = zK a i q := by
  unfold zK
  by_cases h1 : q < i / 8
  · rw [if_pos h1, if_pos (by omega)]
  · rw [if_neg h1, if_neg h]
    by_cases h2 : q < (i + 1) / 8
    · omega
    · rw [if_neg h2]
      by_cases h3 : q = (i + 1) / 8
      · rw [if_pos h3]
        have h4 : (i + 1) % 8 = 0 := by omega
        have := hby_lt a q
        rw [h4]
        show hby a q / 256 = 0
        omega
      · rw [if_neg h3]
theorem half_bit (x k : Nat) : x / 2 ^ k = 2 * (x / 2 ^ (k + 1)) + x / 2 ^ k % 2 := by
  have h : x / 2 ^ (k + 1) = x / 2 ^ k / 2 := by rw [Nat.pow_succ, Nat.div_div_eq_div_mul]
  rw [h]
  omega
theorem zK_next (a i : Nat) (hi : i < 128) : zK a (i + 1) (i / 8) = 2 * zK a i (i / 8) + (if hbit a i then 1 else 0) := by
  have hb : (if hbit a i then 1 else 0) = hby a (i / 8) / 2 ^ (7 - i % 8) % 2 := by
    have h1 := hby_bit a (i / 8) (i % 8) (by omega) (by omega)
    rw [show 8 * (i / 8) + i % 8 = i from by omega] at h1
    rw [← h1, Nat.testBit_eq_decide_div_mod_eq]
    have : hby a (i / 8) / 2 ^ (7 - i % 8) % 2 < 2 := Nat.mod_lt _ (by omega)
    by_cases h : hby a (i / 8) / 2 ^ (7 - i % 8) % 2 = 1
    · simp [h]
    · have h0 : hby a (i / 8) / 2 ^ (7 - i % 8) % 2 = 0 := by omega
      simp [h0]
  rw [hb]
  have h2 : zK a i (i / 8) = hby a (i / 8) / 2 ^ (7 - i % 8 + 1) := by
    unfold zK
    rw [if_neg (by omega), if_pos rfl, show 7 - i % 8 + 1 = 8 - i % 8 from by omega]
  have h3 : zK a (i + 1) (i / 8) = hby a (i / 8) / 2 ^ (7 - i % 8) := by
    unfold zK
    by_cases h : i % 8 = 7
    · rw [if_pos (by omega), h]; simp
    · rw [if_neg (by omega), if_pos (by omega), show 8 - (i + 1) % 8 = 7 - i % 8 from by omega]
  rw [h2, h3]
  exact half_bit _ _
theorem zK_lt (a i q : Nat) : zK a i q < 256 := by
  have := hby_lt a q
  unfold zK
  split
  · exact this
  · split
    · exact Nat.lt_of_le_of_lt (Nat.div_le_self _ _) this
    · omega
end Go.Proofs.Ytojdhcbfjiojdaa
