/-
  The hash of blocks: linear in its blocks. Plain mathematics.
-/
import Derived.Test.YtojdhcbfjiojdaaGhM
namespace Go.Proofs.Ytojdhcbfjiojdaa

/-- The block j of some bytes. -/
def gblk (l : List Nat) (j k : Nat) : Nat := l.getD (16 * j + k) 0
/-- The sum of the first n blocks under h. -/
def gsum (h : Nat) (l : List Nat) : Nat → Nat
  | 0 => 0
  | n + 1 => hm (gsum h l n ^^^ hof (gblk l n)) h
theorem num16_congr (f g : Nat → Nat) (k : Nat) (h : ∀ i, i < k → f i = g i) : num16 f k = num16 g k := by
  induction k with
  | zero => rfl
  | succ k ih => rw [num16, num16, ih fun i hi => h i (by omega), h k (by omega)]
theorem hof_congr {f g : Nat → Nat} (h : ∀ i, i < 16 → f i = g i) : hof f = hof g := num16_congr f g 16 h
theorem hof_nought : hof (fun _ => 0) = 0 := by decide
theorem gsum_congr (h : Nat) (a b : List Nat) (n : Nat) (e : ∀ j k, j < n → k < 16 → gblk a j k = gblk b j k) : gsum h a n = gsum h b n := by
  induction n with
  | zero => rfl
  | succ n ih => rw [gsum, gsum, ih fun j k hj hk => e j k (by omega) hk, hof_congr fun k hk => e n k (by omega) hk]
/-- The sum of sums is that of the blocks added. -/
theorem gsum_add (h : Nat) (a b c : List Nat) (n : Nat) (ha : ∀ x ∈ a, x < 256) (hb : ∀ x ∈ b, x < 256) (e : ∀ j k, j < n → k < 16 → gblk c j k = gblk a j k ^^^ gblk b j k) : gsum h c n = gsum h a n ^^^ gsum h b n := by
  have bd : ∀ (l : List Nat), (∀ x ∈ l, x < 256) → ∀ j i, i < 16 → gblk l j i < 256 := by
    intro l hl j i _
    unfold gblk
    rw [List.getD_eq_getElem?_getD]
    cases hx : l[16 * j + i]? with
    | none => simp
    | some x => simpa using hl x (List.mem_of_getElem? hx)
  induction n with
  | zero => simp [gsum]
  | succ n ih =>
    rw [gsum, gsum, gsum, ih fun j k hj hk => e j k (by omega) hk, hof_congr fun k hk => e n k (by omega) hk, hof_xor _ _ (bd a ha n) (bd b hb n), ← hm_add_l]
    congr 1
    exact xor4 _ _ _ _
/-- Of nothing but noughts it is nought. -/
theorem gsum_nought (h : Nat) (l : List Nat) (n : Nat) (e : ∀ j k, j < n → k < 16 → gblk l j k = 0) : gsum h l n = 0 := by
  induction n with
  | zero => rfl
  | succ n ih => rw [gsum, ih fun j k hj hk => e j k (by omega) hk, hof_congr (g := fun _ => 0) fun k hk => e n k (by omega) hk, hof_nought, Nat.xor_self, hm_nought_l]
theorem gsum_lt (h : Nat) (hh : h < 2 ^ 128) (l : List Nat) (n : Nat) : gsum h l n < 2 ^ 128 := by
  cases n with
  | zero => exact Nat.two_pow_pos 128
  | succ n => exact hm_lt _ _ hh
/-- Where two texts' blocks differ in the last one alone, their sums differ by its difference's product. -/
theorem gsum_last (h : Nat) (a b : List Nat) (n : Nat) (e : ∀ j k, j < n → k < 16 → gblk a j k = gblk b j k) :
    gsum h a (n + 1) ^^^ gsum h b (n + 1) = hm (hof (gblk a n) ^^^ hof (gblk b n)) h := by
  rw [gsum, gsum, gsum_congr h a b n e, ← hm_add_l, xor4, Nat.xor_self, Nat.zero_xor]
end Go.Proofs.Ytojdhcbfjiojdaa
