/-
  Columns: sums spread, and what was mixed is unmixed. Plain mathematics on numbers.
-/
import Derived.Test.YtfgigoheaoanpaaGalE
namespace Go.Proofs.Ytfgigoheaoanpaa

theorem dotp_add (f c d : Nat → Nat) (n : Nat) : dotp f (fun j => c j ^^^ d j) n = dotp f c n ^^^ dotp f d n := by
  induction n with
  | zero => simp [dotp]
  | succ n ih =>
    simp only [dotp, ih, gm_add_r]
    exact xor4 _ _ _ _
theorem mixd_add (m c d : Nat → Nat) (j : Nat) : mixd m (fun j => c j ^^^ d j) j = mixd m c j ^^^ mixd m d j := dotp_add _ c d 4

theorem dotp4 (f c : Nat → Nat) : dotp f c 4 = gm (f 0) (c 0) ^^^ gm (f 1) (c 1) ^^^ gm (f 2) (c 2) ^^^ gm (f 3) (c 3) := by
  simp [dotp]

theorem sums2 (a b c d e f g h : Nat) : (a ^^^ b ^^^ c ^^^ d) ^^^ (e ^^^ f ^^^ g ^^^ h) = (a ^^^ e) ^^^ (b ^^^ f) ^^^ (c ^^^ g) ^^^ (d ^^^ h) := by
  rw [xor4 (a ^^^ b ^^^ c) d (e ^^^ f ^^^ g) h, xor4 (a ^^^ b) c (e ^^^ f) g, xor4 a b e f]
theorem sums4 (a b c d e f g h i j k l m n o p : Nat) :
    (a ^^^ b ^^^ c ^^^ d) ^^^ (e ^^^ f ^^^ g ^^^ h) ^^^ (i ^^^ j ^^^ k ^^^ l) ^^^ (m ^^^ n ^^^ o ^^^ p) =
    (a ^^^ e ^^^ i ^^^ m) ^^^ (b ^^^ f ^^^ j ^^^ n) ^^^ (c ^^^ g ^^^ k ^^^ o) ^^^ (d ^^^ h ^^^ l ^^^ p) := by
  rw [sums2 a b c d e f g h, sums2 (a ^^^ e) (b ^^^ f) (c ^^^ g) (d ^^^ h) i j k l, sums2 (a ^^^ e ^^^ i) (b ^^^ f ^^^ j) (c ^^^ g ^^^ k) (d ^^^ h ^^^ l) m n o p]

/-- A column of rows, of a column of rows. -/
theorem rows_rows (f : Nat → Nat) (m c : Nat → Nat) (hm : ∀ n, n < 16 → m n < 256) (hc : ∀ q, q < 4 → c q < 256) :
    dotp f (mixd m c) 4 = dotp (fun r => gm (f 0) (m r) ^^^ gm (f 1) (m (4 + r)) ^^^ gm (f 2) (m (8 + r)) ^^^ gm (f 3) (m (12 + r))) c 4 := by
  have as4 (a b k : Nat) (hb : b < 16) (hk : k < 4) : gm a (gm (m b) (c k)) = gm (gm a (m b)) (c k) := (gm_assoc _ _ _ (hm b hb) (hc k hk)).symm
  rw [dotp4, dotp4]
  simp only [mixd, dotp4, gm_add_r, gm_add_l, Nat.mul_zero, Nat.zero_add, Nat.reduceMul, Nat.reduceAdd, Nat.add_zero]
  simp only [as4 _ _ _ (show 0 < 16 by omega) (show 0 < 4 by omega), as4 _ _ _ (show 1 < 16 by omega) (show 1 < 4 by omega), as4 _ _ _ (show 2 < 16 by omega) (show 2 < 4 by omega), as4 _ _ _ (show 3 < 16 by omega) (show 3 < 4 by omega),
    as4 _ _ _ (show 4 < 16 by omega) (show 0 < 4 by omega), as4 _ _ _ (show 5 < 16 by omega) (show 1 < 4 by omega), as4 _ _ _ (show 6 < 16 by omega) (show 2 < 4 by omega), as4 _ _ _ (show 7 < 16 by omega) (show 3 < 4 by omega),
    as4 _ _ _ (show 8 < 16 by omega) (show 0 < 4 by omega), as4 _ _ _ (show 9 < 16 by omega) (show 1 < 4 by omega), as4 _ _ _ (show 10 < 16 by omega) (show 2 < 4 by omega), as4 _ _ _ (show 11 < 16 by omega) (show 3 < 4 by omega),
    as4 _ _ _ (show 12 < 16 by omega) (show 0 < 4 by omega), as4 _ _ _ (show 13 < 16 by omega) (show 1 < 4 by omega), as4 _ _ _ (show 14 < 16 by omega) (show 2 < 4 by omega), as4 _ _ _ (show 15 < 16 by omega) (show 3 < 4 by omega)]
  exact sums4 _ _ _ _ _ _ _ _ _ _ _ _ _ _ _ _

theorem dotp_one (c : Nat → Nat) (k : Nat) (hk : k < 4) (hc : ∀ q, q < 4 → c q < 256) : dotp (fun r => if r = k then 1 else 0) c 4 = c k := by
  have g1 (q : Nat) (h : q < 4) : gm 1 (c q) = c q := by rw [gm_comm 1 _ (by omega) (hc q h), gm_one _ (hc q h)]
  rw [dotp4]
  rcases k with _ | _ | _ | _ | k
  · simp [gm_nought_l, g1 0]
  · simp [gm_nought_l, g1 1]
  · simp [gm_nought_l, g1 2]
  · simp [gm_nought_l, g1 3]
  · omega

theorem unmix_mix (c : Nat → Nat) (hc : ∀ q, q < 4 → c q < 256) (j : Nat) (hj : j < 4) : mixd unmixR (mixd mixR c) j = c j := by
  rw [mixd, rows_rows _ _ _ mixR_lt hc, ← dotp_one c j hj hc]
  refine dotp_congr _ _ _ _ fun q hq => ?_
  have : ∀ j : Fin 4, ∀ q : Fin 4, gm (unmixR (4 * j + 0)) (mixR q) ^^^ gm (unmixR (4 * j + 1)) (mixR (4 + q)) ^^^ gm (unmixR (4 * j + 2)) (mixR (8 + q)) ^^^ gm (unmixR (4 * j + 3)) (mixR (12 + q)) = if q = j then 1 else 0 := by decide +kernel
  have := this ⟨j, hj⟩ ⟨q, hq⟩
  simpa [Fin.ext_iff] using this
theorem mix_unmix (c : Nat → Nat) (hc : ∀ q, q < 4 → c q < 256) (j : Nat) (hj : j < 4) : mixd mixR (mixd unmixR c) j = c j := by
  rw [mixd, rows_rows _ _ _ unmixR_lt hc, ← dotp_one c j hj hc]
  refine dotp_congr _ _ _ _ fun q hq => ?_
  have : ∀ j : Fin 4, ∀ q : Fin 4, gm (mixR (4 * j + 0)) (unmixR q) ^^^ gm (mixR (4 * j + 1)) (unmixR (4 + q)) ^^^ gm (mixR (4 * j + 2)) (unmixR (8 + q)) ^^^ gm (mixR (4 * j + 3)) (unmixR (12 + q)) = if q = j then 1 else 0 := by decide +kernel
  have := this ⟨j, hj⟩ ⟨q, hq⟩
  simpa [Fin.ext_iff] using this

/-- The sum of two columns, as far as k. -/
def addD (c d : Nat → Nat) (k j : Nat) : Nat := if j < k then c j ^^^ d j else 0
theorem addD_next (c d : Nat → Nat) (k : Nat) : addD c d (k + 1) k = c k ^^^ d k := by simp [addD]
theorem addD_far (c d : Nat → Nat) (k j : Nat) (h : j ≠ k) : addD c d (k + 1) j = addD c d k j := by
  unfold addD
  by_cases h' : j < k
  · rw [if_pos h', if_pos (by omega)]
  · rw [if_neg h', if_neg (by omega)]
theorem addD_lt (c d : Nat → Nat) (hc : ∀ q, q < 4 → c q < 256) (hd : ∀ q, q < 4 → d q < 256) (k j : Nat) (hj : j < 4) : addD c d k j < 256 := by
  unfold addD
  split
  · exact Nat.xor_lt_two_pow (n := 8) (hc j hj) (hd j hj)
  · omega
theorem mixd_sum (m c d : Nat → Nat) (j : Nat) : mixd m (addD c d 4) j = mixd m c j ^^^ mixd m d j := by
  rw [← mixd_add]
  simp [mixd, dotp, addD]
end Go.Proofs.Ytfgigoheaoanpaa
