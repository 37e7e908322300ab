/-
  What checks a block's encipherment by tables: a key's words, the states of the rounds. Plain.
-/
import Derived.Test.YtfgigoheaoanpaaAesK
namespace Go.Proofs.Ytfgigoheaoanpaa
set_option maxRecDepth 100000

theorem all_below {p : Nat → Bool} (n : Nat) (h : (List.range n).all p = true) (a : Nat) (ha : a < n) : p a = true := List.all_eq_true.mp h a (List.mem_range.mpr ha)

/-- The cipher hangs on the key's words alone that it uses. -/
theorem rk_eq {w v : Nat → Nat} {r : Nat} (h : ∀ i, i < 16 * (r + 1) → w i = v i) (j : Nat) (hj : j ≤ r) : E16 (rk w j) (rk v j) := fun i hi => h _ (by omega)
theorem sAdd_key (f : Nat → Nat) {k l : Nat → Nat} (h : E16 k l) : E16 (sAdd f k) (sAdd f l) := fun i hi => by unfold sAdd; rw [h i hi]
theorem eN_key {w v : Nat → Nat} {r : Nat} (h : ∀ i, i < 16 * (r + 1) → w i = v i) (b : Nat → Nat) (n : Nat) (hn : n ≤ r) : E16 (eN w r b n) (eN v r b n) := by
  induction n with
  | zero => exact sAdd_key b (rk_eq h 0 (by omega))
  | succ n ih =>
    refine (eRnd_eq w r (n + 1) (ih (by omega))).trans ?_
    exact sAdd_key _ (rk_eq h (n + 1) hn)
/-- A table of states is what the rounds come to. -/
theorem eN_table (w : Nat → Nat) (r : Nat) (b s : Nat → Nat) (h0 : ∀ i, i < 16 → s i = sAdd b (rk w 0) i) (hn : ∀ j i, j < r → i < 16 → s (16 * (j + 1) + i) = eRnd w r (j + 1) (fun i => s (16 * j + i)) i) :
    ∀ n, n ≤ r → E16 (eN w r b n) (fun i => s (16 * n + i)) := by
  intro n
  induction n with
  | zero => exact fun _ i hi => by show sAdd b (rk w 0) i = s (16 * 0 + i); rw [Nat.mul_zero, Nat.zero_add, h0 i hi]
  | succ n ih =>
    intro hn'
    refine (eRnd_eq w r (n + 1) (ih (by omega))).trans fun i hi => ?_
    exact (hn n i (by omega) hi).symm

end Go.Proofs.Ytfgigoheaoanpaa
