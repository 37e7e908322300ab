/-
  The bytes of a key's words by their recursion. Plain mathematics.
-/
import Derived.Test.YtfgigoheaoanpaaAesA
namespace Go.Proofs.Ytfgigoheaoanpaa

theorem kX_more (k : Nat) (key : List Nat) (m d : Nat) (j : Nat) (hj : j < key.length + 4 * m) : (kX k key (m + d))[j]? = (kX k key m)[j]? := by
  induction d with
  | zero => rfl
  | succ d ih =>
    rw [show m + (d + 1) = (m + d) + 1 from rfl, kX, List.getElem?_append_left (by rw [kX_len]; omega), ih]
theorem kX_get (k : Nat) (key : List Nat) (m n : Nat) (h : m ≤ n) (j : Nat) (hj : j < key.length + 4 * m) : (kX k key n).getD j 0 = (kX k key m).getD j 0 := by
  obtain ⟨d, rfl⟩ : ∃ d, n = m + d := ⟨n - m, by omega⟩
  rw [List.getD_eq_getElem?_getD, List.getD_eq_getElem?_getD, kX_more k key m d j hj]
theorem kX_new (k : Nat) (key : List Nat) (m p : Nat) (hp : p < 4) : (kX k key (m + 1)).getD (key.length + 4 * m + p) 0 = kW k (k + m) (kX k key m) p := by
  rw [kX, List.getD_eq_getElem?_getD, List.getElem?_append_right (by rw [kX_len]; omega), kX_len, show key.length + 4 * m + p - (key.length + 4 * m) = p from by omega]
  rcases p with _ | _ | _ | _ | p
  · rfl
  · rfl
  · rfl
  · rfl
  · omega
theorem kT_eq (k i : Nat) (t u : Nat → Nat) (h : ∀ p, p < 4 → t p = u p) (p : Nat) (hp : p < 4) : kT k i t p = kT k i u p := by
  unfold kT
  rw [h p hp, h ((p + 1) % 4) (by omega)]

/-- The first words are the key's bytes. -/
theorem kF_key (key : List Nat) (j : Nat) (hj : j < key.length) : kF key j = key.getD j 0 := by
  show (kX (key.length / 4) key (3 * (key.length / 4) + 28)).getD j 0 = _
  rw [kX_get _ key 0 _ (by omega) j (by omega)]
  rfl
/-- Each further word. -/
theorem kF_next (key : List Nat) (k i p : Nat) (hk : key.length = 4 * k) (h1 : 1 ≤ k) (hi : k ≤ i) (hi' : i < 4 * k + 28) (hp : p < 4) :
    kF key (4 * i + p) = kT k i (fun p => kF key (4 * (i - 1) + p)) p ^^^ kF key (4 * (i - k) + p) := by
  obtain ⟨n, hF, hn⟩ : ∃ n, (∀ j, kF key j = (kX k key n).getD j 0) ∧ n = 3 * k + 28 := by
    have e : key.length / 4 = k := by omega
    refine ⟨3 * (key.length / 4) + 28, fun j => ?_, by rw [e]⟩
    show (kX (key.length / 4) key (3 * (key.length / 4) + 28)).getD j 0 = _
    rw [e]
  obtain ⟨m, rfl⟩ : ∃ m, i = k + m := ⟨i - k, by omega⟩
  rw [hF, hF, kT_eq k (k + m) (fun p => kF key (4 * (k + m - 1) + p)) (fun q => (kX k key m).getD (4 * (k + m - 1) + q) 0) (fun q hq => by show kF key _ = _; rw [hF, kX_get k key m n (by omega) _ (by omega)]) p hp]
  rw [kX_get k key (m + 1) n (by omega) (4 * (k + m) + p) (by omega), show 4 * (k + m) + p = key.length + 4 * m + p from by omega, kX_new k key m p hp]
  rw [show k + m - k = m from by omega, kX_get k key m n (by omega) (4 * m + p) (by omega)]
  unfold kW
  rw [show k + m - k = m from by omega]
/-- Whoever begins and goes on so is the key's words. -/
theorem kF_uniq (key : List Nat) (k : Nat) (hk : key.length = 4 * k) (h1 : 1 ≤ k) (g : Nat → Nat) (h0 : ∀ j, j < key.length → g j = key.getD j 0)
    (hn : ∀ i p, k ≤ i → i < 4 * k + 28 → p < 4 → g (4 * i + p) = kT k i (fun p => g (4 * (i - 1) + p)) p ^^^ g (4 * (i - k) + p)) :
    ∀ j, j < 4 * (4 * k + 28) → kF key j = g j := by
  have key2 : ∀ n j, j < n → j < 4 * (4 * k + 28) → kF key j = g j := by
    intro n
    induction n with
    | zero => intro j hj; omega
    | succ n ih =>
      intro j hj hjb
      by_cases hl : j < key.length
      · rw [kF_key key j hl, h0 j hl]
      · obtain ⟨i, q, hq, rfl⟩ : ∃ i q, q < 4 ∧ j = 4 * i + q := ⟨j / 4, j % 4, by omega, by omega⟩
        have a1 : kF key (4 * (i - k) + q) = g (4 * (i - k) + q) := ih _ (by omega) (by omega)
        have a2 : kT k i (fun p => kF key (4 * (i - 1) + p)) q = kT k i (fun p => g (4 * (i - 1) + p)) q := kT_eq _ _ _ _ (fun q hq => ih _ (by omega) (by omega)) _ hq
        have a3 := kF_next key k i q hk h1 (by omega) (by omega) hq
        have a4 := hn i q (by omega) (by omega) hq
        generalize kF key (4 * i + q) = u1 at *
        generalize g (4 * i + q) = u2 at *
        rw [a3, a4]
        exact congr (congrArg (fun x y => x ^^^ y) a2) a1
  exact fun j hj => key2 (j + 1) j (by omega) hj
end Go.Proofs.Ytfgigoheaoanpaa
