/-
  Numbers in groups of seven bits: their bytes, and what is read at the beginning of bytes. Plain mathematics.
-/
namespace Go.Proofs.Ytbepibkbghmkkaa
set_option linter.unusedVariables false
set_option linter.unusedSimpArgs false

/-- A number's bytes. -/
def leb (n : Nat) : List Nat := if h : n < 128 then [n] else (n % 128 + 128) :: leb (n / 128)
theorem leb_small {n : Nat} (h : n < 128) : leb n = [n] := by rw [leb, dif_pos h]
theorem leb_big {n : Nat} (h : ¬ n < 128) : leb n = (n % 128 + 128) :: leb (n / 128) := by rw [leb, dif_neg h]
theorem leb_ne (n : Nat) : leb n ≠ [] := by
  by_cases h : n < 128
  · rw [leb_small h]; simp
  · rw [leb_big h]; simp
theorem leb_pos (n : Nat) : 0 < (leb n).length := List.length_pos_iff.2 (leb_ne n)
theorem leb_lt (n : Nat) : ∀ x ∈ leb n, x < 256 := by
  induction n using Nat.strongRecOn with
  | _ n ih =>
    intro x hx
    by_cases h : n < 128
    · rw [leb_small h] at hx; simp at hx; omega
    · rw [leb_big h, List.mem_cons] at hx
      rcases hx with rfl | hx
      · omega
      · exact ih (n / 128) (by omega) x hx
theorem leb_len (n k : Nat) (h : n < 128 ^ k) (hk : 0 < k) : (leb n).length ≤ k := by
  induction k generalizing n with
  | zero => omega
  | succ k ih =>
    by_cases h1 : n < 128
    · rw [leb_small h1]; simp
    · rw [leb_big h1, List.length_cons]
      have hk0 : 0 < k := by
        rcases Nat.eq_zero_or_pos k with rfl | h0
        · simp at h; omega
        · exact h0
      have := ih (n / 128) (by rw [Nat.pow_succ] at h; omega) hk0
      omega
theorem leb_ten (n : Nat) (h : n < 18446744073709551616) : (leb n).length ≤ 10 := by
  have e : (128 : Nat) ^ 10 = 1180591620717411303424 := by decide
  exact leb_len n 10 (by omega) (by omega)

/-- What stands at the beginning of bytes: a number, how many bytes it has, and a fault. -/
def tkL : List Nat → Nat → Nat → Nat → Nat × Nat × Nat
  | [], _, _, _ => (0, 0, 4)
  | x :: r, i, n, y =>
    if i = 9 ∧ 1 < x then (0, 0, 6)
    else if 128 ≤ x then tkL r (i + 1) (n + x % 128 * y) (y * 128)
    else if x = 0 ∧ 0 < i then (0, 0, 5)
    else (n + x % 128 * y, i + 1, 0)
def tk (l : List Nat) : Nat × Nat × Nat := tkL l 0 0 1
/-- A number's own bytes are read as the number, whatever follows. -/
theorem tkL_leb (m : Nat) (r : List Nat) : ∀ (i n y : Nat), i ≤ 9 → m < 2 ^ (64 - 7 * i) → (0 < i → 0 < m) → tkL (leb m ++ r) i n y = (n + m * y, i + (leb m).length, 0) := by
  induction m using Nat.strongRecOn with
  | _ m ih =>
    intro i n y hi hm h0
    by_cases h : m < 128
    · rw [leb_small h]
      have h1 : ¬ (i = 9 ∧ 1 < m) := by
        rintro ⟨rfl, h2⟩
        have : (2 : Nat) ^ (64 - 7 * 9) = 2 := by decide
        omega
      have h3 : ¬ (m = 0 ∧ 0 < i) := by rintro ⟨rfl, h2⟩; have := h0 h2; omega
      show tkL (m :: r) i n y = _
      rw [tkL, if_neg h1, if_neg (by omega), if_neg h3, Nat.mod_eq_of_lt h]
      rfl
    · rw [leb_big h]
      have h9 : i < 9 := by
        rcases Nat.lt_or_ge i 9 with h1 | h1
        · exact h1
        · obtain rfl : i = 9 := by omega
          have : (2 : Nat) ^ (64 - 7 * 9) = 2 := by decide
          omega
      have hp : (2 : Nat) ^ (64 - 7 * i) = 2 ^ (64 - 7 * (i + 1)) * 128 := by
        rw [show 64 - 7 * i = (64 - 7 * (i + 1)) + 7 from by omega, Nat.pow_add]
      show tkL ((m % 128 + 128) :: (leb (m / 128) ++ r)) i n y = _
      rw [tkL, if_neg (by omega), if_pos (by omega), ih (m / 128) (by omega) (i + 1) _ _ (by omega) (by omega) (by omega)]
      have e : n + (m % 128 + 128) % 128 * y + m / 128 * (y * 128) = n + m * y := by
        have h1 : (m % 128 + 128) % 128 = m % 128 := by omega
        have h2 : m * y = m % 128 * y + m / 128 * (y * 128) := by
          conv => lhs; rw [← Nat.mod_add_div m 128]
          rw [Nat.add_mul, Nat.mul_comm 128 (m / 128), Nat.mul_assoc, Nat.mul_comm 128 y]
        rw [h1, h2, Nat.add_assoc]
      rw [e, List.length_cons]
      congr 2
      omega
theorem tk_leb (m : Nat) (hm : m < 18446744073709551616) (r : List Nat) : tk (leb m ++ r) = (m, (leb m).length, 0) := by
  unfold tk
  rw [tkL_leb m r 0 0 1 (by omega) hm (by omega)]
  simp
/-- Less than all of a number's bytes end too early. -/
theorem tkL_short (m : Nat) : ∀ (i n y k : Nat), i ≤ 9 → m < 2 ^ (64 - 7 * i) → k < (leb m).length → tkL ((leb m).take k) i n y = (0, 0, 4) := by
  induction m using Nat.strongRecOn with
  | _ m ih =>
    intro i n y k hi hm hk
    by_cases h : m < 128
    · rw [leb_small h] at hk ⊢
      obtain rfl : k = 0 := by simp at hk; exact hk
      rfl
    · rw [leb_big h] at hk ⊢
      rcases k with _ | k
      · rfl
      · have h9 : i < 9 := by
          rcases Nat.lt_or_ge i 9 with h1 | h1
          · exact h1
          · obtain rfl : i = 9 := by omega
            have : (2 : Nat) ^ (64 - 7 * 9) = 2 := by decide
            omega
        have hp : (2 : Nat) ^ (64 - 7 * i) = 2 ^ (64 - 7 * (i + 1)) * 128 := by
          rw [show 64 - 7 * i = (64 - 7 * (i + 1)) + 7 from by omega, Nat.pow_add]
        rw [List.take_succ_cons, tkL, if_neg (by omega), if_pos (by omega)]
        exact ih (m / 128) (by omega) (i + 1) _ _ k (by omega) (by omega) (by simpa using hk)
theorem tk_short (m : Nat) (hm : m < 18446744073709551616) (k : Nat) (hk : k < (leb m).length) : tk ((leb m).take k) = (0, 0, 4) := tkL_short m 0 0 1 k (by omega) hm hk
/-- Bytes that are read as a number begin with its own. -/
theorem tkL_only (l : List Nat) : (∀ x ∈ l, x < 256) → ∀ (i n y v k : Nat), i ≤ 9 → tkL l i n y = (v, k, 0) → ∃ m, v = n + m * y ∧ m < 2 ^ (64 - 7 * i) ∧ (0 < i → 0 < m) ∧ k = i + (leb m).length ∧ (leb m).length ≤ l.length ∧ l.take (leb m).length = leb m := by
  induction l with
  | nil => intro _ i n y v k _ h; simp [tkL] at h
  | cons x r ih =>
    intro hl i n y v k hi h
    have hx : x < 256 := hl x (List.mem_cons_self ..)
    rw [tkL] at h
    split at h
    · simp at h
    · rename_i h1
      split at h
      · rename_i h2
        have h9 : i < 9 := by
          rcases Nat.lt_or_ge i 9 with h3 | h3
          · exact h3
          · exact (h1 ⟨by omega, by omega⟩).elim
        have hp : (2 : Nat) ^ (64 - 7 * i) = 2 ^ (64 - 7 * (i + 1)) * 128 := by
          rw [show 64 - 7 * i = (64 - 7 * (i + 1)) + 7 from by omega, Nat.pow_add]
        obtain ⟨m, rfl, hm, hm0, rfl, hml, hmt⟩ := ih (fun x hx => hl x (List.mem_cons_of_mem _ hx)) (i + 1) _ _ v k (by omega) h
        have hmp := hm0 (by omega)
        have hb : ¬ (x - 128 + 128 * m) < 128 := by omega
        have e1 : (x - 128 + 128 * m) % 128 = x - 128 := by omega
        have e2 : (x - 128 + 128 * m) / 128 = m := by omega
        have e3 : leb (x - 128 + 128 * m) = x :: leb m := by
          rw [leb_big hb, e1, e2]
          congr 1
          omega
        refine ⟨x - 128 + 128 * m, ?_, by omega, fun _ => by omega, ?_, ?_, ?_⟩
        · have h4 : x % 128 = x - 128 := by omega
          rw [h4, Nat.add_mul, Nat.mul_comm 128 m, Nat.mul_assoc, Nat.mul_comm 128 y, Nat.add_assoc]
        · rw [e3, List.length_cons]; omega
        · rw [e3, List.length_cons, List.length_cons]; omega
        · rw [e3, List.length_cons, List.take_succ_cons, hmt]
      · rename_i h2
        split at h
        · simp at h
        · rename_i h3
          simp only [Prod.mk.injEq] at h
          have hs : x < 128 := by omega
          refine ⟨x, ?_, ?_, fun h0 => by omega, ?_, ?_, ?_⟩
          · rw [← h.1, Nat.mod_eq_of_lt hs]
          · rcases Nat.lt_or_ge i 9 with h4 | h4
            · have : (2 : Nat) ^ 7 ≤ 2 ^ (64 - 7 * i) := Nat.pow_le_pow_right (by omega) (by omega)
              have e7 : (2 : Nat) ^ 7 = 128 := by decide
              omega
            · obtain rfl : i = 9 := by omega
              have : (2 : Nat) ^ (64 - 7 * 9) = 2 := by decide
              omega
          · rw [leb_small hs, ← h.2.1]; rfl
          · rw [leb_small hs]; simp
          · rw [leb_small hs]; rfl
theorem tk_only (l : List Nat) (hl : ∀ x ∈ l, x < 256) (v k : Nat) (h : tk l = (v, k, 0)) : v < 18446744073709551616 ∧ k = (leb v).length ∧ k ≤ l.length ∧ l.take k = leb v := by
  obtain ⟨m, rfl, hm, _, rfl, h1, h2⟩ := tkL_only l hl 0 0 1 v k (by omega) h
  rw [Nat.zero_add, Nat.mul_one, Nat.zero_add]
  exact ⟨hm, rfl, h1, h2⟩
/-- The faults that there are, and what stands beside them. -/
theorem tkL_fault (l : List Nat) : ∀ (i n y : Nat), (tkL l i n y).2.2 ≠ 0 → ((tkL l i n y) = (0, 0, 4) ∨ (tkL l i n y) = (0, 0, 5) ∨ (tkL l i n y) = (0, 0, 6)) := by
  induction l with
  | nil => intro i n y _; exact .inl rfl
  | cons x r ih =>
    intro i n y h
    rw [tkL] at h ⊢
    split at h
    · rename_i h1; rw [if_pos h1]; exact .inr (.inr rfl)
    · rename_i h1
      rw [if_neg h1]
      split at h
      · rename_i h2; rw [if_pos h2]; exact ih _ _ _ h
      · rename_i h2
        rw [if_neg h2]
        split at h
        · rename_i h3; rw [if_pos h3]; exact .inr (.inl rfl)
        · exact (h rfl).elim
theorem tk_fault (l : List Nat) (h : (tk l).2.2 ≠ 0) : tk l = (0, 0, 4) ∨ tk l = (0, 0, 5) ∨ tk l = (0, 0, 6) := tkL_fault l 0 0 1 h
end Go.Proofs.Ytbepibkbghmkkaa
