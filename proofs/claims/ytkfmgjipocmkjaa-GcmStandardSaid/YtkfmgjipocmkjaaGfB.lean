/-
  The document's product of two elements, and its substitutes, as numbers; what the code's come to. Plain mathematics, no program.
-/
import Derived.Test.YtkfmgjipocmkjaaFoldA
namespace Go.Proofs.Ytkfmgjipocmkjaa

/-- A polynomials' product, of the bits of b below k. -/
def clm (a b : Nat) : Nat → Nat
  | 0 => 0
  | k + 1 => clm a b k ^^^ (if b.testBit k then a <<< k else 0)
/-- One step of the rest. -/
def rst (i p : Nat) : Nat := if p.testBit i then p ^^^ 0x11b <<< (i - 8) else p
def rsd (p : Nat) : Nat → Nat
  | 0 => p
  | j + 1 => rst (14 - j) (rsd p j)
/-- The document's product. -/
def rm (a b : Nat) : Nat := rsd (clm a b 8) 7

theorem clm_add (a b c k : Nat) : clm (a ^^^ b) c k = clm a c k ^^^ clm b c k := by
  induction k with
  | zero => simp [clm]
  | succ k ih =>
    simp only [clm, ih]
    conv => rhs; rw [xor4]
    congr 1
    cases c.testBit k <;> simp [Nat.shiftLeft_xor_distrib]
theorem rst_add (i p q : Nat) : rst i (p ^^^ q) = rst i p ^^^ rst i q := by
  unfold rst
  simp only [Nat.testBit_xor]
  generalize 0x11b <<< (i - 8) = m
  cases p.testBit i <;> cases q.testBit i <;> simp
  · exact Nat.xor_assoc _ _ _
  · rw [Nat.xor_assoc, Nat.xor_comm q, ← Nat.xor_assoc]
  · rw [xor4]; simp
theorem rsd_add (p q j : Nat) : rsd (p ^^^ q) j = rsd p j ^^^ rsd q j := by
  induction j with
  | zero => rfl
  | succ j ih => simp only [rsd, ih, rst_add]
theorem rm_add (a b c : Nat) : rm (a ^^^ b) c = rm a c ^^^ rm b c := by
  unfold rm
  rw [clm_add, rsd_add]

theorem shl_lt (a k m : Nat) (ha : a < 2 ^ m) : a <<< k < 2 ^ (m + k) := by
  rw [Nat.shiftLeft_eq, Nat.pow_add]
  exact Nat.mul_lt_mul_of_pos_right ha (Nat.two_pow_pos k)
theorem clm_lt (a b k : Nat) (ha : a < 256) (hk : k ≤ 8) : clm a b k < 32768 := by
  induction k with
  | zero => exact Nat.zero_lt_succ _
  | succ k ih =>
    refine Nat.xor_lt_two_pow (n := 15) (ih (by omega)) ?_
    split
    · exact Nat.lt_of_lt_of_le (shl_lt a k 8 ha) (Nat.pow_le_pow_right (by omega) (by omega))
    · exact Nat.zero_lt_succ _
theorem mod_lt (i : Nat) (h : 8 ≤ i) (hi : i ≤ 14) : 0x11b <<< (i - 8) < 32768 :=
  Nat.lt_of_lt_of_le (shl_lt 0x11b (i - 8) 9 (by decide)) (show 2 ^ (9 + (i - 8)) ≤ 2 ^ 15 from Nat.pow_le_pow_right (by omega) (by omega))
theorem rst_lt (i p : Nat) (h : 8 ≤ i) (hi : i ≤ 14) (hp : p < 32768) : rst i p < 32768 := by
  unfold rst
  split
  · exact Nat.xor_lt_two_pow (n := 15) hp (mod_lt i h hi)
  · exact hp
theorem rsd_lt (p j : Nat) (hj : j ≤ 7) (hp : p < 32768) : rsd p j < 32768 := by
  induction j with
  | zero => exact hp
  | succ j ih => exact rst_lt _ _ (by omega) (by omega) (ih (by omega))

/-- What is added bit by bit is known by eight elements. -/
theorem basis {f g : Nat → Nat} (hf : ∀ a b, f (a ^^^ b) = f a ^^^ f b) (hg : ∀ a b, g (a ^^^ b) = g a ^^^ g b)
    (h : ∀ i, i < 8 → f (1 <<< i) = g (1 <<< i)) (a : Nat) (ha : a < 256) : f a = g a := by
  have key : ∀ k, k ≤ 8 → ∀ x, x < 2 ^ k → f x = g x := by
    intro k
    induction k with
    | zero => intro _ x hx; obtain rfl : x = 0 := by omega
              rw [add_nought hf, add_nought hg]
    | succ k ih =>
      intro hk x hx
      by_cases hb : x < 2 ^ k
      · exact ih (by omega) x hb
      · have h2 : x - 2 ^ k < 2 ^ k := by have := Nat.pow_succ (n := 2) (m := k); omega
        have he : x = 1 <<< k ^^^ (x - 2 ^ k) := by
          have h3 := Nat.two_pow_add_eq_or_of_lt h2 1
          rw [Nat.mul_one] at h3
          have h4 : 2 ^ k ^^^ (x - 2 ^ k) = 2 ^ k ||| (x - 2 ^ k) := by
            apply Nat.eq_of_testBit_eq
            intro i
            rw [Nat.testBit_xor, Nat.testBit_or, Nat.testBit_two_pow]
            by_cases hi : k = i
            · subst hi
              rw [Nat.testBit_lt_two_pow h2]; simp
            · simp [hi]
          rw [Nat.shiftLeft_eq, Nat.one_mul, h4, ← h3]
          omega
        rw [he, hf, hg, h k (by omega), ih (by omega) _ h2]
  exact key 8 (Nat.le_refl _) a ha

theorem rm_eq (a b : Nat) (ha : a < 256) (hb : b < 256) : rm a b = gm a b := by
  refine basis (f := fun a => rm a b) (g := fun a => gm a b) (fun a c => rm_add a c b) (fun a c => gm_add_l a c b) ?_ a ha
  intro i hi
  have := all256 (p := fun b => (List.range 8).all fun i => rm (1 <<< i) b == gm (1 <<< i) b) (by decide +kernel) b hb
  have := List.all_eq_true.mp this i (List.mem_range.mpr hi)
  simpa using this

/-- Turned: bit i is the bit i + n. -/
def rot (b n : Nat) : Nat := b <<< (8 - n) % 256 ||| b >>> n
theorem rot_lt (b n : Nat) (hb : b < 256) : rot b n < 256 :=
  Nat.or_lt_two_pow (n := 8) (Nat.mod_lt _ (by decide)) (Nat.lt_of_le_of_lt (Nat.shiftRight_le b n) hb)
def af (b : Nat) : Nat := b ^^^ rot b 4 ^^^ rot b 5 ^^^ rot b 6 ^^^ rot b 7 ^^^ 0x63
def ai (a : Nat) : Nat := rot (a ^^^ 0x63) 2 ^^^ rot (a ^^^ 0x63) 5 ^^^ rot (a ^^^ 0x63) 7
theorem af_lt (b : Nat) (hb : b < 256) : af b < 256 := by
  have := all256 (p := fun b => decide (af b < 256)) (by decide +kernel) b hb
  simpa using this
theorem ai_lt (b : Nat) (hb : b < 256) : ai b < 256 := by
  have := all256 (p := fun b => decide (ai b < 256)) (by decide +kernel) b hb
  simpa using this
theorem ai_af (b : Nat) (hb : b < 256) : ai (af b) = b := by
  have := all256 (p := fun b => ai (af b) == b) (by decide +kernel) b hb
  simpa using this
theorem af_ai (b : Nat) (hb : b < 256) : af (ai b) = b := by
  have := all256 (p := fun b => af (ai b) == b) (by decide +kernel) b hb
  simpa using this
/-- The substitute, and back. -/
def gs (a : Nat) : Nat := af (gi a)
def gb (a : Nat) : Nat := gi (ai a)
theorem gs_lt (a : Nat) (ha : a < 256) : gs a < 256 := af_lt _ (gi_lt a ha)
theorem gb_lt (a : Nat) (ha : a < 256) : gb a < 256 := gi_lt _ (ai_lt a ha)
theorem gb_gs (a : Nat) (ha : a < 256) : gb (gs a) = a := by
  unfold gb gs
  rw [ai_af _ (gi_lt a ha), gi_gi a ha]
theorem gs_gb (a : Nat) (ha : a < 256) : gs (gb a) = a := by
  unfold gb gs
  rw [gi_gi _ (ai_lt a ha), af_ai a ha]
theorem gs_self (a : Nat) (ha : a < 256) : gs a ≠ a := by
  have := all256 (p := fun a => gs a != a) (by decide +kernel) a ha
  simpa using this
theorem gs_turned (a : Nat) (ha : a < 256) : gs a ≠ 255 - a := by
  have := all256 (p := fun a => gs a != 255 - a) (by decide +kernel) a ha
  simpa using this

/-- A bit, as a number. -/
def bt (a i : Nat) : Nat := a / 2 ^ (i % 8) % 2
theorem bt_le (a i : Nat) : bt a i ≤ 1 := by unfold bt; omega
/-- The document's substitute, bit by bit. -/
def rfs (b : Nat) : Nat → Nat
  | 0 => 0
  | k + 1 => 2 * rfs b k + (bt b (7 - k) + bt b (7 - k + 4) + bt b (7 - k + 5) + bt b (7 - k + 6) + bt b (7 - k + 7) + bt 0x63 (7 - k)) % 2
theorem rfs_lt (b k : Nat) : rfs b k < 2 ^ k := by
  induction k with
  | zero => exact Nat.zero_lt_succ _
  | succ k ih =>
    rw [rfs, Nat.pow_succ]
    omega
theorem rfs_eq (b : Nat) (hb : b < 256) : rfs b 8 = af b := by
  have := all256 (p := fun b => rfs b 8 == af b) (by decide +kernel) b hb
  simpa using this
end Go.Proofs.Ytkfmgjipocmkjaa
