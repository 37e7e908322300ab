/-
  Bits that are added: polynomials over the field of two as numbers, products by a step X, rings, the field of 256. Plain mathematics, no program.
-/
namespace Go.Proofs.Ytfgigoheaoanpaa

theorem xor4 (a b c d : Nat) : (a ^^^ b) ^^^ (c ^^^ d) = (a ^^^ c) ^^^ (b ^^^ d) := by
  rw [Nat.xor_assoc, Nat.xor_assoc, ← Nat.xor_assoc b, Nat.xor_comm b c, Nat.xor_assoc c]

/-- X, k times. -/
def it (X : Nat → Nat) : Nat → Nat → Nat
  | 0, b => b
  | k + 1, b => X (it X k b)

/-- The sum of X i times of b, over the bits i below k that a has. -/
def gL (X : Nat → Nat) (bit : Nat → Nat → Bool) : Nat → Nat → Nat → Nat
  | 0, _, _ => 0
  | k + 1, a, b => gL X bit k a b ^^^ (if bit a k then it X k b else 0)

section
variable {X : Nat → Nat} {bit : Nat → Nat → Bool} (hX : ∀ a b, X (a ^^^ b) = X a ^^^ X b) (hbit : ∀ a b i, bit (a ^^^ b) i = (bit a i ^^ bit b i))

theorem add_nought {T : Nat → Nat} (hT : ∀ a b, T (a ^^^ b) = T a ^^^ T b) : T 0 = 0 := by
  have := hT 0 0
  simpa using this

include hX in
theorem it_add (k a b : Nat) : it X k (a ^^^ b) = it X k a ^^^ it X k b := by
  induction k with
  | zero => rfl
  | succ k ih => simp only [it, ih, hX]

include hX in
theorem gL_add_r (k a b c : Nat) : gL X bit k a (b ^^^ c) = gL X bit k a b ^^^ gL X bit k a c := by
  induction k with
  | zero => simp [gL]
  | succ k ih =>
    simp only [gL, ih]
    by_cases h : bit a k = true
    · simp only [h, if_true, it_add hX]; exact xor4 _ _ _ _
    · simp [h]

include hbit in
theorem gL_add_l (k a b c : Nat) : gL X bit k (a ^^^ b) c = gL X bit k a c ^^^ gL X bit k b c := by
  induction k with
  | zero => simp [gL]
  | succ k ih =>
    simp only [gL, ih, hbit]
    rw [xor4]
    congr 1
    cases bit a k <;> cases bit b k <;> simp

theorem it_op {T : Nat → Nat} (hTX : ∀ b, T (X b) = X (T b)) (k b : Nat) : T (it X k b) = it X k (T b) := by
  induction k with
  | zero => rfl
  | succ k ih => simp only [it, hTX, ih]

theorem gL_op {T : Nat → Nat} (hT : ∀ a b, T (a ^^^ b) = T a ^^^ T b) (hTX : ∀ b, T (X b) = X (T b)) (k a b : Nat) : T (gL X bit k a b) = gL X bit k a (T b) := by
  have h0 := add_nought hT
  induction k with
  | zero => exact h0
  | succ k ih =>
    simp only [gL, hT, ih]
    congr 1
    by_cases h : bit a k = true
    · simp only [h, if_true]; exact it_op hTX k b
    · simp [h, h0]

include hX in
/-- Products by two elements may change places. -/
theorem gL_swap (k a b c : Nat) : gL X bit k a (gL X bit k b c) = gL X bit k b (gL X bit k a c) :=
  gL_op (gL_add_r hX k a) (fun b => (gL_op (X := X) (T := X) hX (fun _ => rfl) k a b).symm) k b c

include hX in
theorem gL_comm (k a b e : Nat) (ha : gL X bit k a e = a) (hb : gL X bit k b e = b) : gL X bit k a b = gL X bit k b a := by
  have := gL_swap (bit := bit) hX k a b e
  rw [ha, hb] at this
  exact this

include hX in
theorem gL_assoc (k a b c e : Nat) (hu : ∀ x, x = gL X bit k a b ∨ x = c ∨ x = b → gL X bit k x e = x) : gL X bit k (gL X bit k a b) c = gL X bit k a (gL X bit k b c) := by
  rw [gL_comm hX k (gL X bit k a b) c e (hu _ (.inl rfl)) (hu _ (.inr (.inl rfl))), gL_swap hX, gL_comm hX k c b e (hu _ (.inr (.inl rfl))) (hu _ (.inr (.inr rfl)))]

include hbit in
theorem gL_nought_l (k b : Nat) : gL X bit k 0 b = 0 := add_nought (T := fun a => gL X bit k a b) fun a c => gL_add_l hbit k a c b
include hX in
theorem gL_nought_r (k a : Nat) : gL X bit k a 0 = 0 := add_nought (T := gL X bit k a) (gL_add_r hX k a)
end

/- The field of 256. -/
/-- x times an element. -/
def xt (b : Nat) : Nat := if b.testBit 7 then b <<< 1 ^^^ 0x11b else b <<< 1
theorem xt_add (a b : Nat) : xt (a ^^^ b) = xt a ^^^ xt b := by
  unfold xt
  simp only [Nat.testBit_xor, Nat.shiftLeft_xor_distrib]
  generalize a <<< 1 = p
  generalize b <<< 1 = q
  cases a.testBit 7 <;> cases b.testBit 7 <;> simp
  · exact Nat.xor_assoc _ _ _
  · rw [Nat.xor_assoc, Nat.xor_comm q, ← Nat.xor_assoc]
  · rw [xor4]; simp
/-- The product. -/
def gm (a b : Nat) : Nat := gL xt Nat.testBit 8 a b

theorem gm_add_r (a b c : Nat) : gm a (b ^^^ c) = gm a b ^^^ gm a c := gL_add_r xt_add 8 a b c
theorem gm_add_l (a b c : Nat) : gm (a ^^^ b) c = gm a c ^^^ gm b c := gL_add_l Nat.testBit_xor 8 a b c
theorem gm_nought_l (b : Nat) : gm 0 b = 0 := gL_nought_l Nat.testBit_xor 8 b
theorem gm_nought_r (a : Nat) : gm a 0 = 0 := gL_nought_r xt_add 8 a

theorem all256 {p : Nat → Bool} (h : (List.range 256).all p = true) (a : Nat) (ha : a < 256) : p a = true :=
  List.all_eq_true.mp h a (List.mem_range.mpr ha)

theorem gm_one (a : Nat) (ha : a < 256) : gm a 1 = a := by
  have := all256 (p := fun a => gm a 1 == a) (by decide +kernel) a ha
  simpa using this

theorem xt_lt (b : Nat) (hb : b < 256) : xt b < 256 := by
  have := all256 (p := fun b => decide (xt b < 256)) (by decide +kernel) b hb
  simpa using this
theorem it_lt (k b : Nat) (hb : b < 256) : it xt k b < 256 := by
  induction k with
  | zero => exact hb
  | succ k ih => exact xt_lt _ ih
theorem gL_lt (k a b : Nat) (hb : b < 256) : gL xt Nat.testBit k a b < 256 := by
  induction k with
  | zero => exact Nat.zero_lt_succ _
  | succ k ih =>
    refine Nat.xor_lt_two_pow (n := 8) ih ?_
    split
    · exact it_lt k b hb
    · exact Nat.zero_lt_succ _
theorem gm_lt (a b : Nat) (hb : b < 256) : gm a b < 256 := gL_lt 8 a b hb

theorem gm_comm (a b : Nat) (ha : a < 256) (hb : b < 256) : gm a b = gm b a := gL_comm xt_add 8 a b 1 (gm_one a ha) (gm_one b hb)
theorem gm_assoc (a b c : Nat) (hb : b < 256) (hc : c < 256) : gm (gm a b) c = gm a (gm b c) :=
  gL_assoc xt_add 8 a b c 1 (by
    intro x hx
    rcases hx with h | h | h <;> subst h
    · exact gm_one _ (gm_lt _ _ hb)
    · exact gm_one _ hc
    · exact gm_one _ hb)

/-- The power. -/
def gp (a : Nat) : Nat → Nat
  | 0 => 1
  | n + 1 => gm (gp a n) a
theorem gp_lt (a n : Nat) (ha : a < 256) : gp a n < 256 := by
  cases n with
  | zero => exact Nat.lt_of_sub_eq_succ rfl
  | succ n => exact gm_lt _ _ ha
theorem gp_add (a m n : Nat) (ha : a < 256) : gp a (m + n) = gm (gp a m) (gp a n) := by
  induction n with
  | zero => exact (gm_one _ (gp_lt a m ha)).symm
  | succ n ih =>
    show gm (gp a (m + n)) a = gm (gp a m) (gm (gp a n) a)
    rw [ih, gm_assoc _ _ _ (gp_lt a n ha) ha]
theorem gp_one (a : Nat) (ha : a < 256) : gp a 1 = a := by
  show gm 1 a = a
  rw [gm_comm 1 a (by omega) ha, gm_one a ha]
theorem gp_two (a n : Nat) (ha : a < 256) : gp a (2 * n) = gp (gm a a) n := by
  induction n with
  | zero => rfl
  | succ n ih =>
    rw [show 2 * (n + 1) = 2 * n + 2 from by omega, gp_add a _ _ ha, ih]
    show _ = gm (gp (gm a a) n) (gm a a)
    congr 1
    show gm (gm 1 a) a = _
    have h1 := gp_one a ha
    rw [show gm 1 a = a from h1]
/-- The inverse, by few products. -/
def gi (a : Nat) : Nat :=
  let b := gm a a
  let c := gm b b
  let d := gm c c
  let e := gm d d
  let f := gm e e
  let g := gm f f
  let h := gm g g
  gm (gm (gm b c) (gm d e)) (gm (gm f g) h)
theorem gi_lt (a : Nat) (ha : a < 256) : gi a < 256 := gm_lt _ _ (gm_lt _ _ (gm_lt _ _ (gm_lt _ _ (gm_lt _ _ (gm_lt _ _ (gm_lt _ _ (gm_lt _ _ (gm_lt _ _ ha))))))))
theorem gp_dbl (a n : Nat) (ha : a < 256) : gp a (n + n) = gm (gp a n) (gp a n) := gp_add a n n ha
theorem gi_pow (a : Nat) (ha : a < 256) : gp a 254 = gi a := by
  unfold gi
  dsimp only
  rw [show 254 = ((2 + 4) + (8 + 16)) + ((32 + 64) + 128) from rfl]
  rw [gp_add a (2 + 4 + (8 + 16)) _ ha, gp_add a (2 + 4) _ ha, gp_add a 2 4 ha, gp_add a 8 16 ha, gp_add a (32 + 64) 128 ha, gp_add a 32 64 ha]
  have h2 : gp a 2 = gm a a := by rw [show (2 : Nat) = 1 + 1 from rfl, gp_dbl a 1 ha, gp_one a ha]
  have h4 := gp_dbl a 2 ha
  have h8 := gp_dbl a 4 ha
  have h16 := gp_dbl a 8 ha
  have h32 := gp_dbl a 16 ha
  have h64 := gp_dbl a 32 ha
  have h128 := gp_dbl a 64 ha
  simp only [Nat.reduceAdd] at h4 h8 h16 h32 h64 h128
  rw [h128, h64, h32, h16, h8, h4, h2]
theorem gi_zero : gi 0 = 0 := by decide +kernel
theorem gm_gi (a : Nat) (ha : a < 256) (h0 : a ≠ 0) : gm a (gi a) = 1 := by
  have := all256 (p := fun a => a == 0 || gm a (gi a) == 1) (by decide +kernel) a ha
  simpa [h0] using this
theorem gm_uniq (a b : Nat) (ha : a < 256) (hb : b < 256) (h : gm a b = 1) : b = gi a := by
  have h0 : a ≠ 0 := by rintro rfl; rw [gm_nought_l] at h; cases h
  have h1 := gm_gi a ha h0
  have h2 : gm (gi a) (gm a b) = gi a := by rw [h, gm_one _ (gi_lt a ha)]
  rw [← gm_assoc _ _ _ ha hb, gm_comm (gi a) a (gi_lt a ha) ha, h1, gm_comm 1 b (by omega) hb, gm_one b hb] at h2
  exact h2
theorem gm_zero (a b : Nat) (ha : a < 256) (hb : b < 256) (h : gm a b = 0) : a = 0 ∨ b = 0 := by
  by_cases h0 : a = 0
  · exact .inl h0
  · right
    have h1 := gm_gi a ha h0
    have h2 : gm (gi a) (gm a b) = 0 := by rw [h, gm_nought_r]
    rw [← gm_assoc _ _ _ ha hb, gm_comm (gi a) a (gi_lt a ha) ha, h1, gm_comm 1 b (by omega) hb, gm_one b hb] at h2
    exact h2
theorem gi_nz (a : Nat) (ha : a < 256) (h0 : a ≠ 0) : gi a ≠ 0 := by
  intro h
  have := gm_gi a ha h0
  rw [h, gm_nought_r] at this
  cases this
theorem gi_gi (a : Nat) (ha : a < 256) : gi (gi a) = a := by
  by_cases h0 : a = 0
  · subst h0; decide +kernel
  · refine (gm_uniq (gi a) a (gi_lt a ha) ha ?_).symm
    rw [gm_comm _ _ (gi_lt a ha) ha]
    exact gm_gi a ha h0
theorem gp_255 (a : Nat) (ha : a < 256) (h0 : a ≠ 0) : gp a 255 = 1 := by
  show gm (gp a 254) a = 1
  rw [gi_pow a ha, gm_comm _ _ (gi_lt a ha) ha]
  exact gm_gi a ha h0
theorem gp_nought (n : Nat) (h : n ≠ 0) : gp 0 n = 0 := by
  obtain ⟨k, rfl⟩ : ∃ k, n = k + 1 := ⟨n - 1, by omega⟩
  exact gm_nought_r _
theorem gp_mul255 (a k : Nat) (ha : a < 256) (h0 : a ≠ 0) : gp a (255 * k) = 1 := by
  induction k with
  | zero => rfl
  | succ k ih =>
    rw [show 255 * (k + 1) = 255 * k + 255 from by omega, gp_add a _ _ ha, ih, gp_255 a ha h0]
    decide +kernel
theorem gp_mod (a n : Nat) (ha : a < 256) (h0 : a ≠ 0) : gp a n = gp a (n % 255) := by
  conv => lhs; rw [← Nat.div_add_mod n 255]
  rw [gp_add a _ _ ha, gp_mul255 a _ ha h0, gm_comm 1 _ (by omega) (gp_lt a _ ha), gm_one _ (gp_lt a _ ha)]
end Go.Proofs.Ytfgigoheaoanpaa
