/-
  Several texts in one:
  The product of the field of 2^128 as the document makes it: the coefficients of the product, and then the rest; elements as sixteen bytes. Plain mathematics, behind GhF.
  The document's bit of an element, and elements added (layer 4).
  The document's tag (layer 6), over whatever enciphers a block and whatever sums. (Printed by wip/gen/gcmref.py.)
  galois: the products, the code's and the document's.
  galois: powers and inverses, the code's and the document's.
  galois: substitutes and back, the code's and the document's.
  The hash of blocks: linear in its blocks. Plain mathematics.
  The document's product of elements (layer 4).
  What each round of the document's product does to a coefficient, and to a byte of the answer. Plain mathematics.
-/
import Derived.Test.YtkfmgjipocmkjaaGhF
import Derived.Test.YtkfmgjipocmkjaaFoldA
import Derived.StillTailTactics
import Derived.Test.YtkfmgjipocmkjaaProg
import Derived.Test.YtkfmgjipocmkjaaGfB
import Derived.Deep.RegionHeld3
namespace Go.Proofs.Ytkfmgjipocmkjaa

/-- The coefficients of the product: that of x^n is the bit 254 - n; the first i coefficients of a have been taken. -/
def hcv (a b : Nat) : Nat → Nat
  | 0 => 0
  | i + 1 => hcv a b i ^^^ (if hbit a i then b <<< (127 - i) else 0)
/-- What is put at the coefficients of x^128 and below, for one more. -/
def hM : Nat := hR <<< 1 ^^^ 1
/-- The rest, the coefficients of x^254 down to x^(255 - j) struck out. -/
def hrd (p : Nat) : Nat → Nat
  | 0 => p
  | j + 1 => if (hrd p j).testBit j then hrd p j ^^^ hM <<< j else hrd p j

theorem hX_shl (b : Nat) : hX (b <<< 1) = b := by
  unfold hX
  have h : (b <<< 1).testBit 0 = false := by rw [Nat.testBit_shiftLeft]; simp
  rw [h, if_neg (by simp), Nat.shiftLeft_shiftRight]
theorem it_succ (X : Nat → Nat) (k b : Nat) : it X (k + 1) b = it X k (X b) := by
  induction k with
  | zero => rfl
  | succ k ih => rw [it, ih]; rfl
theorem it_shl (k b : Nat) : it hX k (b <<< k) = b := by
  induction k with
  | zero => rfl
  | succ k ih => rw [it_succ, show b <<< (k + 1) = (b <<< k) <<< 1 from Nat.shiftLeft_add b k 1, hX_shl, ih]
theorem it_nought (k : Nat) : it hX k 0 = 0 := add_nought (T := it hX k) (it_add hX_add k)
/-- The rest of the product's coefficients is the product. -/
theorem it_hcv (a b : Nat) (n : Nat) (hn : n ≤ 128) : it hX 127 (hcv a b n) = gL hX hbit n a b := by
  induction n with
  | zero => exact it_nought 127
  | succ n ih =>
    rw [hcv, it_add hX_add, ih (by omega), gL]
    congr 1
    split
    · rw [show 127 = n + (127 - n) from by omega, ← it_it, show n + (127 - n) - n = 127 - n from by omega, it_shl]
    · exact it_nought 127
theorem hM_shr : hM >>> 1 = hR := by decide
theorem hM_odd : hM.testBit 0 = true := by decide
theorem hrd_shr (p j : Nat) : hrd p j >>> j = it hX j p := by
  induction j with
  | zero => rfl
  | succ j ih =>
    have h1 : hrd p (j + 1) >>> (j + 1) = (hrd p (j + 1) >>> j) >>> 1 := Nat.shiftRight_add _ j 1
    rw [h1, it]
    have h2 : (hrd p j).testBit j = (it hX j p).testBit 0 := by rw [← ih, Nat.testBit_shiftRight, Nat.add_zero]
    rw [hrd, h2]
    have h3 : hX (it hX j p) = if (it hX j p).testBit 0 then it hX j p >>> 1 ^^^ hR else it hX j p >>> 1 := rfl
    rw [h3]
    split
    · rw [Nat.shiftRight_xor_distrib, Nat.shiftLeft_shiftRight, ih, Nat.shiftRight_xor_distrib, hM_shr]
    · rw [ih]
/-- What is struck out is nought. -/
theorem hrd_low (p j : Nat) : ∀ i, i < j → (hrd p j).testBit i = false := by
  induction j with
  | zero => intro i hi; omega
  | succ j ih =>
    intro i hi
    rw [hrd]
    have hs : (hM <<< j).testBit i = decide (i = j) := by
      rw [Nat.testBit_shiftLeft]
      by_cases e : i = j
      · subst e
        rw [Nat.sub_self, hM_odd]
        simp
      · have : ¬ j ≤ i := by omega
        simp [this, e]
    by_cases e : i = j
    · subst e
      split
      · rename_i h
        rw [Nat.testBit_xor, h, hs]; simp
      · rename_i h
        simpa using h
    · split
      · rw [Nat.testBit_xor, ih i (by omega), hs]; simp [e]
      · exact ih i (by omega)
theorem hrd_hcv (a b : Nat) : hrd (hcv a b 128) 127 >>> 127 = hm a b := by
  rw [hrd_shr, it_hcv a b 128 (Nat.le_refl _)]; rfl

/-- One coefficient more of a: what it does to each of the product's. -/
theorem hcv_bit (a b i n : Nat) (hb : b < 2 ^ 128) (hi : i < 128) (hn : n ≤ 254) :
    (hcv a b (i + 1)).testBit (254 - n) = ((hcv a b i).testBit (254 - n) ^^ (hbit a i && (decide (i ≤ n ∧ n < i + 128) && hbit b (n - i)))) := by
  rw [hcv, Nat.testBit_xor]
  congr 1
  cases h : hbit a i
  · simp
  · simp only [if_true, Bool.true_and]
    rw [Nat.testBit_shiftLeft]
    by_cases h1 : n < i + 128
    · by_cases h2 : i ≤ n
      · have e : 254 - n - (127 - i) = 127 - (n - i) := by omega
        have h3 : 127 - i ≤ 254 - n := by omega
        simp only [h3, decide_true, Bool.true_and, h1, h2, and_self]
        unfold hbit
        rw [e]
      · have h4 : ¬ (i ≤ n ∧ n < i + 128) := fun h => h2 h.1
        have h5 : b.testBit (254 - n - (127 - i)) = false := Nat.testBit_lt_two_pow (Nat.lt_of_lt_of_le hb (Nat.pow_le_pow_right (by omega) (by omega)))
        rw [h5, Bool.and_false, decide_eq_false h4, Bool.false_and]
    · have h4 : ¬ (i ≤ n ∧ n < i + 128) := fun h => h1 h.2
      have h3 : ¬ 127 - i ≤ 254 - n := by omega
      rw [decide_eq_false h4, Bool.false_and]
      simp [h3]
theorem hcv_nought (a b n : Nat) : (hcv a b 0).testBit n = false := by simp [hcv]

theorem small_lt {a n : Nat} (h : a < 256) (hn : 8 ≤ n) : a < 2 ^ n := Nat.lt_of_lt_of_le h (Nat.pow_le_pow_right (n := 2) (by omega) hn)
/-- Sixteen bytes as an element's number. -/
def num16 (f : Nat → Nat) : Nat → Nat
  | 0 => 0
  | k + 1 => num16 f k * 256 + f k
theorem num16_lt (f : Nat → Nat) (k : Nat) (h : ∀ i, i < k → f i < 256) : num16 f k < 256 ^ k := by
  induction k with
  | zero => simp [num16]
  | succ k ih =>
    have h1 := ih fun i hi => h i (by omega)
    have h2 := h k (by omega)
    rw [num16, Nat.pow_succ]
    omega
theorem num16_bit (f : Nat → Nat) (k : Nat) (h : ∀ i, i < k → f i < 256) (i : Nat) (hi : i < 8 * k) : (num16 f k).testBit (8 * k - 1 - i) = (f (i / 8)).testBit (7 - i % 8) := by
  induction k with
  | zero => omega
  | succ k ih =>
    rw [num16]
    have h2 := h k (by omega)
    have e : num16 f k * 256 + f k = (num16 f k) <<< 8 ||| f k := by
      have h3 := Nat.shiftLeft_add_eq_or_of_lt (i := 8) (b := f k) (by simpa using h2) (num16 f k)
      rw [Nat.shiftLeft_eq] at h3 ⊢
      exact h3
    rw [e, Nat.testBit_or, Nat.testBit_shiftLeft]
    by_cases hl : i < 8 * k
    · have h3 : 8 ≤ 8 * (k + 1) - 1 - i := by omega
      have h4 : (f k).testBit (8 * (k + 1) - 1 - i) = false := Nat.testBit_lt_two_pow (small_lt h2 (by omega))
      rw [h4, Bool.or_false, show 8 * (k + 1) - 1 - i - 8 = 8 * k - 1 - i from by omega, ih (fun i hi => h i (by omega)) hl]
      simp [h3]
    · have h3 : ¬ 8 ≤ 8 * (k + 1) - 1 - i := by omega
      have e1 : i / 8 = k := by omega
      have e2 : 8 * (k + 1) - 1 - i = 7 - i % 8 := by omega
      rw [e1, ← e2]
      simp [h3]
/-- The element of sixteen bytes. -/
def hof (f : Nat → Nat) : Nat := num16 f 16
theorem hof_lt (f : Nat → Nat) (h : ∀ i, i < 16 → f i < 256) : hof f < 2 ^ 128 := by
  have := num16_lt f 16 h
  rwa [show (256 : Nat) ^ 16 = 2 ^ 128 from by decide] at this
theorem hof_bit (f : Nat → Nat) (h : ∀ i, i < 16 → f i < 256) (i : Nat) (hi : i < 128) : hbit (hof f) i = (f (i / 8)).testBit (7 - i % 8) := num16_bit f 16 h i (by omega)
/-- The bytes of an element. -/
def hby (a i : Nat) : Nat := a / 256 ^ (15 - i) % 256
theorem hby_lt (a i : Nat) : hby a i < 256 := Nat.mod_lt _ (by omega)
theorem hby_bit (a i j : Nat) (hi : i < 16) (hj : j < 8) : (hby a i).testBit (7 - j) = hbit a (8 * i + j) := by
  unfold hby hbit
  rw [show (256 : Nat) = 2 ^ 8 from rfl, ← Nat.pow_mul, Nat.testBit_mod_two_pow, ← Nat.shiftRight_eq_div_pow, Nat.testBit_shiftRight]
  have h1 : 7 - j < 8 := by omega
  rw [decide_eq_true h1, Bool.true_and]
  congr 1
  omega
/-- Two elements of sixteen bytes each are one just if their bytes are. -/
theorem hof_hby (f : Nat → Nat) (h : ∀ i, i < 16 → f i < 256) (i : Nat) (hi : i < 16) : hby (hof f) i = f i := by
  apply Nat.eq_of_testBit_eq
  intro j
  by_cases hj : j < 8
  · have := hby_bit (hof f) i (7 - j) hi (by omega)
    rw [show 7 - (7 - j) = j from by omega] at this
    rw [this, hof_bit f h _ (by omega), show (8 * i + (7 - j)) / 8 = i from by omega, show 7 - (8 * i + (7 - j)) % 8 = j from by omega]
  · rw [Nat.testBit_lt_two_pow (small_lt (hby_lt _ _) (by omega)), Nat.testBit_lt_two_pow (small_lt (h i hi) (by omega))]
theorem hby_hof (a : Nat) (ha : a < 2 ^ 128) : hof (hby a) = a := by
  apply Nat.eq_of_testBit_eq
  intro j
  by_cases hj : j < 128
  · have h1 := hof_bit (hby a) (fun i _ => hby_lt a i) (127 - j) (by omega)
    unfold hbit at h1
    rw [show 127 - (127 - j) = j from by omega] at h1
    rw [h1]
    have h2 := hby_bit a ((127 - j) / 8) ((127 - j) % 8) (by omega) (by omega)
    rw [h2]
    unfold hbit
    congr 1
    omega
  · rw [Nat.testBit_lt_two_pow (Nat.lt_of_lt_of_le (hof_lt _ fun i _ => hby_lt a i) (Nat.pow_le_pow_right (by omega) (by omega))), Nat.testBit_lt_two_pow (Nat.lt_of_lt_of_le ha (Nat.pow_le_pow_right (by omega) (by omega)))]
/-- Sums go byte by byte. -/
theorem hof_xor (f g : Nat → Nat) (hf : ∀ i, i < 16 → f i < 256) (hg : ∀ i, i < 16 → g i < 256) : hof (fun i => f i ^^^ g i) = hof f ^^^ hof g := by
  have hfg : ∀ i, i < 16 → f i ^^^ g i < 256 := fun i hi => Nat.xor_lt_two_pow (n := 8) (hf i hi) (hg i hi)
  apply Nat.eq_of_testBit_eq
  intro j
  rw [Nat.testBit_xor]
  by_cases hj : j < 128
  · have h1 := hof_bit (fun i => f i ^^^ g i) hfg (127 - j) (by omega)
    have h2 := hof_bit f hf (127 - j) (by omega)
    have h3 := hof_bit g hg (127 - j) (by omega)
    unfold hbit at h1 h2 h3
    rw [show 127 - (127 - j) = j from by omega] at h1 h2 h3
    rw [h1, h2, h3, Nat.testBit_xor]
  · have b : ∀ n, n < 2 ^ 128 → n.testBit j = false := fun n hn => Nat.testBit_lt_two_pow (Nat.lt_of_lt_of_le hn (Nat.pow_le_pow_right (by omega) (by omega)))
    rw [b _ (hof_lt _ hfg), b _ (hof_lt _ hf), b _ (hof_lt _ hg)]; rfl
end Go.Proofs.Ytkfmgjipocmkjaa
namespace Go.Proofs.Ytkfmgjipocmkjaa
open Go Go.RowKit
set_option linter.unusedVariables false
set_option linter.unusedSimpArgs false

/-- A bit as a number. -/
def bn (b : Bool) : Nat := if b then 1 else 0
theorem bn_le (b : Bool) : bn b ≤ 1 := by cases b <;> decide
theorem bn_bit (a k : Nat) : a / 2 ^ k % 2 = bn (a.testBit k) := by
  rw [Nat.testBit_eq_decide_div_mod_eq]
  unfold bn
  have : a / 2 ^ k % 2 < 2 := Nat.mod_lt _ (by omega)
  by_cases h : a / 2 ^ k % 2 = 1
  · simp [h]
  · have h0 : a / 2 ^ k % 2 = 0 := by omega
    simp [h0]

theorem shr_tmod (a k : Nat) (ha : a < 256) : (wrap64 ((a : Int) / 2 ^ k)).tmod 2 = ((a / 2 ^ k % 2 : Nat) : Int) := by
  have e : (a : Int) / 2 ^ k = ((a / 2 ^ k : Nat) : Int) := by simp
  have h := Nat.div_le_self a (2 ^ k)
  rw [e]
  generalize a / 2 ^ k = q at *
  rw [IntWalk.wrap64_in _ (by omega), Int.tmod_eq_emod_of_nonneg (by omega)]
  omega

set_option maxRecDepth 100000 in
set_option maxHeartbeats 1000000 in
theorem gbit_any (f : Nat → Nat) (i : Nat) (w : World) (hf : B16 f) (hi : i < 128) :
    Calls Try.prog 73 #[.agg (aN 16 f), .int .i64 (i : Int)] w fun e w' => e = .returned (.int .i64 (bn (hbit (hof f) i) : Int)) ∧ Below w.heap.size w w' := by
  rw [hof_bit f hf i hi, ← bn_bit]
  obtain ⟨d, hd⟩ : ∃ d, d = i / 8 := ⟨_, rfl⟩
  obtain ⟨m, hm⟩ : ∃ m, m = i % 8 := ⟨_, rfl⟩
  obtain ⟨r, hr⟩ : ∃ r, r = 7 - m := ⟨_, rfl⟩
  rw [← hd, ← hm, ← hr]
  have hi0 : (0 : Int) ≤ (i : Int) := by omega
  have hi1 : (i : Int) < 128 := by omega
  have e1 : (i : Int) / 8 = (d : Int) := by omega
  have e2 : (i : Int) % 8 = (m : Int) := by omega
  have e3 : (7 : Int) - (m : Int) = (r : Int) := by omega
  have hd1 : d < 16 := by omega
  have hm1 : m < 8 := by omega
  have hr1 : r ≤ 7 := by omega
  have hdI : (d : Int) < 16 := by omega
  have h3 : H16 (w.alloc (.cells (aN 16 f) 35)) w.heap.size f := H16.newAt rfl
  have c0 := h3.cell d hd1
  have hB : Below w.heap.size w (w.alloc (.cells (aN 16 f) 35)) := (Below.refl _ _).alloc (Nat.le_refl _) _
  have hx := hf d hd1
  have HB := Lib.hid hB; clear hB h3 hd hm hr hf hi
  generalize f d = x at *
  go_enter Try.func73, Try.ntmps73
  go_wp2_with fail
  go_ret
  exact ⟨ret_int (shr_tmod x r hx), HB.out⟩

set_option maxRecDepth 100000 in
set_option maxHeartbeats 1000000 in
theorem gadd_any (f g : Nat → Nat) (w : World) (hf : B16 f) (hg : B16 g) :
    Calls Try.prog 35 #[.agg (aN 16 f), .agg (aN 16 g)] w fun e w' => e = .returned (.agg (aN 16 fun i => f i ^^^ g i)) ∧ Below w.heap.size w w' := by
  have HF := Lib.hid hf; clear hf
  have HG := Lib.hid hg; clear hg
  go_enter Try.func35, Try.ntmps35
  go_wp2_with fail
  go_loopw [5] (fun i wr => ∃ k : Nat, k ≤ 16 ∧ i = .int .i64 k ∧ Hid (H16 wr w.heap.size (addK f g k)) ∧ Hid (H16 wr (w.heap.size + 1) g) ∧ Hid (H16 wr (w.heap.size + 1 + 1) fun _ => 0) ∧ Hid (Below w.heap.size w wr)) (fun i _ => 16 - (intOf i).toNat)
  case atStart =>
    refine ⟨0, by omega, rfl, Lib.hid ?_, Lib.hid ?_, Lib.hid ?_, Lib.hid ((((Below.refl _ _).alloc (Nat.le_refl _) _).alloc (by simp) _).alloc (by simp; omega) _)⟩
    · exact H16.alloc _ (H16.alloc _ ((H16.newAt rfl).congr fun i _ => by simp [addK]))
    · refine H16.alloc _ ?_
      exact H16.newAt (w := w.alloc (.cells (aN 16 f) 35)) (by rw [World.size_alloc])
    · exact H16.newAt (w := (w.alloc (.cells (aN 16 f) 35)).alloc (.cells (aN 16 g) 35)) (b := w.heap.size + 1 + 1) (f := fun _ => 0) (by rw [World.size_alloc, World.size_alloc])
  case round =>
    obtain ⟨k, hk, rfl, H0, H1, H2, HB⟩ := hrel
    by_cases hlt : k < 16
    · have hk16 : (k : Int) < 16 := by omega
      have c0 := H0.out.cell k hlt
      have f0 := H0.out.free k
      have c1 := H1.out.cell k hlt
      have e0 : addK f g k k = f k := by simp [addK]
      rw [e0] at c0
      clear e0
      have hx : bits .xor .u8 (f k : Int) (g k : Int) = ((addK f g (k + 1) k : Nat) : Int) := by
        rw [xor_u8 _ _ (HF.out k hlt) (HG.out k hlt)]; simp [addK]
      go_wp2_with fail
      go_still_tail 9, (by kernel_rfl)
      change wpList _ _ _ _ _ wr.drew
      have f0' : wr.drew.frozen? ⟨w.heap.size, k, none⟩ = false := f0
      have c0' : wr.drew.cell? ⟨w.heap.size, k, none⟩ = some (.int .u8 (f k : Int)) := c0
      have H0' : Hid (H16 wr.drew w.heap.size (addK f g k)) := Lib.hid H0.out
      have H1' : Hid (H16 wr.drew (w.heap.size + 1) g) := Lib.hid H1.out
      have H2' : Hid (H16 wr.drew (w.heap.size + 1 + 1) fun _ => 0) := Lib.hid H2.out
      have HB' : Hid (Below w.heap.size w wr.drew) := Lib.hid HB.out.drew
      clear H0 H1 H2 HB c0 f0 c1
      generalize wr.drew = w2 at *
      go_wp2_with fail
      go_roundw
      case rel =>
        refine ⟨k + 1, by omega, by go_num, Lib.hid ?_, Lib.hid (H1'.out.other _ (by simp) _), Lib.hid (H2'.out.other _ (by simp; omega) _), Lib.hid (HB'.out.setCell (by simp) _)⟩
        exact H0'.out.set k _ hlt rfl fun i hi hik => by
          unfold addK
          by_cases h1 : i < k
          · rw [if_pos h1, if_pos (by omega)]
          · rw [if_neg h1, if_neg (by omega)]
      case measure => simp [intOf]; omega
    · obtain rfl : k = 16 := by omega
      have d0 : wr.heap[w.heap.size]? = some (.cells (aN 16 fun i => f i ^^^ g i) 35 (0, 0)) := H0.out.congr (addK_full _ _)
      have d1 : wr.heap[w.heap.size + 1 + 1]? = some (.cells (aN 16 fun _ => 0) 35 (0, 0)) := H2.out
      go_wp2_with (first
        | (refine wpList_load_row rfl 35 (.tmp 2) rfl w.heap.size rfl 35 (aN 16 fun i => f i ^^^ g i) (0, 0) (.array 16 5) d0 Try.underlying35 rfl (by rw [aN_size]; kernel_rfl) ?_)
        | (refine wpList_store_row rfl 35 (.tmp 4) (.tmp 19) rfl (w.heap.size + 1 + 1) (aN 16 fun i => f i ^^^ g i) rfl rfl 35 _ d1 (by rw [aN_size]; kernel_rfl) (by simp only [aN_size]) (aN_one _ _) ?_))
      refine bodyPost_ret (v := .agg (aN 16 fun i => f i ^^^ g i)) (results_cell_row (p := 4) (ty := 35) (by kernel_rfl) _ _ (w.heap.size + 1 + 1) 35 (aN 16 fun i => f i ^^^ g i) (0, 0) (.array 16 5) rfl ?_ Try.underlying35 rfl (by rw [aN_size]; kernel_rfl)) rfl ⟨rfl, ?_⟩
      · exact setRow_heap _ _ _ _ _ _ d1
      · exact below_row HB.out _ (by omega) _
end Go.Proofs.Ytkfmgjipocmkjaa
namespace Go.Proofs.Ytkfmgjipocmkjaa
open Go Go.RowKit
set_option linter.unusedVariables false
set_option linter.unusedSimpArgs false

theorem new_rowG (w : World) (f : Nat → Nat) : H16 ((w.alloc (.cells #[.int .u8 0, .int .u8 0, .int .u8 0, .int .u8 0, .int .u8 0, .int .u8 0, .int .u8 0, .int .u8 0, .int .u8 0, .int .u8 0, .int .u8 0, .int .u8 0, .int .u8 0, .int .u8 0, .int .u8 0, .int .u8 0] 35)).setRow w.heap.size (aN 16 f)) w.heap.size f ∧ Below w.heap.size w ((w.alloc (.cells #[.int .u8 0, .int .u8 0, .int .u8 0, .int .u8 0, .int .u8 0, .int .u8 0, .int .u8 0, .int .u8 0, .int .u8 0, .int .u8 0, .int .u8 0, .int .u8 0, .int .u8 0, .int .u8 0, .int .u8 0, .int .u8 0] 35)).setRow w.heap.size (aN 16 f)) :=
  ⟨setRow_heap _ _ _ _ _ _ (H16.newAt (f := fun _ => 0) rfl), below_row ((Below.refl _ _).alloc (Nat.le_refl _) _) _ (Nat.le_refl _) _⟩
theorem new_dG (w : World) : (w.alloc (.cells #[.int .u8 0, .int .u8 0, .int .u8 0, .int .u8 0, .int .u8 0, .int .u8 0, .int .u8 0, .int .u8 0, .int .u8 0, .int .u8 0, .int .u8 0, .int .u8 0, .int .u8 0, .int .u8 0, .int .u8 0, .int .u8 0] 35)).heap[w.heap.size]? = some (.cells (aN 16 fun _ => 0) 35 (0, 0)) := H16.newAt (f := fun _ => 0) rfl

theorem own_lowerG {w : World} {base base' e n : Nat} {v : Value} {xs : List Value} (h : w.ownsRow base e 1 v n xs) (hb : base' ≤ base) : w.ownsRow base' e 1 v n xs :=
  ⟨h.1, h.2.imp id fun ⟨g, cap, cur, hv, hg, rest⟩ => ⟨g, cap, cur, hv, Nat.le_trans hb hg, rest⟩⟩

set_option maxRecDepth 100000 in
set_option maxHeartbeats 8000000 in
theorem rtag_any (E : (Nat → Nat) → Nat → Nat) (hE : ∀ b, B16 b → B16 (E b)) (K : Option Addr) (kl : List Nat) (nk ck : Nat)
    (hEnc : ∀ (b : Nat → Nat) (W : World), B16 b → Rd W W.heap.size K (vn kl) → Calls Try.prog 33 #[.slice K nk ck, .agg (aN 16 b)] W fun e w' => e = .returned (.agg (aN 16 (E b))) ∧ Below W.heap.size W w')
    (N : Option Addr) (nl : List Nat) (cn : Nat) (hnl : nl.length = 12) (hnv : ∀ x ∈ nl, x < 256) (A B : Option Addr) (al bl : List Nat) (na nb ca cb : Nat) (S : Nat → Nat) (hS : B16 S)
    (hSum : ∀ W : World, Rd W W.heap.size A (vn al) → Rd W W.heap.size B (vn bl) → Calls Try.prog 34 #[.agg (aN 16 (E fun _ => 0)), .slice A na ca, .slice B nb cb] W fun e w' => e = .returned (.agg (aN 16 S)) ∧ Below W.heap.size W w') (w : World)
    (hk : Rd w w.heap.size K (vn kl)) (h1 : Rd w w.heap.size N (vn nl)) (h2 : Rd w w.heap.size A (vn al)) (h3 : Rd w w.heap.size B (vn bl)) :
    Calls Try.prog 21 #[.slice K nk ck, .slice N 12 cn, .slice A na ca, .slice B nb cb] w fun e w' => ∃ v, e = .returned v ∧ w'.ownsRow w.heap.size 5 1 v 16 (vl 16 fun i => S i ^^^ E (stF nl) i) ∧ Below w.heap.size w w' := by
  obtain ⟨j0, hi, hz0, hz1, hz2⟩ := info_parts info_b
  have HJ := Lib.hid (And.intro hi (And.intro hz0 (And.intro hz1 hz2))); clear hi hz0 hz1 hz2
  have hz : B16 fun _ => 0 := fun _ _ => (by decide : (0 : Nat) < 256)
  have c1 := hEnc (fun _ => 0) w hz hk
  have c2 : ∀ W : World, Below w.heap.size w W → Calls Try.prog 34 #[.agg (aN 16 (E fun _ => 0)), .slice A na ca, .slice B nb cb] W fun e w' => e = .returned (.agg (aN 16 S)) ∧ Below W.heap.size W w' := fun W hb => hSum W (h2.go hb) (h3.go hb)
  have c3 : ∀ W : World, Below w.heap.size w W → Calls Try.prog 31 #[.slice N 12 cn] W fun e w' => e = .returned (.agg (aN 16 (stF nl))) ∧ Below W.heap.size W w' := fun W hb => rfirst_any N nl cn hnl W (h1.go hb)
  have c4 : ∀ W : World, Below w.heap.size w W → Calls Try.prog 33 #[.slice K nk ck, .agg (aN 16 (stF nl))] W fun e w' => e = .returned (.agg (aN 16 (E (stF nl)))) ∧ Below W.heap.size W w' := fun W hb => hEnc (stF nl) W (stF_lt nl hnv) (hk.go hb)
  have hM := hE (stF nl) (stF_lt nl hnv)
  obtain ⟨M, hMM⟩ : ∃ M, M = E (stF nl) := ⟨_, rfl⟩
  obtain ⟨st, hst⟩ : ∃ st, st = stF nl := ⟨_, rfl⟩
  rw [← hMM] at c4 hM
  rw [← hst] at c3 c4
  rw [← hMM]
  obtain ⟨Z, hZZ⟩ : ∃ Z, Z = E fun _ => 0 := ⟨_, rfl⟩
  rw [← hZZ] at c1 c2
  clear hMM hst hZZ hSum hEnc hE hk h1 h2 h3 hnl hnv hz
  have HE0 := Lib.hid c1; clear c1
  have HSU := Lib.hid c2; clear c2
  have HFI := Lib.hid c3; clear c3
  have HEM := Lib.hid c4; clear c4
  have HSL := Lib.hid hS; clear hS
  have HML := Lib.hid hM; clear hM
  go_enter Try.func21, Try.ntmps21
  go_wp2_with fail
  rw [zero16]
  refine HE0.out.mono ?_
  rintro e w1 ⟨rfl, hb1⟩
  have dS := new_dG w1
  go_upto_region 2 with (refine wpList_store_row rfl 35 (.tmp 9) (.tmp 15) rfl w1.heap.size (aN 16 (Z)) rfl rfl 35 _ dS (by rw [aN_size]; exact blk_size) (by simp only [aN_size]) (aN_one _ _) ?_)
  obtain ⟨hN, hbN⟩ := new_rowG w1 Z
  have HB : Hid (Below w.heap.size w ((w1.alloc (.cells #[.int .u8 0, .int .u8 0, .int .u8 0, .int .u8 0, .int .u8 0, .int .u8 0, .int .u8 0, .int .u8 0, .int .u8 0, .int .u8 0, .int .u8 0, .int .u8 0, .int .u8 0, .int .u8 0, .int .u8 0, .int .u8 0] 35)).setRow w1.heap.size (aN 16 Z))) := Lib.hid (hb1.trans (hbN.mono hb1.size))
  clear dS hbN hb1
  generalize (w1.alloc (.cells #[.int .u8 0, .int .u8 0, .int .u8 0, .int .u8 0, .int .u8 0, .int .u8 0, .int .u8 0, .int .u8 0, .int .u8 0, .int .u8 0, .int .u8 0, .int .u8 0, .int .u8 0, .int .u8 0, .int .u8 0, .int .u8 0] 35)).setRow w1.heap.size (aN 16 Z) = u2 at *
  generalize w1.heap.size = b9 at *
  have d9 : u2.heap[b9]? = some (.cells (aN 16 Z) 35 (0, 0)) := hN
  clear hN
  go_wp2_with (refine wpList_load_row rfl 35 (.tmp 9) rfl b9 rfl 35 (aN 16 (Z)) (0, 0) (.array 16 5) d9 Try.underlying35 rfl (by rw [aN_size]; exact blk_size) ?_)
  refine (HSU.out u2 HB.out).mono ?_
  rintro e w2 ⟨rfl, hb1⟩
  clear d9
  have dS := new_dG w2
  go_upto_region 3 with (refine wpList_store_row rfl 35 (.tmp 10) (.tmp 19) rfl w2.heap.size (aN 16 (S)) rfl rfl 35 _ dS (by rw [aN_size]; exact blk_size) (by simp only [aN_size]) (aN_one _ _) ?_)
  obtain ⟨hN, hbN⟩ := new_rowG w2 S
  have HLO : Hid (w.heap.size ≤ w2.heap.size) := Lib.hid (Nat.le_trans HB.out.size hb1.size)
  replace HB : Hid (Below w.heap.size w ((w2.alloc (.cells #[.int .u8 0, .int .u8 0, .int .u8 0, .int .u8 0, .int .u8 0, .int .u8 0, .int .u8 0, .int .u8 0, .int .u8 0, .int .u8 0, .int .u8 0, .int .u8 0, .int .u8 0, .int .u8 0, .int .u8 0, .int .u8 0] 35)).setRow w2.heap.size (aN 16 S))) := Lib.hid (HB.out.trans ((hb1.trans (hbN.mono hb1.size)).mono HB.out.size))
  have H10 := Lib.hid hN; clear hN
  clear dS hbN hb1
  generalize (w2.alloc (.cells #[.int .u8 0, .int .u8 0, .int .u8 0, .int .u8 0, .int .u8 0, .int .u8 0, .int .u8 0, .int .u8 0, .int .u8 0, .int .u8 0, .int .u8 0, .int .u8 0, .int .u8 0, .int .u8 0, .int .u8 0, .int .u8 0] 35)).setRow w2.heap.size (aN 16 S) = u3 at *
  generalize w2.heap.size = b10 at *
  simp only [Act.put]
  go_cut [] (fun wx => Hid (H16 wx b10 (fun i => S i ^^^ M i)) ∧ Hid (Below w.heap.size w wx))
  case first =>
    refine wp_region_noPanic ?_
    refine wp_region_held_drew (S := (fun _ => True)) (by kernel_rfl) ?_ (fun hHeld => ?_)
    · trivial
    have hs : Below w.heap.size w u3.drew := HB.out.drew
    have h10 : H16 u3.drew b10 S := H10.out
    generalize u3.drew = ws at *
    refine wpAnyH_take (i := 1) (v := ?_) rfl (by kernel_rfl) (by kernel_rfl) (by kernel_rfl) (fun _ _ _ h => h) (Or.inl ⟨by rfl, ?_⟩) hHeld ?_
    rotate_left
    · intro w' hSw
      (try dsimp only at hSw)
      go_simp
      try with_reducible rfl
    try simp only [Act.put, zq1, zq2, zq3, zq4, zq5, zq6]
    refine wpAnyH_take (i := 2) (v := ?_) rfl (by kernel_rfl) (by kernel_rfl) (by kernel_rfl) (fun _ _ _ h => h) (Or.inl ⟨by rfl, ?_⟩) hHeld ?_
    rotate_left
    · intro w' hSw
      (try dsimp only at hSw)
      go_simp
      try with_reducible rfl
    try simp only [Act.put, zq1, zq2, zq3, zq4, zq5, zq6]
    refine wpAnyH_ready (rs := [0, 3]) (by kernel_rfl) (by simp) ?_
    refine AllReadyH.cons rfl (fun K hK => ?_) (AllReadyH.cons rfl (fun K hK => ?_) (AllReadyH.nil))
    · try simp only [zq1, zq2, zq3]
      rw [if_pos (by rfl)]
      have hrange := (row16_range h10)
      have hinfo : (Try.prog.info? 35).map (·.size) = some (vl 16 (S)).length := (by rw [vl_len]; exact blk_size)
      refine wp_load_mid 35 (.tmp 10) ?hop (b10) (0) ?hx (vl 16 (S)) (.array 16 5) ?hr ?hu rfl ?hi ?_
      case hop => rfl
      case hx => rfl
      case hr => exact hrange
      case hu => exact Try.underlying35
      case hi => exact hinfo
      clear hrange hinfo
      try simp only [Act.put, zq1, zq2, zq3, zq4, zq5, zq6]
      refine hK.out _ _ ?_ (fun hHeld => ?_)
      · trivial
      clear hK K
      try simp only [Act.put, zq1, zq2, zq3, zq4, zq5, zq6]
      refine wpAnyH_ready (rs := [3]) (by kernel_rfl) (by simp) ?_
      refine AllReadyH.cons rfl (fun K hK => ?_) (AllReadyH.nil)
      try simp only [zq1, zq2, zq3]
      go_simp
      refine (HFI.out ws (hs)).mono ?_
      rintro e wc1 ⟨rfl, hb2⟩
      have hw3 := hs.trans (hb2.mono hs.size)
      have hz4 := H16.call hb2 h10
      refine hK.out _ _ ?_ (fun hHeld => ?_)
      · trivial
      clear hK K
      try simp only [Act.put, zq1, zq2, zq3, zq4, zq5, zq6]
      clear hb2
      refine wpAnyH_ready (rs := [4]) (by kernel_rfl) (by simp) ?_
      refine AllReadyH.cons rfl (fun K hK => ?_) (AllReadyH.nil)
      try simp only [zq1, zq2, zq3]
      go_simp
      refine (HEM.out wc1 (hw3)).mono ?_
      rintro e wc5 ⟨rfl, hb6⟩
      have hw7 := hw3.trans (hb6.mono hw3.size)
      have hz8 := H16.call hb6 hz4
      refine hK.out _ _ ?_ (fun hHeld => ?_)
      · trivial
      clear hK K
      try simp only [Act.put, zq1, zq2, zq3, zq4, zq5, zq6]
      clear hb6
      refine wpAnyH_ready (rs := [5]) (by kernel_rfl) (by simp) ?_
      refine AllReadyH.cons rfl (fun K hK => ?_) (AllReadyH.nil)
      try simp only [zq1, zq2, zq3]
      go_simp
      refine (gadd_any S M wc5 HSL.out HML.out).mono ?_
      rintro e wc9 ⟨rfl, hb10⟩
      rw [aN_vl 16 (fun i => S i ^^^ M i)]
      have hw11 := hw7.trans (hb10.mono hw7.size)
      have hz12 := H16.call hb10 hz8
      refine hK.out _ _ ?_ (fun hHeld => ?_)
      · trivial
      clear hK K
      try simp only [Act.put, zq1, zq2, zq3, zq4, zq5, zq6]
      clear hb10
      refine wpAnyH_ready (rs := [6]) (by kernel_rfl) (by simp) ?_
      refine AllReadyH.cons rfl (fun K hK => ?_) (AllReadyH.nil)
      try simp only [zq1, zq2, zq3]
      rw [if_pos (by rfl)]
      refine wp_store_mid 35 (.tmp 10) (.tmp 25) rfl (b10) (0) (vl 16 (fun i => S i ^^^ M i)).toArray rfl rfl (H16.there hz12) (by rw [List.size_toArray, vl_len]; exact blk_size) (all_oneCell_toArray (vl_one _ _)) ?_
      simp only [Act.put, zq1, zq2, zq3, zq4, zq5, zq6, List.toList_toArray]
      refine hK.out _ _ ?_ (fun hHeld => ?_)
      · trivial
      clear hK K
      try simp only [Act.put, zq1, zq2, zq3, zq4, zq5, zq6]
      refine wpAnyH_done (by kernel_rfl) ?_ _
      refine NoPanic.normal ?_
      go_wp2_with fail
      go_meet
      exact ⟨Lib.hid (H16.store hz12 (fun i => S i ^^^ M i)), Lib.hid (below_store hw11 HLO.out _ 0)⟩
    · try simp only [zq1, zq2, zq3]
      go_simp
      refine (HFI.out ws (hs)).mono ?_
      rintro e wc13 ⟨rfl, hb14⟩
      have hw15 := hs.trans (hb14.mono hs.size)
      have hz16 := H16.call hb14 h10
      refine hK.out _ _ ?_ (fun hHeld => ?_)
      · trivial
      clear hK K
      try simp only [Act.put, zq1, zq2, zq3, zq4, zq5, zq6]
      clear hb14
      refine wpAnyH_ready (rs := [0, 4]) (by kernel_rfl) (by simp) ?_
      refine AllReadyH.cons rfl (fun K hK => ?_) (AllReadyH.cons rfl (fun K hK => ?_) (AllReadyH.nil))
      · try simp only [zq1, zq2, zq3]
        rw [if_pos (by rfl)]
        have hrange := (row16_range hz16)
        have hinfo : (Try.prog.info? 35).map (·.size) = some (vl 16 (S)).length := (by rw [vl_len]; exact blk_size)
        refine wp_load_mid 35 (.tmp 10) ?hop (b10) (0) ?hx (vl 16 (S)) (.array 16 5) ?hr ?hu rfl ?hi ?_
        case hop => rfl
        case hx => rfl
        case hr => exact hrange
        case hu => exact Try.underlying35
        case hi => exact hinfo
        clear hrange hinfo
        try simp only [Act.put, zq1, zq2, zq3, zq4, zq5, zq6]
        refine hK.out _ _ ?_ (fun hHeld => ?_)
        · trivial
        clear hK K
        try simp only [Act.put, zq1, zq2, zq3, zq4, zq5, zq6]
        refine wpAnyH_ready (rs := [4]) (by kernel_rfl) (by simp) ?_
        refine AllReadyH.cons rfl (fun K hK => ?_) (AllReadyH.nil)
        try simp only [zq1, zq2, zq3]
        go_simp
        refine (HEM.out wc13 (hw15)).mono ?_
        rintro e wc17 ⟨rfl, hb18⟩
        have hw19 := hw15.trans (hb18.mono hw15.size)
        have hz20 := H16.call hb18 hz16
        refine hK.out _ _ ?_ (fun hHeld => ?_)
        · trivial
        clear hK K
        try simp only [Act.put, zq1, zq2, zq3, zq4, zq5, zq6]
        clear hb18
        refine wpAnyH_ready (rs := [5]) (by kernel_rfl) (by simp) ?_
        refine AllReadyH.cons rfl (fun K hK => ?_) (AllReadyH.nil)
        try simp only [zq1, zq2, zq3]
        go_simp
        refine (gadd_any S M wc17 HSL.out HML.out).mono ?_
        rintro e wc21 ⟨rfl, hb22⟩
        rw [aN_vl 16 (fun i => S i ^^^ M i)]
        have hw23 := hw19.trans (hb22.mono hw19.size)
        have hz24 := H16.call hb22 hz20
        refine hK.out _ _ ?_ (fun hHeld => ?_)
        · trivial
        clear hK K
        try simp only [Act.put, zq1, zq2, zq3, zq4, zq5, zq6]
        clear hb22
        refine wpAnyH_ready (rs := [6]) (by kernel_rfl) (by simp) ?_
        refine AllReadyH.cons rfl (fun K hK => ?_) (AllReadyH.nil)
        try simp only [zq1, zq2, zq3]
        rw [if_pos (by rfl)]
        refine wp_store_mid 35 (.tmp 10) (.tmp 25) rfl (b10) (0) (vl 16 (fun i => S i ^^^ M i)).toArray rfl rfl (H16.there hz24) (by rw [List.size_toArray, vl_len]; exact blk_size) (all_oneCell_toArray (vl_one _ _)) ?_
        simp only [Act.put, zq1, zq2, zq3, zq4, zq5, zq6, List.toList_toArray]
        refine hK.out _ _ ?_ (fun hHeld => ?_)
        · trivial
        clear hK K
        try simp only [Act.put, zq1, zq2, zq3, zq4, zq5, zq6]
        refine wpAnyH_done (by kernel_rfl) ?_ _
        refine NoPanic.normal ?_
        go_wp2_with fail
        go_meet
        exact ⟨Lib.hid (H16.store hz24 (fun i => S i ^^^ M i)), Lib.hid (below_store hw23 HLO.out _ 0)⟩
      · try simp only [zq1, zq2, zq3]
        go_simp
        refine (HEM.out wc13 (hw15)).mono ?_
        rintro e wc25 ⟨rfl, hb26⟩
        have hw27 := hw15.trans (hb26.mono hw15.size)
        have hz28 := H16.call hb26 hz16
        refine hK.out _ _ ?_ (fun hHeld => ?_)
        · trivial
        clear hK K
        try simp only [Act.put, zq1, zq2, zq3, zq4, zq5, zq6]
        clear hb26
        refine wpAnyH_ready (rs := [0]) (by kernel_rfl) (by simp) ?_
        refine AllReadyH.cons rfl (fun K hK => ?_) (AllReadyH.nil)
        try simp only [zq1, zq2, zq3]
        rw [if_pos (by rfl)]
        have hrange := (row16_range hz28)
        have hinfo : (Try.prog.info? 35).map (·.size) = some (vl 16 (S)).length := (by rw [vl_len]; exact blk_size)
        refine wp_load_mid 35 (.tmp 10) ?hop (b10) (0) ?hx (vl 16 (S)) (.array 16 5) ?hr ?hu rfl ?hi ?_
        case hop => rfl
        case hx => rfl
        case hr => exact hrange
        case hu => exact Try.underlying35
        case hi => exact hinfo
        clear hrange hinfo
        try simp only [Act.put, zq1, zq2, zq3, zq4, zq5, zq6]
        refine hK.out _ _ ?_ (fun hHeld => ?_)
        · trivial
        clear hK K
        try simp only [Act.put, zq1, zq2, zq3, zq4, zq5, zq6]
        refine wpAnyH_ready (rs := [5]) (by kernel_rfl) (by simp) ?_
        refine AllReadyH.cons rfl (fun K hK => ?_) (AllReadyH.nil)
        try simp only [zq1, zq2, zq3]
        go_simp
        refine (gadd_any S M wc25 HSL.out HML.out).mono ?_
        rintro e wc29 ⟨rfl, hb30⟩
        rw [aN_vl 16 (fun i => S i ^^^ M i)]
        have hw31 := hw27.trans (hb30.mono hw27.size)
        have hz32 := H16.call hb30 hz28
        refine hK.out _ _ ?_ (fun hHeld => ?_)
        · trivial
        clear hK K
        try simp only [Act.put, zq1, zq2, zq3, zq4, zq5, zq6]
        clear hb30
        refine wpAnyH_ready (rs := [6]) (by kernel_rfl) (by simp) ?_
        refine AllReadyH.cons rfl (fun K hK => ?_) (AllReadyH.nil)
        try simp only [zq1, zq2, zq3]
        rw [if_pos (by rfl)]
        refine wp_store_mid 35 (.tmp 10) (.tmp 25) rfl (b10) (0) (vl 16 (fun i => S i ^^^ M i)).toArray rfl rfl (H16.there hz32) (by rw [List.size_toArray, vl_len]; exact blk_size) (all_oneCell_toArray (vl_one _ _)) ?_
        simp only [Act.put, zq1, zq2, zq3, zq4, zq5, zq6, List.toList_toArray]
        refine hK.out _ _ ?_ (fun hHeld => ?_)
        · trivial
        clear hK K
        try simp only [Act.put, zq1, zq2, zq3, zq4, zq5, zq6]
        refine wpAnyH_done (by kernel_rfl) ?_ _
        refine NoPanic.normal ?_
        go_wp2_with fail
        go_meet
        exact ⟨Lib.hid (H16.store hz32 (fun i => S i ^^^ M i)), Lib.hid (below_store hw31 HLO.out _ 0)⟩
  case rest =>
    obtain ⟨h10, hbw⟩ := hcut
    obtain ⟨u4, rfl⟩ : ∃ u4 : World, u4 = wc := ⟨_, rfl⟩
    have hsz4 : b10 < u4.heap.size := h10.out.lt
    obtain ⟨X, hX⟩ : ∃ X : Nat → Nat, X = fun i => S i ^^^ M i := ⟨_, rfl⟩
    rw [← hX] at h10
    have HXX := Lib.hid hX; clear hX
    clear H10 HB HE0 HSU HFI HEM
    go_wp2_with fail
    go_loopw [11, 12] (fun v i wr => ∃ k : Nat, k ≤ 16 ∧ i = .int .i64 (k : Int) ∧ Hid (wr.ownsRow u4.heap.size 5 1 v k (vl k X)) ∧ Hid (H16 wr b10 X) ∧ Hid (Below w.heap.size w wr) ∧ u4.heap.size ≤ wr.heap.size) (fun _ i _ => 16 - (intOf i).toNat)
    case atStart => exact ⟨0, by omega, rfl, Lib.hid (World.ownsRow_nil _ _ _ _), h10, hbw, Nat.le_refl _⟩
    case round =>
      rename_i wr _ _
      obtain ⟨k, hk, rfl, HO, HX, HBr, hsz⟩ := hrel
      by_cases hlt : k < 16
      · have hki : (k : Int) < 16 := by omega
        have hki0 : (0 : Int) ≤ (k : Int) := by omega
        obtain ⟨x, hx⟩ : ∃ x, x = X k := ⟨_, rfl⟩
        have cx : wr.cell? ⟨b10, k, none⟩ = some (.int .u8 (x : Int)) := by rw [hx]; exact HX.out.cell k hlt
        have eL : vl (k + 1) X = vl k X ++ [.int .u8 (x : Int)] := by rw [hx]; simp [vl, List.range_succ]
        have HEL := Lib.hid eL; clear eL hx
        have hown := HO.out
        have fb := own_far hown (g := b10) (by omega)
        have hi := HJ.out.1
        have hz0 := HJ.out.2.1
        have hz1 := HJ.out.2.2.1
        have hz2 := HJ.out.2.2.2
        have hwr : IntKind.i64.wrap ((k : Int) + 1) = (k : Int) + 1 := IntWalk.i64_in _ (by omega)
        have hsb := HBr.out.size
        go_wp2_with (at_builtin; go_loud (refine wpList_append_lies _ rfl (.tmp 30) (.tmp 34) _ rfl u4.heap.size 5 j0 _ 1 1 Try.underlying22 hi hz0 hz1 hz2 rfl (by omega) u11 k _ rfl (hown.alloc _) ⟨_, 0, none⟩ 1 1 [.int .u8 (x : Int)] rfl rfl (World.news_of_block (cs := #[.int .u8 (x : Int)]) (t := 5) (fr := (0, 0)) (heap_alloc_new _ _)) (by simp [Value.oneCell']) (by omega) (by unfold maxLen; omega) (by omega) (by simp; omega) (wr.heap.size + 1) (by simp) ?_; intro gg cap w1 hown1 hgrow hat hlt1))
        go_roundw
        case rel =>
          refine ⟨k + 1, by omega, by go_num, Lib.hid ?_, Lib.hid ?_, Lib.hid ?_, ?_⟩
          · rw [HEL.out]; exact hown1
          · exact (hgrow.block b10 (by simp; omega) (fun e => fb e)).trans (H16.alloc _ HX.out)
          · exact ((HBr.out.alloc HBr.out.size _).grown hgrow (by have := HBr.out.size; simp; omega) (fun k hk => by have := (hown.lt k hk).1; have := hbw.out.size; omega))
          · have := hgrow.size; simp at this; omega
        case measure => simp [intOf]; omega
      · obtain rfl : k = 16 := by omega
        go_wp2_with fail
        go_ret
        exact ⟨_, rfl, by have := own_lowerG HO.out hbw.out.size; rw [HXX.out] at this; exact this, HBr.out⟩
end Go.Proofs.Ytkfmgjipocmkjaa

namespace Go.Proofs.Ytkfmgjipocmkjaa
open Go Go.RowKit
set_option linter.unusedVariables false
set_option linter.unusedSimpArgs false

theorem nbits_xor (a b : Nat) (ha : a < 256) (hb : b < 256) : bits .xor .u8 (a : Int) (b : Int) = ((a ^^^ b : Nat) : Int) := by
  have h : bits .xor .u8 (a : Int) (b : Int) = IntKind.u8.wrap (((BitVec.ofInt 8 (a : Int) ^^^ BitVec.ofInt 8 (b : Int)).toNat : Nat) : Int) := rfl
  rw [h, BitVec.toNat_xor, bv_nat _ _ ha, bv_nat _ _ hb]
  exact IntWalk.u8_in _ (by have : a ^^^ b < 2 ^ 8 := Nat.xor_lt_two_pow ha hb; omega)

theorem mul_y (y : Nat) (hy : y < 256) : bits .xor .u8 ((y : Int) * 2 % 256) (bits .and .u8 27 (-((y : Int) / 128) % 256)) = ((xt y : Nat) : Int) := by
  have := all256 (p := fun y => bits .xor .u8 ((y : Int) * 2 % 256) (bits .and .u8 27 (-((y : Int) / 128) % 256)) == ((xt y : Nat) : Int)) (by decide +kernel) y hy
  simpa using this
theorem and_one (x : Nat) (hx : x < 256) : bits .and .u8 (x : Int) 1 = if x.testBit 0 then 1 else 0 := by
  have := all256 (p := fun x => bits .and .u8 (x : Int) 1 == if x.testBit 0 then 1 else 0) (by decide +kernel) x hx
  simpa using this
theorem and_all (y : Nat) (hy : y < 256) : bits .and .u8 (y : Int) 255 = (y : Int) := by
  have := all256 (p := fun y => bits .and .u8 (y : Int) 255 == (y : Int)) (by decide +kernel) y hy
  simpa using this
theorem and_none (y : Nat) (hy : y < 256) : bits .and .u8 (y : Int) 0 = 0 := by
  have := all256 (p := fun y => bits .and .u8 (y : Int) 0 == 0) (by decide +kernel) y hy
  simpa using this
theorem mul_p (x y : Nat) (hx : x < 256) (hy : y < 256) : bits .and .u8 (y : Int) (-bits .and .u8 (x : Int) 1 % 256) = ((if x.testBit 0 then y else 0 : Nat) : Int) := by
  rw [and_one x hx]
  by_cases h : x.testBit 0 = true
  · simp only [h, if_true]; exact and_all y hy
  · simp only [h]; exact and_none y hy

set_option maxRecDepth 100000 in
set_option maxHeartbeats 400000 in
theorem mul_any (a b : Nat) (w : World) (ha : a < 256) (hb : b < 256) :
    Calls Try.prog 77 #[.int .u8 (a : Int), .int .u8 (b : Int)] w fun e w' => e = .returned (.int .u8 (gm a b : Int)) ∧ w' = w := by
  go_enter Try.func77, Try.ntmps77
  go_wp2
  go_loop [0, 1, 5, 6] (fun x y p i => ∃ k m : Nat, k ≤ 8 ∧ m < 256 ∧ Hid (m = a >>> k) ∧ i = .int .i64 k ∧ x = .int .u8 (m : Int) ∧ y = .int .u8 (it xt k b : Int) ∧ p = .int .u8 (gL xt Nat.testBit k a b : Int)) (fun _ _ _ i => 8 - (intOf i).toNat)
  case atStart => exact ⟨0, a, Nat.zero_le _, ha, Lib.hid rfl, rfl, rfl, rfl, rfl⟩
  case round =>
    obtain ⟨k, m, hk, hm, HM, rfl, rfl, rfl, rfl⟩ := hrel
    have hy := it_lt k b hb
    have hp := gL_lt k a b hb
    by_cases hlt : k < 8
    · go_wp2
      go_round
      case rel =>
        refine ⟨k + 1, m / 2, by omega, by omega, Lib.hid ?_, by go_num, ?_, ?_, ?_⟩
        · rw [HM.out, Nat.shiftRight_succ]
        · go_num
        · rw [mul_y _ hy]; rfl
        · rw [mul_p _ _ hm hy, nbits_xor _ _ hp (by split <;> omega), gL]
          rw [HM.out, Nat.testBit_shiftRight, Nat.add_zero]
      case measure => simp [intOf]; omega
    · obtain rfl : k = 8 := by omega
      go_wp2
      go_ret
      exact ⟨rfl, rfl⟩

theorem bt_test (b k : Nat) (hk : k < 8) : b.testBit k = decide (bt b k = 1) := by
  rw [Nat.testBit_eq_decide_div_mod_eq, bt, Nat.mod_eq_of_lt hk]
theorem w64 (a : Nat) (h : a < 9223372036854775808) : IntKind.i64.wrap (a : Int) = (a : Int) := IntWalk.i64_in _ (by omega)
theorem w64n (a : Nat) (h : a < 9223372036854775808) : wrap64 (a : Int) = (a : Int) := IntWalk.wrap64_in _ (by omega)
theorem shl64 (a k m : Nat) (ha : a < 2 ^ m) (h : m + k ≤ 62) : wrap64 ((a : Int) * 2 ^ k) = ((a <<< k : Nat) : Int) := by
  have h1 := shl_lt a k m ha
  have h2 : 2 ^ (m + k) ≤ 2 ^ 62 := Nat.pow_le_pow_right (by omega) h
  have e : ((a : Int) * 2 ^ k) = ((a <<< k : Nat) : Int) := by rw [Nat.shiftLeft_eq]; simp
  rw [e]
  exact w64n _ (by omega)
theorem xor64 (a b : Nat) (ha : a < 2 ^ 62) (hb : b < 2 ^ 62) : bits .xor .i64 (a : Int) (b : Int) = ((a ^^^ b : Nat) : Int) := by
  have h : bits .xor .i64 (a : Int) (b : Int) = IntKind.i64.wrap (((BitVec.ofInt 64 (a : Int) ^^^ BitVec.ofInt 64 (b : Int)).toNat : Nat) : Int) := rfl
  rw [h, BitVec.toNat_xor, bv_nat _ _ (by omega), bv_nat _ _ (by omega)]
  exact w64 _ (by have := Nat.xor_lt_two_pow ha hb; omega)

theorem one_of {n : Nat} (h : ((n : Int) == 1) = true) : n = 1 := by
  rw [beq_iff_eq] at h; omega
theorem not_one_of {n : Nat} (h : ((n : Int) == 1) = false) : n ≠ 1 := by
  rw [beq_eq_false_iff_ne] at h; omega
theorem ctmod (a k : Nat) : ((a : Int) / 2 ^ k).tmod 2 = ((a / 2 ^ k % 2 : Nat) : Int) := by
  have h : (a : Int) / 2 ^ k = ((a / 2 ^ k : Nat) : Int) := by simp
  rw [h, Int.tmod_eq_emod_of_nonneg (Int.natCast_nonneg _)]
  rfl
theorem w64d (a k : Nat) (h : a < 9223372036854775808) : wrap64 ((a : Int) / 2 ^ k) = (a : Int) / 2 ^ k := by
  have e : (a : Int) / 2 ^ k = ((a / 2 ^ k : Nat) : Int) := by simp
  rw [e]
  exact w64n _ (Nat.lt_of_le_of_lt (Nat.div_le_self a (2 ^ k)) h)

set_option maxRecDepth 100000 in
set_option maxHeartbeats 400000 in
theorem bit_any (a i : Nat) (w : World) (ha : a < 256) (hi : i ≤ 1000) :
    Calls Try.prog 71 #[.int .u8 (a : Int), .int .i64 (i : Int)] w fun e w' => e = .returned (.int .i64 (bt a i : Int)) ∧ w' = w := by
  go_enter Try.func71, Try.ntmps71
  go_wp2
  go_ret
  exact ⟨ret_int (by unfold bt; rw [← ctmod]; exact congrArg (fun x : Int => x.tmod 2) (w64d _ _ (by omega))), rfl⟩

set_option maxRecDepth 100000 in
set_option maxHeartbeats 400000 in
theorem rmul_any (a b : Nat) (w : World) (ha : a < 256) (hb : b < 256) :
    Calls Try.prog 78 #[.int .u8 (a : Int), .int .u8 (b : Int)] w fun e w' => e = .returned (.int .u8 (gm a b : Int)) ∧ w' = w := by
  have hr := rm_eq a b ha hb
  have hrl : rm a b < 256 := by rw [hr]; exact gm_lt a b hb
  rw [← hr]
  clear hr
  go_enter Try.func78, Try.ntmps78
  go_wp2
  go_loop [5, 6] (fun p i => ∃ k c : Nat, k ≤ 8 ∧ c < 32768 ∧ Hid (c = clm a b k) ∧ i = .int .i64 k ∧ p = .int .i64 (c : Int)) (fun _ i => 8 - (intOf i).toNat)
  case atStart => exact ⟨0, 0, Nat.zero_le _, by omega, Lib.hid rfl, rfl, rfl⟩
  case round =>
    obtain ⟨k, c, hk, hc, HC, rfl, rfl⟩ := hrel
    by_cases hlt : k < 8
    · have hl := clm_lt a b (k + 1) ha (by omega)
      go_wp2_with (go_at_call 71; refine (bit_any _ _ _ hb (by omega)).mono ?_; rintro e w' ⟨rfl, rfl⟩)
      · have h1 : ((bt b k : Int) == 1) = true := by assumption
        have h1 := one_of h1
        go_round
        case rel =>
          refine ⟨k + 1, clm a b (k + 1), by omega, hl, Lib.hid rfl, by go_num, ?_⟩
          have hs : a <<< k < 2 ^ 62 := Nat.lt_of_lt_of_le (shl_lt a k 8 ha) (Nat.pow_le_pow_right (by omega) (by omega))
          have e : clm a b (k + 1) = c ^^^ a <<< k := by
            rw [clm, bt_test b k hlt, h1, ← HC.out]; rfl
          rw [e]
          exact val_int (by rw [← xor64 _ _ (by omega) hs]; exact congrArg _ (shl64 a k 8 ha (by omega)))
        case measure => simp [intOf]; omega
      · have h1 : ((bt b k : Int) == 1) = false := by assumption
        have h1 := not_one_of h1
        go_round
        case rel =>
          refine ⟨k + 1, clm a b (k + 1), by omega, hl, Lib.hid rfl, by go_num, ?_⟩
          rw [clm, bt_test b k hlt, ← HC.out]
          simp [h1]
        case measure => simp [intOf]; omega
    · obtain rfl : k = 8 := by omega
      go_wp2
      go_loop [5, 7] (fun p i => ∃ j d : Nat, j ≤ 7 ∧ d < 32768 ∧ Hid (d = rsd (clm a b 8) j) ∧ i = .int .i64 (14 - (j : Int)) ∧ p = .int .i64 (d : Int)) (fun _ i => (intOf i).toNat)
      case atStart => exact ⟨0, c, Nat.zero_le _, hc, HC, rfl, rfl⟩
      case round =>
        obtain ⟨j, d, hj, hd, HD, rfl, rfl⟩ := hrel
        by_cases hlt2 : j < 7
        · obtain ⟨i, hi⟩ : ∃ i : Nat, i = 14 - j := ⟨_, rfl⟩
          have ei : (14 : Int) - (j : Int) = (i : Int) := by omega
          have i1 : 8 ≤ i := by omega
          have i2 : i ≤ 14 := by omega
          rw [ei]
          have HI := Lib.hid hi; clear hi
          clear ei
          have hl : rst i d < 32768 := rst_lt i d i1 i2 hd
          have hx : d.testBit i = decide (d / 2 ^ i % 2 = 1) := Nat.testBit_eq_decide_div_mod_eq
          have HX := Lib.hid hx; clear hx
          go_wp2
          · have h1 : (((d : Int) / 2 ^ i).tmod 2 == 1) = true := by assumption
            rw [ctmod] at h1
            have h1 := one_of h1
            go_round
            case rel =>
              have e : rst i d = d ^^^ 283 <<< (i - 8) := by rw [rst, HX.out, h1]; rfl
              have h2 := mod_lt i i1 i2
              refine ⟨j + 1, rst i d, by omega, hl, Lib.hid ?_, ?_, ?_⟩
              · rw [rsd, ← HD.out, ← HI.out]
              · exact val_int (by have := HI.out; omega)
              · rw [e]
                exact val_int (by rw [← xor64 _ _ (by omega) (by omega)]; exact congrArg _ (shl64 283 (i - 8) 9 (by decide) (by omega)))
            case measure => simp [intOf]; omega
          · have h1 : (((d : Int) / 2 ^ i).tmod 2 == 1) = false := by assumption
            rw [ctmod] at h1
            have h1 := not_one_of h1
            go_round
            case rel =>
              have e : rst i d = d := by rw [rst, HX.out]; simp [h1]
              refine ⟨j + 1, d, by omega, hd, Lib.hid ?_, ?_, rfl⟩
              · rw [rsd, ← HD.out, ← HI.out, e]
              · exact val_int (by have := HI.out; omega)
            case measure => simp [intOf]; omega
        · obtain rfl : j = 7 := by omega
          go_wp2
          go_ret
          exact ⟨ret_int (by have h : d = rm a b := HD.out; omega), rfl⟩
end Go.Proofs.Ytkfmgjipocmkjaa
namespace Go.Proofs.Ytkfmgjipocmkjaa
open Go Go.RowKit
set_option linter.unusedVariables false
set_option linter.unusedSimpArgs false

theorem pow_odd (p x m : Nat) (hp : p < 256) (hx : x < 256) (h : m % 2 = 1) : gm (gm p x) (gp (gm x x) (m / 2)) = gm p (gp x m) := by
  have e : m = 1 + 2 * (m / 2) := by omega
  conv => rhs; rw [e]
  rw [gp_add x _ _ hx, gp_one x hx, gp_two x _ hx, gm_assoc _ _ _ hx (gp_lt _ _ (gm_lt _ _ hx))]
theorem pow_even (x m : Nat) (hx : x < 256) (h : m % 2 = 0) : gp (gm x x) (m / 2) = gp x m := by
  have e : m = 2 * (m / 2) := by omega
  conv => rhs; rw [e]
  rw [gp_two x _ hx]
theorem and32 (m : Nat) (hm : m < 4294967296) : bits .and .u32 (m : Int) 1 = ((m % 2 : Nat) : Int) := by
  have h : bits .and .u32 (m : Int) 1 = IntKind.u32.wrap (((BitVec.ofInt 32 (m : Int) &&& BitVec.ofInt 32 ((1 : Nat) : Int)).toNat : Nat) : Int) := rfl
  rw [h, BitVec.toNat_and, bv_nat _ _ hm, bv_nat _ _ (by omega), Nat.and_one_is_mod]
  exact IntWalk.u32_in _ (by omega)

set_option maxRecDepth 100000 in
set_option maxHeartbeats 400000 in
theorem power_any (a n : Nat) (w : World) (ha : a < 256) (hn : n < 4294967296) :
    Calls Try.prog 75 #[.int .u8 (a : Int), .int .u32 (n : Int)] w fun e w' => e = .returned (.int .u8 (gp a n : Int)) ∧ w' = w := by
  go_enter Try.func75, Try.ntmps75
  go_wp2
  go_loop [0, 1, 5] (fun x m p => ∃ x' m' p' : Nat, x' < 256 ∧ m' < 4294967296 ∧ p' < 256 ∧ Hid (gm p' (gp x' m') = gp a n) ∧ x = .int .u8 (x' : Int) ∧ m = .int .u32 (m' : Int) ∧ p = .int .u8 (p' : Int)) (fun _ m _ => (intOf m).toNat)
  case atStart => exact ⟨a, n, 1, ha, hn, by omega, Lib.hid (by rw [gm_comm 1 _ (by omega) (gp_lt a n ha)]; exact gm_one _ (gp_lt a n ha)), rfl, rfl, rfl⟩
  case round =>
    obtain ⟨x, m, p, hx, hm, hp, HG, rfl, rfl, rfl⟩ := hrel
    have hand := and32 m hm
    by_cases h0 : 0 < m
    · by_cases h1 : m % 2 = 1
      · have hb : (bits .and .u32 (m : Int) 1 == 1) = true := by rw [hand, h1]; rfl
        clear hand
        go_wp2_with (go_at_call 77; refine (mul_any _ _ _ (by assumption) (by assumption)).mono ?_; rintro e w' ⟨rfl, rfl⟩)
        go_round
        case rel => exact ⟨gm x x, m / 2, gm p x, gm_lt _ _ hx, by omega, gm_lt _ _ hx, Lib.hid (by rw [pow_odd p x m hp hx h1]; exact HG.out), rfl, rfl, rfl⟩
        case measure => simp [intOf]; omega
      · have hb : (bits .and .u32 (m : Int) 1 == 1) = false := by rw [hand, beq_eq_false_iff_ne]; omega
        clear hand
        go_wp2_with (go_at_call 77; refine (mul_any _ _ _ (by assumption) (by assumption)).mono ?_; rintro e w' ⟨rfl, rfl⟩)
        go_round
        case rel => exact ⟨gm x x, m / 2, p, gm_lt _ _ hx, by omega, hp, Lib.hid (by rw [pow_even x m hx (by omega)]; exact HG.out), rfl, rfl, rfl⟩
        case measure => simp [intOf]; omega
    · obtain rfl : m = 0 := by omega
      clear hand
      go_wp2
      go_ret
      exact ⟨ret_int (by have h : gm p 1 = gp a n := HG.out; rw [gm_one p hp] at h; rw [h]), rfl⟩

set_option maxRecDepth 100000 in
set_option maxHeartbeats 400000 in
theorem inv_any (a : Nat) (w : World) (ha : a < 256) :
    Calls Try.prog 64 #[.int .u8 (a : Int)] w fun e w' => e = .returned (.int .u8 (gi a : Int)) ∧ w' = w := by
  have HP := Lib.hid (gi_pow a ha)
  go_enter Try.func64, Try.ntmps64
  go_wp2_with (go_at_call 75; refine (power_any a 254 _ ha (by omega)).mono ?_; rintro e w' ⟨rfl, rfl⟩)
  go_ret
  exact ⟨ret_int (by rw [HP.out]), rfl⟩

set_option maxRecDepth 100000 in
set_option maxHeartbeats 400000 in
theorem rpower_any (a n : Nat) (w : World) (ha : a < 256) (hn : n < 4294967296) :
    Calls Try.prog 69 #[.int .u8 (a : Int), .int .u32 (n : Int)] w fun e w' => e = .returned (.int .u8 (gp a n : Int)) ∧ w' = w := by
  by_cases h0 : n = 0
  · subst h0
    go_enter Try.func69, Try.ntmps69
    go_wp2
    go_ret
    exact ⟨rfl, rfl⟩
  · have hz : ((n : Int) == 0) = false := by rw [beq_eq_false_iff_ne]; omega
    by_cases h1 : a = 0
    · subst h1
      have HP := Lib.hid (gp_nought n h0)
      go_enter Try.func69, Try.ntmps69
      go_wp2
      go_ret
      exact ⟨ret_int (by rw [HP.out]; rfl), rfl⟩
    · have hza : ((a : Int) == 0) = false := by rw [beq_eq_false_iff_ne]; omega
      rw [gp_mod a n ha h1]
      clear h0 h1
      go_enter Try.func69, Try.ntmps69
      go_wp2
      go_loop [5, 6] (fun c i => ∃ k : Nat, k ≤ n % 255 ∧ i = .int .u32 (k : Int) ∧ c = .int .u8 (gp a k : Int)) (fun _ i => n % 255 - (intOf i).toNat)
      case atStart => exact ⟨0, Nat.zero_le _, rfl, rfl⟩
      case round =>
        obtain ⟨k, hk, rfl, rfl⟩ := hrel
        have hc := gp_lt a k ha
        have h255 : n % 255 < 255 := Nat.mod_lt _ (by omega)
        by_cases hlt : k < n % 255
        · go_wp2_with (go_at_call 78; refine (rmul_any _ _ _ (by assumption) (by assumption)).mono ?_; rintro e w' ⟨rfl, rfl⟩)
          go_round
          case rel => exact ⟨k + 1, by omega, by go_num, rfl⟩
          case measure => simp [intOf]; omega
        · obtain rfl : k = n % 255 := by omega
          go_wp2
          go_ret
          exact ⟨rfl, rfl⟩

set_option maxRecDepth 100000 in
set_option maxHeartbeats 400000 in
theorem rinv_any (a : Nat) (w : World) (ha : a < 256) :
    Calls Try.prog 70 #[.int .u8 (a : Int)] w fun e w' => e = .returned (.int .u8 (gi a : Int)) ∧ w' = w := by
  go_enter Try.func70, Try.ntmps70
  go_wp2
  go_loop [3] (fun i => ∃ k : Nat, k ≤ 256 ∧ i = .int .i64 (k : Int) ∧ Hid (∀ j, j < k → gm a j ≠ 1)) (fun i => 256 - (intOf i).toNat)
  case atStart => exact ⟨0, Nat.zero_le _, rfl, Lib.hid (fun j hj => by omega)⟩
  case round =>
    obtain ⟨k, hk, rfl, HN⟩ := hrel
    by_cases hlt : k < 256
    · by_cases h1 : gm a k = 1
      · have HU := Lib.hid (gm_uniq a k ha hlt h1)
        have hb : ((gm a k : Int) == 1) = true := by rw [h1]; rfl
        clear h1
        go_wp2_with (go_at_call 78; refine (rmul_any a k _ ha hlt).mono ?_; rintro e w' ⟨rfl, rfl⟩)
        go_ret
        exact ⟨ret_int (by rw [← HU.out]), rfl⟩
      · have hb : ((gm a k : Int) == 1) = false := by rw [beq_eq_false_iff_ne]; omega
        have H1 := Lib.hid h1
        clear h1
        go_wp2_with (go_at_call 78; refine (rmul_any a k _ ha hlt).mono ?_; rintro e w' ⟨rfl, rfl⟩)
        go_round
        case rel =>
          refine ⟨k + 1, by omega, by go_num, Lib.hid fun j hj => ?_⟩
          by_cases hj' : j = k
          · subst hj'; exact H1.out
          · exact HN.out j (by omega)
        case measure => simp [intOf]; omega
    · obtain rfl : k = 256 := by omega
      have h0 : a = 0 := by
        by_cases h0 : a = 0
        · exact h0
        · exact absurd (gm_gi a ha h0) (HN.out _ (gi_lt a ha))
      subst h0
      have HZ := Lib.hid gi_zero
      go_wp2
      go_ret
      exact ⟨ret_int (by rw [HZ.out]; rfl), rfl⟩
end Go.Proofs.Ytkfmgjipocmkjaa
namespace Go.Proofs.Ytkfmgjipocmkjaa
open Go Go.RowKit
set_option linter.unusedVariables false
set_option linter.unusedSimpArgs false

theorem and7 (n s : Nat) (hn : 1 ≤ n) (h : n + s = 8) (hs : 1 ≤ s) : bits .and .u64 (IntKind.u64.wrap (-(n : Int))) 7 = (s : Int) := by
  have hn7 : n ≤ 7 := by omega
  obtain rfl : s = 8 - n := by omega
  rcases n with _ | _ | _ | _ | _ | _ | _ | _ | n
  · omega
  all_goals first | decide +kernel | omega
theorem nbits_or (a b : Nat) (ha : a < 256) (hb : b < 256) : bits .or .u8 (a : Int) (b : Int) = ((a ||| b : Nat) : Int) := by
  have h : bits .or .u8 (a : Int) (b : Int) = IntKind.u8.wrap (((BitVec.ofInt 8 (a : Int) ||| BitVec.ofInt 8 (b : Int)).toNat : Nat) : Int) := rfl
  rw [h, BitVec.toNat_or, bv_nat _ _ ha, bv_nat _ _ hb]
  exact IntWalk.u8_in _ (by have : a ||| b < 2 ^ 8 := Nat.or_lt_two_pow ha hb; omega)
theorem rot_val (x n s : Nat) (hx : x < 256) (h : s = 8 - n) (hn : n ≤ 8) : bits .or .u8 ((x : Int) * 2 ^ s % 256) ((x : Int) / 2 ^ (8 - s)) = ((rot x n : Nat) : Int) := by
  have e1 : ((x : Int) * 2 ^ s % 256) = ((x <<< s % 256 : Nat) : Int) := by rw [Nat.shiftLeft_eq]; simp
  have e2 : ((x : Int) / 2 ^ (8 - s)) = ((x >>> n : Nat) : Int) := by
    rw [show 8 - s = n from by omega, Nat.shiftRight_eq_div_pow]; simp
  rw [e1, e2, nbits_or _ _ (Nat.mod_lt _ (by omega)) (Nat.lt_of_le_of_lt (Nat.shiftRight_le x n) hx), rot, h]

set_option maxRecDepth 100000 in
set_option maxHeartbeats 400000 in
theorem rotl_any (x n : Nat) (w : World) (hx : x < 256) (hn : 1 ≤ n) (hn' : n ≤ 7) :
    Calls Try.prog 76 #[.int .u8 (x : Int), .int .i64 (-(n : Int))] w fun e w' => e = .returned (.int .u8 (rot x n : Int)) ∧ w' = w := by
  obtain ⟨s, hs⟩ : ∃ s, s = 8 - n := ⟨_, rfl⟩
  have h1 : 1 ≤ s := by omega
  have h2 : s ≤ 7 := by omega
  have he := and7 n s hn (by omega) h1
  have HS := Lib.hid hs; clear hs
  go_enter Try.func76, Try.ntmps76
  go_wp2
  go_ret
  exact ⟨ret_int (rot_val x n s hx HS.out (by omega)), rfl⟩

set_option maxRecDepth 100000 in
set_option maxHeartbeats 400000 in
theorem ahead_any (x n : Nat) (w : World) (hx : x < 256) (hn : 1 ≤ n) (hn' : n ≤ 7) :
    Calls Try.prog 65 #[.int .u8 (x : Int), .int .i64 (n : Int)] w fun e w' => e = .returned (.int .u8 (rot x n : Int)) ∧ w' = w := by
  go_enter Try.func65, Try.ntmps65
  go_wp2_with (go_at_call 76; refine (rotl_any x n _ hx hn hn').mono ?_; rintro e w' ⟨rfl, rfl⟩)
  go_ret
  exact ⟨rfl, rfl⟩

theorem ahead_int (x : Nat) (i : Int) (n : Nat) (h : i = (n : Int)) (w : World) (hx : x < 256) (hn : 1 ≤ n) (hn' : n ≤ 7) :
    Calls Try.prog 65 #[.int .u8 (x : Int), .int .i64 i] w fun e w' => e = .returned (.int .u8 (rot x n : Int)) ∧ w' = w := by
  subst h
  exact ahead_any x n w hx hn hn'

theorem xors_val (l : List Nat) : ∀ (b : Nat), b < 256 → (∀ x ∈ l, x < 256) → (l.foldl (fun (v : Int) (x : Nat) => bits .xor .u8 v (x : Int)) (b : Int)) = ((l.foldl (· ^^^ ·) b : Nat) : Int) := by
  induction l with
  | nil => intros; rfl
  | cons x l ih =>
    intro b hb hl
    have hx := hl x (by simp)
    rw [List.foldl_cons, List.foldl_cons, nbits_xor _ _ hb hx]
    exact ih _ (Nat.xor_lt_two_pow (n := 8) hb hx) fun y hy => hl y (by simp [hy])

set_option maxRecDepth 100000 in
set_option maxHeartbeats 1000000 in
theorem sub_any (a : Nat) (w : World) (ha : a < 256) :
    Calls Try.prog 40 #[.int .u8 (a : Int)] w fun e w' => e = .returned (.int .u8 (gs a : Int)) ∧ w' = w := by
  have hi := gi_lt a ha
  unfold gs
  have hc := fun w => inv_any a w ha
  generalize gi a = b at *
  have HC := Lib.hid hc; clear hc
  have hv := xors_val [rot b 4, rot b 5, rot b 6, rot b 7, 99] b hi (by
    intro x hx
    simp only [List.mem_cons, List.not_mem_nil, or_false] at hx
    rcases hx with rfl | rfl | rfl | rfl | rfl
    · exact rot_lt _ _ hi
    · exact rot_lt _ _ hi
    · exact rot_lt _ _ hi
    · exact rot_lt _ _ hi
    · omega)
  have HV := Lib.hid hv; clear hv
  go_enter Try.func40, Try.ntmps40
  go_wp2_with fail
  refine (HC.out _).mono ?_
  rintro e w' ⟨rfl, rfl⟩
  go_wp2_with fail
  refine (ahead_int b 4 4 rfl _ hi (by omega) (by omega)).mono ?_
  rintro e w' ⟨rfl, rfl⟩
  go_wp2_with fail
  refine (ahead_int b 5 5 rfl _ hi (by omega) (by omega)).mono ?_
  rintro e w' ⟨rfl, rfl⟩
  go_wp2_with fail
  refine (ahead_int b 6 6 rfl _ hi (by omega) (by omega)).mono ?_
  rintro e w' ⟨rfl, rfl⟩
  go_wp2_with fail
  refine (ahead_int b 7 7 rfl _ hi (by omega) (by omega)).mono ?_
  rintro e w' ⟨rfl, rfl⟩
  go_wp2_with fail
  go_ret
  exact ⟨ret_int HV.out, rfl⟩

theorem bit_int (a' : Int) (a : Nat) (i : Int) (n : Nat) (h : a' = (a : Int)) (hi : i = (n : Int)) (w : World) (ha : a < 256) (h1 : n ≤ 1000) :
    Calls Try.prog 71 #[.int .u8 a', .int .i64 i] w fun e w' => e = .returned (.int .i64 (bt a n : Int)) ∧ w' = w := by
  subst h hi
  exact bit_any a n w ha (by omega)

set_option maxRecDepth 100000 in
set_option maxHeartbeats 1000000 in
theorem rsub_any (a : Nat) (w : World) (ha : a < 256) :
    Calls Try.prog 56 #[.int .u8 (a : Int)] w fun e w' => e = .returned (.int .u8 (gs a : Int)) ∧ w' = w := by
  have hi := gi_lt a ha
  unfold gs
  have hc := fun w => rinv_any a w ha
  generalize gi a = b at *
  have HC := Lib.hid hc; clear hc
  have HF := Lib.hid (rfs_eq b hi)
  have hfl := af_lt b hi
  go_enter Try.func56, Try.ntmps56
  go_wp2_with fail
  refine (HC.out _).mono ?_
  rintro e w' ⟨rfl, rfl⟩
  go_wp2_with fail
  go_loop [4, 5] (fun s i => ∃ k j t : Nat, k ≤ 8 ∧ k + j = 8 ∧ i = .int .i64 ((j : Int) - 1) ∧ t < 256 ∧ Hid (t = rfs b k) ∧ s = .int .i64 (t : Int)) (fun _ i => (intOf i + 1).toNat)
  case atStart => exact ⟨0, 8, 0, by omega, by omega, rfl, by omega, Lib.hid rfl, rfl⟩
  case round =>
    obtain ⟨k, j, t, hk, hj, rfl, ht, HT, rfl⟩ := hrel
    by_cases hlt : k < 8
    · obtain ⟨i, rfl⟩ : ∃ i, j = i + 1 := ⟨j - 1, by omega⟩
      rw [show (((i + 1 : Nat) : Int)) - 1 = (i : Int) from by omega]
      have hi7 : i ≤ 7 := by omega
      have q0 := bt_le b i
      have q4 := bt_le b (i + 4)
      have q5 := bt_le b (i + 5)
      have q6 := bt_le b (i + 6)
      have q7 := bt_le b (i + 7)
      have q8 := bt_le 99 i
      have hs : rfs b (k + 1) = 2 * t + (bt b i + bt b (i + 4) + bt b (i + 5) + bt b (i + 6) + bt b (i + 7) + bt 0x63 i) % 2 := by
        rw [rfs, ← HT.out, show 7 - k = i from by omega]
      have hsl := rfs_lt b (k + 1)
      have hp : 2 ^ (k + 1) ≤ 2 ^ 8 := Nat.pow_le_pow_right (by omega) (by omega)
      have hsl : rfs b (k + 1) < 256 := by omega
      have HS := Lib.hid hs; clear hs hp
      go_wp2_with fail
      refine (bit_int b b i i rfl rfl _ hi (by omega)).mono ?_
      rintro e w' ⟨rfl, rfl⟩
      go_wp2_with fail
      refine (bit_int b b _ (i + 4) rfl (by omega) _ hi (by omega)).mono ?_
      rintro e w' ⟨rfl, rfl⟩
      go_wp2_with fail
      refine (bit_int b b _ (i + 5) rfl (by omega) _ hi (by omega)).mono ?_
      rintro e w' ⟨rfl, rfl⟩
      go_wp2_with fail
      refine (bit_int b b _ (i + 6) rfl (by omega) _ hi (by omega)).mono ?_
      rintro e w' ⟨rfl, rfl⟩
      go_wp2_with fail
      refine (bit_int b b _ (i + 7) rfl (by omega) _ hi (by omega)).mono ?_
      rintro e w' ⟨rfl, rfl⟩
      go_wp2_with fail
      refine (bit_int 99 99 i i rfl rfl _ (by omega) (by omega)).mono ?_
      rintro e w' ⟨rfl, rfl⟩
      go_wp2_with fail
      go_round
      case rel => exact ⟨k + 1, i, rfs b (k + 1), by omega, by omega, rfl, hsl, Lib.hid rfl, val_int (by have := HS.out; omega)⟩
      case measure => simp [intOf]
    · obtain rfl : k = 8 := by omega
      obtain rfl : j = 0 := by omega
      go_wp2
      go_ret
      exact ⟨ret_int (by have := HF.out; have := HT.out; omega), rfl⟩

end Go.Proofs.Ytkfmgjipocmkjaa
namespace Go.Proofs.Ytkfmgjipocmkjaa

/-- The block j of some bytes. -/
def gblk (l : List Nat) (j k : Nat) : Nat := l.getD (16 * j + k) 0
/-- The sum of the first n blocks under h. -/
def gsum (h : Nat) (l : List Nat) : Nat → Nat
  | 0 => 0
  | n + 1 => hm (gsum h l n ^^^ hof (gblk l n)) h
theorem num16_congr (f g : Nat → Nat) (k : Nat) (h : ∀ i, i < k → f i = g i) : num16 f k = num16 g k := by
  induction k with
  | zero => rfl
  | succ k ih => rw [num16, num16, ih fun i hi => h i (by omega), h k (by omega)]
theorem hof_congr {f g : Nat → Nat} (h : ∀ i, i < 16 → f i = g i) : hof f = hof g := num16_congr f g 16 h
theorem hof_nought : hof (fun _ => 0) = 0 := by decide
theorem gsum_congr (h : Nat) (a b : List Nat) (n : Nat) (e : ∀ j k, j < n → k < 16 → gblk a j k = gblk b j k) : gsum h a n = gsum h b n := by
  induction n with
  | zero => rfl
  | succ n ih => rw [gsum, gsum, ih fun j k hj hk => e j k (by omega) hk, hof_congr fun k hk => e n k (by omega) hk]
/-- The sum of sums is that of the blocks added. -/
theorem gsum_add (h : Nat) (a b c : List Nat) (n : Nat) (ha : ∀ x ∈ a, x < 256) (hb : ∀ x ∈ b, x < 256) (e : ∀ j k, j < n → k < 16 → gblk c j k = gblk a j k ^^^ gblk b j k) : gsum h c n = gsum h a n ^^^ gsum h b n := by
  have bd : ∀ (l : List Nat), (∀ x ∈ l, x < 256) → ∀ j i, i < 16 → gblk l j i < 256 := by
    intro l hl j i _
    unfold gblk
    rw [List.getD_eq_getElem?_getD]
    cases hx : l[16 * j + i]? with
    | none => simp
    | some x => simpa using hl x (List.mem_of_getElem? hx)
  induction n with
  | zero => simp [gsum]
  | succ n ih =>
    rw [gsum, gsum, gsum, ih fun j k hj hk => e j k (by omega) hk, hof_congr fun k hk => e n k (by omega) hk, hof_xor _ _ (bd a ha n) (bd b hb n), ← hm_add_l]
    congr 1
    exact xor4 _ _ _ _
/-- Of nothing but noughts it is nought. -/
theorem gsum_nought (h : Nat) (l : List Nat) (n : Nat) (e : ∀ j k, j < n → k < 16 → gblk l j k = 0) : gsum h l n = 0 := by
  induction n with
  | zero => rfl
  | succ n ih => rw [gsum, ih fun j k hj hk => e j k (by omega) hk, hof_congr (g := fun _ => 0) fun k hk => e n k (by omega) hk, hof_nought, Nat.xor_self, hm_nought_l]
theorem gsum_lt (h : Nat) (hh : h < 2 ^ 128) (l : List Nat) (n : Nat) : gsum h l n < 2 ^ 128 := by
  cases n with
  | zero => exact Nat.two_pow_pos 128
  | succ n => exact hm_lt _ _ hh
/-- Where two texts' blocks differ in the last one alone, their sums differ by its difference's product. -/
theorem gsum_last (h : Nat) (a b : List Nat) (n : Nat) (e : ∀ j k, j < n → k < 16 → gblk a j k = gblk b j k) :
    gsum h a (n + 1) ^^^ gsum h b (n + 1) = hm (hof (gblk a n) ^^^ hof (gblk b n)) h := by
  rw [gsum, gsum, gsum_congr h a b n e, ← hm_add_l, xor4, Nat.xor_self, Nat.zero_xor]
end Go.Proofs.Ytkfmgjipocmkjaa
namespace Go.Proofs.Ytkfmgjipocmkjaa
open Go Go.RowKit
set_option linter.unusedVariables false
set_option linter.unusedSimpArgs false

/-- n whole numbers of an array. -/
def aI (n : Nat) (c : Nat → Nat) : Array Value := ((List.range n).map fun i => Value.int .i64 (c i : Int)).toArray
theorem aI_size (n : Nat) (c : Nat → Nat) : (aI n c).size = n := by simp [aI]
theorem aI_get (n : Nat) (c : Nat → Nat) (k : Nat) (hk : k < n) : (aI n c)[k]? = some (.int .i64 (c k : Int)) := by simp [aI, hk]
theorem aI_congr {n : Nat} {c d : Nat → Nat} (h : ∀ i, i < n → c i = d i) : aI n c = aI n d := by
  unfold aI
  congr 1
  apply List.map_congr_left
  intro i hi
  rw [h i (List.mem_range.mp hi)]
theorem aI_set (n : Nat) (c d : Nat → Nat) (k v : Nat) (hk : k < n) (hv : d k = v) (ho : ∀ j, j < n → j ≠ k → d j = c j) : (aI n c).setIfInBounds k (.int .i64 (v : Int)) = aI n d := by
  subst hv
  apply Array.ext_getElem?
  intro i
  rw [Array.getElem?_setIfInBounds, aI_size]
  by_cases h : k = i
  · subst h
    rw [if_pos rfl, if_pos hk, aI_get n d k hk]
  · rw [if_neg h]
    by_cases hi : i < n
    · rw [aI_get n c i hi, aI_get n d i hi, ho i hi (fun e => h e.symm)]
    · rw [Array.getElem?_eq_none (by rw [aI_size]; omega), Array.getElem?_eq_none (by rw [aI_size]; omega)]
/-- Block b holds 255 whole numbers. -/
def HI (w : World) (b : Nat) (c : Nat → Nat) : Prop := w.heap[b]? = some (.cells (aI 255 c) 100 (0, 0))
section
variable {w w' : World} {b : Nat} {c z : Nat → Nat}
theorem HI.lt (h : HI w b c) : b < w.heap.size := (Array.getElem?_eq_some_iff.1 h).1
theorem HI.cell (h : HI w b c) (k : Nat) (hk : k < 255) : w.cell? ⟨b, k, none⟩ = some (.int .i64 (c k : Int)) := by
  rw [cell_of_row _ _ _ _ _ _ h]; exact aI_get 255 c k hk
theorem HI.free (h : HI w b c) (k : Nat) : w.frozen? ⟨b, k, none⟩ = false := frozen_of_row _ _ _ _ _ h
theorem HI.below {B : Nat} (hb : Below B w w') (h : HI w b c) (hB : b < B) : HI w' b c := (hb.block b hB).trans h
theorem HI.call (hb : Below w.heap.size w w') (h : HI w b c) : HI w' b c := h.below hb h.lt
theorem HI.alloc (o : Obj) (h : HI w b c) : HI (w.alloc o) b c := (heap_alloc_old w o h.lt).trans h
theorem HI.newAt (h : b = w.heap.size) : HI (w.alloc (.cells (aI 255 c) 100)) b c := h ▸ heap_alloc_new w _
theorem HI.other (h : HI w b c) (a : Addr) (hg : b ≠ a.block) (v : Value) : HI (w.setCell a v) b c := (heap_setCell_other _ _ _ _ hg).trans h
theorem HI.set (h : HI w b c) (k v : Nat) (hk : k < 255) (hv : z k = v) (ho : ∀ j, j < 255 → j ≠ k → z j = c j) : HI (w.setCell ⟨b, k, none⟩ (.int .i64 (v : Int))) b z := by
  unfold HI
  rw [heap_setCell_same _ _ _ _ _ _ h, aI_set 255 c z k v hk hv ho]
theorem HI.congr (h : HI w b c) (e : ∀ i, i < 255 → c i = z i) : HI w b z := by
  unfold HI at *
  rw [h, aI_congr e]
end
theorem xor_bn (a b : Bool) : bits .xor .i64 (bn a : Int) (bn b : Int) = ((bn (a ^^ b) : Nat) : Int) := by cases a <;> cases b <;> decide
theorem zero255 (w : World) : (zeroValue 100).run Try.prog w = .ok (.agg (aI 255 fun _ => 0)) w := by kernel_rfl
end Go.Proofs.Ytkfmgjipocmkjaa
namespace Go.Proofs.Ytkfmgjipocmkjaa

/-- The product's coefficients, where the first m of b's have been added for the coefficient i of a. -/
def cK (a b i m n : Nat) : Bool := (hcv a b i).testBit (254 - n) ^^ (decide (i ≤ n ∧ n < i + m) && hbit b (n - i))
theorem cK_start (a b i n : Nat) : cK a b i 0 n = (hcv a b i).testBit (254 - n) := by
  unfold cK
  have h : ¬ (i ≤ n ∧ n < i + 0) := by omega
  rw [decide_eq_false h]; simp
theorem cK_old (a b i m : Nat) : cK a b i m (i + m) = (hcv a b i).testBit (254 - (i + m)) := by
  unfold cK
  have h : ¬ (i ≤ i + m ∧ i + m < i + m) := by omega
  rw [decide_eq_false h]; simp
theorem cK_next (a b i m : Nat) : cK a b i (m + 1) (i + m) = ((hcv a b i).testBit (254 - (i + m)) ^^ hbit b m) := by
  unfold cK
  have h : i ≤ i + m ∧ i + m < i + (m + 1) := by omega
  rw [decide_eq_true h, Bool.true_and, Nat.add_sub_cancel_left]
theorem cK_far (a b i m n : Nat) (h : n ≠ i + m) : cK a b i (m + 1) n = cK a b i m n := by
  unfold cK
  by_cases h1 : i ≤ n ∧ n < i + m
  · rw [decide_eq_true h1, decide_eq_true (by omega : i ≤ n ∧ n < i + (m + 1))]
  · rw [decide_eq_false h1, decide_eq_false (by omega : ¬ (i ≤ n ∧ n < i + (m + 1)))]
theorem cK_end (a b i n : Nat) (hb : b < 2 ^ 128) (hi : i < 128) (hn : n ≤ 254) (h : hbit a i = true) : cK a b i 128 n = (hcv a b (i + 1)).testBit (254 - n) := by
  rw [hcv_bit a b i n hb hi hn, h]
  unfold cK
  rw [Bool.true_and]
theorem cK_skip (a b i n : Nat) (hb : b < 2 ^ 128) (hi : i < 128) (hn : n ≤ 254) (h : hbit a i = false) : (hcv a b (i + 1)).testBit (254 - n) = (hcv a b i).testBit (254 - n) := by
  rw [hcv_bit a b i n hb hi hn, h]; simp

theorem hM_all : ((List.range 255).all fun k => hM.testBit k == decide (k = 0 ∨ k = 121 ∨ k = 126 ∨ k = 127 ∨ k = 128)) = true := by decide +kernel
theorem hM_bit (k : Nat) (hk : k < 255) : hM.testBit k = decide (k = 0 ∨ k = 121 ∨ k = 126 ∨ k = 127 ∨ k = 128) :=
  eq_of_beq (List.all_eq_true.mp hM_all k (List.mem_range.mpr hk))
/-- A coefficient that is struck out, and where it is put in once more. -/
theorem hrd_step (p j n : Nat) (hj : j ≤ 126) (hn : n ≤ 254) (h : (hrd p j).testBit j = true) :
    (hrd p (j + 1)).testBit (254 - n) = ((hrd p j).testBit (254 - n) ^^ decide (n + j = 254 ∨ n + 121 + j = 254 ∨ n + 126 + j = 254 ∨ n + 127 + j = 254 ∨ n + 128 + j = 254)) := by
  rw [hrd, if_pos h, Nat.testBit_xor]
  congr 1
  rw [Nat.testBit_shiftLeft]
  by_cases h1 : j ≤ 254 - n
  · rw [hM_bit _ (by omega)]
    simp only [h1, decide_true, Bool.true_and, decide_eq_decide]
    omega
  · rw [decide_eq_false (by omega : ¬ 254 - n ≥ j), Bool.false_and, eq_comm, decide_eq_false_iff_not]
    omega
theorem hrd_skip (p j : Nat) (h : (hrd p j).testBit j = false) : hrd p (j + 1) = hrd p j := by
  rw [hrd, h, if_neg (by simp)]
/-- The product's bits, as they lie at last. -/
theorem hm_bit (a b i : Nat) (hi : i < 128) : hbit (hm a b) i = (hrd (hcv a b 128) 127).testBit (254 - i) := by
  rw [← hrd_hcv]
  unfold hbit
  rw [Nat.testBit_shiftRight]
  congr 1
  omega

/-- The answer's bytes, i bits told. -/
def zK (a i q : Nat) : Nat := if q < i / 8 then hby a q else if q = i / 8 then hby a q / 2 ^ (8 - i % 8) else 0
theorem zK_start (a q : Nat) : zK a 0 q = 0 := by
  unfold zK
  have h : ¬ q < 0 / 8 := by omega
  rw [if_neg h]
  split
  · have := hby_lt a q
    show hby a q / 256 = 0
    omega
  · rfl
theorem zK_end (a q : Nat) (hq : q < 16) : zK a 128 q = hby a q := by
  unfold zK
  rw [if_pos (by omega)]
theorem zK_far (a i q : Nat) (h : q ≠ i / 8) : zK a (i + 1) q = zK a i q := by
  unfold zK
  by_cases h1 : q < i / 8
  · rw [if_pos h1, if_pos (by omega)]
  · rw [if_neg h1, if_neg h]
    by_cases h2 : q < (i + 1) / 8
    · omega
    · rw [if_neg h2]
      by_cases h3 : q = (i + 1) / 8
      · rw [if_pos h3]
        have h4 : (i + 1) % 8 = 0 := by omega
        have := hby_lt a q
        rw [h4]
        show hby a q / 256 = 0
        omega
      · rw [if_neg h3]
theorem half_bit (x k : Nat) : x / 2 ^ k = 2 * (x / 2 ^ (k + 1)) + x / 2 ^ k % 2 := by
  have h : x / 2 ^ (k + 1) = x / 2 ^ k / 2 := by rw [Nat.pow_succ, Nat.div_div_eq_div_mul]
  rw [h]
  omega
theorem zK_next (a i : Nat) (hi : i < 128) : zK a (i + 1) (i / 8) = 2 * zK a i (i / 8) + (if hbit a i then 1 else 0) := by
  have hb : (if hbit a i then 1 else 0) = hby a (i / 8) / 2 ^ (7 - i % 8) % 2 := by
    have h1 := hby_bit a (i / 8) (i % 8) (by omega) (by omega)
    rw [show 8 * (i / 8) + i % 8 = i from by omega] at h1
    rw [← h1, Nat.testBit_eq_decide_div_mod_eq]
    have : hby a (i / 8) / 2 ^ (7 - i % 8) % 2 < 2 := Nat.mod_lt _ (by omega)
    by_cases h : hby a (i / 8) / 2 ^ (7 - i % 8) % 2 = 1
    · simp [h]
    · have h0 : hby a (i / 8) / 2 ^ (7 - i % 8) % 2 = 0 := by omega
      simp [h0]
  rw [hb]
  have h2 : zK a i (i / 8) = hby a (i / 8) / 2 ^ (7 - i % 8 + 1) := by
    unfold zK
    rw [if_neg (by omega), if_pos rfl, show 7 - i % 8 + 1 = 8 - i % 8 from by omega]
  have h3 : zK a (i + 1) (i / 8) = hby a (i / 8) / 2 ^ (7 - i % 8) := by
    unfold zK
    by_cases h : i % 8 = 7
    · rw [if_pos (by omega), h]; simp
    · rw [if_neg (by omega), if_pos (by omega), show 8 - (i + 1) % 8 = 7 - i % 8 from by omega]
  rw [h2, h3]
  exact half_bit _ _
theorem zK_lt (a i q : Nat) : zK a i q < 256 := by
  have := hby_lt a q
  unfold zK
  split
  · exact this
  · split
    · exact Nat.lt_of_le_of_lt (Nat.div_le_self _ _) this
    · omega
end Go.Proofs.Ytkfmgjipocmkjaa
