/-
  The code's elements: two words each; sums and products.
-/
import Derived.Test.YtkfmgjipocmkjaaFoldA
import Derived.Test.YtkfmgjipocmkjaaFoldB
namespace Go.Proofs.Ytkfmgjipocmkjaa
open Go Go.RowKit
set_option linter.unusedVariables false
set_option linter.unusedSimpArgs false

/-- An element by value. -/
abbrev eV (a : Nat) : Value := .agg #[.int .u64 ((a / 18446744073709551616 : Nat) : Int), .int .u64 ((a % 18446744073709551616 : Nat) : Int)]

theorem tmask (x : Nat) (hx : x < 18446744073709551616) : IntKind.u64.wrap (-((x : Int) / 9223372036854775808)) = ((if x < 9223372036854775808 then 0 else 18446744073709551615 : Nat) : Int) := by
  by_cases h : x < 9223372036854775808
  · rw [if_pos h, show (x : Int) / 9223372036854775808 = 0 from by omega]; decide
  · rw [if_neg h, show (x : Int) / 9223372036854775808 = 1 from by omega]; decide
theorem tand (v m : Nat) (c : Prop) [Decidable c] (hv : v < 18446744073709551616) : bits .and .u64 (v : Int) ((if c then 0 else 18446744073709551615 : Nat) : Int) = ((if c then 0 else v : Nat) : Int) := by
  rw [bits64_and _ _ hv (by split <;> decide)]
  split
  · simp
  · rw [show (18446744073709551615 : Nat) = 2 ^ 64 - 1 from rfl, Nat.and_two_pow_sub_one_eq_mod, Nat.mod_eq_of_lt hv]
theorem tA (h v x : Nat) (hh : h < 18446744073709551616) (hv : v < 18446744073709551616) (hx : x < 18446744073709551616) :
    bits .xor .u64 (h : Int) (bits .and .u64 (v : Int) (IntKind.u64.wrap (-((x : Int) / 9223372036854775808)))) = ((h ^^^ (if x < 9223372036854775808 then 0 else v) : Nat) : Int) := by
  rw [tmask x hx, tand v 0 _ hv, bits64_xor _ _ hh (by split; decide; exact hv)]
theorem tS (x y : Nat) (hx : x < 18446744073709551616) (hy : y < 18446744073709551616) :
    bits .or .u64 (IntKind.u64.wrap ((x : Int) * 2)) ((y : Int) / 9223372036854775808) = ((x * 2 % 18446744073709551616 + y / 9223372036854775808 : Nat) : Int) := by
  have e1 : IntKind.u64.wrap ((x : Int) * 2) = ((x * 2 % 18446744073709551616 : Nat) : Int) := by
    rw [IntKind.wrap_u64]; omega
  rw [e1, show (y : Int) / 9223372036854775808 = ((y / 9223372036854775808 : Nat) : Int) from by omega, bits64_or _ _ (Nat.mod_lt _ (by decide)) (by omega)]
  congr 1
  have h2 : x * 2 % 18446744073709551616 = (x % 9223372036854775808) <<< 1 := by rw [Nat.shiftLeft_eq]; omega
  rw [h2, ← Nat.shiftLeft_add_eq_or_of_lt (by omega : y / 9223372036854775808 < 2 ^ 1)]
theorem tD (y : Nat) : IntKind.u64.wrap ((y : Int) * 2) = ((y * 2 % 18446744073709551616 : Nat) : Int) := by
  rw [IntKind.wrap_u64]; omega
theorem tR (v u : Nat) (hv : v < 18446744073709551616) (hu : u < 18446744073709551616) :
    bits .or .u64 (IntKind.u64.wrap ((v : Int) * 9223372036854775808)) ((u : Int) / 2) = ((v % 2 * 9223372036854775808 + u / 2 : Nat) : Int) := by
  have e1 : IntKind.u64.wrap ((v : Int) * 9223372036854775808) = ((v % 2 * 9223372036854775808 : Nat) : Int) := by
    rw [IntKind.wrap_u64]; omega
  rw [e1, show (u : Int) / 2 = ((u / 2 : Nat) : Int) from by omega, bits64_or _ _ (by omega) (by omega)]
  congr 1
  have h2 : v % 2 * 9223372036854775808 = (v % 2) <<< 63 := by rw [Nat.shiftLeft_eq]
  rw [h2, ← Nat.shiftLeft_add_eq_or_of_lt (by omega : u / 2 < 2 ^ 63)]
theorem tO (v u : Nat) (hv : v < 18446744073709551616) (hu : u < 18446744073709551616) :
    bits .xor .u64 ((v : Int) / 2) (bits .and .u64 16212958658533785600 (IntKind.u64.wrap (-bits .and .u64 (u : Int) 1))) = ((v / 2 ^^^ (if u % 2 = 0 then 0 else 16212958658533785600) : Nat) : Int) := by
  have e1 : bits .and .u64 (u : Int) 1 = ((u % 2 : Nat) : Int) := by
    have := bits64_and u 1 hu (by decide)
    rw [Nat.and_one_is_mod] at this
    exact this
  have e2 : IntKind.u64.wrap (-((u % 2 : Nat) : Int)) = ((if u % 2 = 0 then 0 else 18446744073709551615 : Nat) : Int) := by
    rcases Nat.mod_two_eq_zero_or_one u with h | h <;> rw [h] <;> decide
  have e3 := tand 16212958658533785600 0 (u % 2 = 0) (by decide)
  rw [e1, e2]
  rw [show (16212958658533785600 : Int) = ((16212958658533785600 : Nat) : Int) from rfl, e3, show (v : Int) / 2 = ((v / 2 : Nat) : Int) from by omega, bits64_xor _ _ (by omega) (by split <;> decide)]

/-- The shifted factor. -/
def tX (a k : Nat) : Nat := a * 2 ^ k % 340282366920938463463374607431768211456
theorem tX_lt (a k : Nat) : tX a k < 340282366920938463463374607431768211456 := Nat.mod_lt _ (by decide)
theorem tX_next (a k : Nat) : tX a (k + 1) = tX a k * 2 % 340282366920938463463374607431768211456 := by
  unfold tX; rw [Nat.pow_succ, ← Nat.mul_assoc]; omega
theorem tX_bit (a k : Nat) (hk : k < 128) : hbit a k = !decide (tX a k / 18446744073709551616 < 9223372036854775808) := by
  have h1 : (tX a k).testBit 127 = a.testBit (127 - k) := by
    unfold tX
    rw [show (340282366920938463463374607431768211456 : Nat) = 2 ^ 128 from rfl, Nat.testBit_mod_two_pow, ← Nat.shiftLeft_eq, Nat.testBit_shiftLeft]
    simp; omega
  have h2 := tX_lt a k
  unfold hbit
  rw [← h1, Nat.testBit_eq_decide_div_mod_eq, show (2 : Nat) ^ 127 = 170141183460469231731687303715884105728 from rfl]
  by_cases h : tX a k / 18446744073709551616 < 9223372036854775808
  · simp [h]; omega
  · simp [h]; omega
theorem xor_hi (a b : Nat) : (a ^^^ b) / 18446744073709551616 = a / 18446744073709551616 ^^^ b / 18446744073709551616 := by
  have := Nat.shiftRight_xor_distrib (a := a) (b := b) (i := 64)
  simpa [Nat.shiftRight_eq_div_pow] using this
theorem xor_lo (a b : Nat) : (a ^^^ b) % 18446744073709551616 = a % 18446744073709551616 ^^^ b % 18446744073709551616 := by
  have := Nat.xor_mod_two_pow (a := a) (b := b) (n := 64)
  simpa using this
theorem hX_hi (b : Nat) (hb : b < 340282366920938463463374607431768211456) : hX b / 18446744073709551616 = b / 18446744073709551616 / 2 ^^^ (if b % 18446744073709551616 % 2 = 0 then 0 else 16212958658533785600) := by
  have e0 : b.testBit 0 = decide (¬ b % 18446744073709551616 % 2 = 0) := by
    rw [Nat.testBit_zero]
    by_cases h : b % 2 = 1
    · rw [decide_eq_true h, decide_eq_true (by omega)]
    · rw [decide_eq_false h, decide_eq_false (by omega)]
  unfold hX
  rw [e0]
  by_cases h : b % 18446744073709551616 % 2 = 0
  · simp [h, Nat.shiftRight_eq_div_pow]; omega
  · simp only [h, not_false_eq_true, decide_true, if_true, if_false]
    rw [xor_hi, show b >>> 1 / 18446744073709551616 = b / 18446744073709551616 / 2 from by rw [Nat.shiftRight_eq_div_pow]; omega, show hR / 18446744073709551616 = 16212958658533785600 from by decide]
theorem hX_lo (b : Nat) : hX b % 18446744073709551616 = b / 18446744073709551616 % 2 * 9223372036854775808 + b % 18446744073709551616 / 2 := by
  unfold hX
  split
  · rw [xor_lo, show hR % 18446744073709551616 = 0 from by decide, Nat.xor_zero, Nat.shiftRight_eq_div_pow]; omega
  · rw [Nat.shiftRight_eq_div_pow]; omega

/-- Block b holds an element. -/
def HE (w : World) (b a : Nat) : Prop := w.heap[b]? = some (.cells #[.int .u64 ((a / 18446744073709551616 : Nat) : Int), .int .u64 ((a % 18446744073709551616 : Nat) : Int)] 77 (0, 0))
theorem el_set {w : World} {b : Nat} {p q x y : Value} {t : TypeId} (h : w.heap[b]? = some (.cells #[p, q] t (0, 0))) : ((w.setCell ⟨b, 0, none⟩ x).setCell ⟨b, 1, none⟩ y).heap[b]? = some (.cells #[x, y] t (0, 0)) := by
  have h1 := heap_setCell_same w b 0 #[p, q] t x h
  exact heap_setCell_same _ b 1 _ t y h1
theorem el_info : (Try.prog.info? 77).map (·.size) = some 2 := by kernel_rfl
theorem el_ret {fn : Func} {p : Tmp} (hr : fn.results = #[.cell p 77]) (tmps : Array Value) (w : World) (g : Nat) (x y : Int) (hp : tmps.getD p undef = .pointer (some ⟨g, 0, none⟩)) (h : w.heap[g]? = some (.cells #[.int .u64 x, .int .u64 y] 77 (0, 0))) :
    (results fn tmps).run Try.prog w = .ok (.agg #[.int .u64 x, .int .u64 y]) w :=
  results_cell_row hr tmps w g 77 _ (0, 0) _ hp h Try.underlying77 rfl el_info

set_option maxRecDepth 100000 in
set_option maxHeartbeats 1000000 in
theorem gplus_any (a b : Nat) (w : World) (ha : a < 2 ^ 128) (hb : b < 2 ^ 128) :
    Calls Try.prog 49 #[eV a, eV b] w fun e w' => e = .returned (eV (a ^^^ b)) ∧ Below w.heap.size w w' := by
  have hx : bits .xor .u64 ((a / 18446744073709551616 : Nat) : Int) ((b / 18446744073709551616 : Nat) : Int) = (((a ^^^ b) / 18446744073709551616 : Nat) : Int) := by rw [xor_hi]; exact bits64_xor _ _ (by omega) (by omega)
  have hy : bits .xor .u64 ((a % 18446744073709551616 : Nat) : Int) ((b % 18446744073709551616 : Nat) : Int) = (((a ^^^ b) % 18446744073709551616 : Nat) : Int) := by rw [xor_lo]; exact bits64_xor _ _ (by omega) (by omega)
  have HZ : ∃ c1 c2 : Nat, eV (a ^^^ b) = .agg #[.int .u64 (c1 : Int), .int .u64 (c2 : Int)] ∧ c1 = (a ^^^ b) / 18446744073709551616 ∧ c2 = (a ^^^ b) % 18446744073709551616 := ⟨_, _, rfl, rfl, rfl⟩
  obtain ⟨c1, c2, hc, hc1, hc2⟩ := HZ
  rw [← hc1] at hx
  rw [← hc2] at hy
  have HC := Lib.hid (And.intro hc1 hc2); clear hc1 hc2
  obtain ⟨a1, ha1⟩ : ∃ a1, a1 = a / 18446744073709551616 := ⟨_, rfl⟩
  obtain ⟨a2, ha2⟩ : ∃ a2, a2 = a % 18446744073709551616 := ⟨_, rfl⟩
  obtain ⟨b1, hb1⟩ : ∃ b1, b1 = b / 18446744073709551616 := ⟨_, rfl⟩
  obtain ⟨b2, hb2⟩ : ∃ b2, b2 = b % 18446744073709551616 := ⟨_, rfl⟩
  rw [hc, eV, eV, ← ha1, ← ha2, ← hb1, ← hb2]
  rw [← ha1, ← hb1] at hx
  rw [← ha2, ← hb2] at hy
  clear ha1 ha2 hb1 hb2 hc
  go_enter Try.func49, Try.ntmps49
  go_wp2
  refine bodyPost_ret (el_ret (p := 4) (by kernel_rfl) _ _ (w.heap.size + 1 + 1) c1 c2 rfl ?_) rfl ⟨rfl, ?_⟩
  · have := heap_alloc_new ((w.alloc (.cells #[.int .u64 a1, .int .u64 a2] 77)).alloc (.cells #[.int .u64 b1, .int .u64 b2] 77)) (.cells #[.int .u64 c1, .int .u64 c2] 77)
    rw [World.size_alloc, World.size_alloc] at this
    exact this
  · exact (((Below.refl _ _).alloc (Nat.le_refl _) _).alloc (by simp) _).alloc (by simp; omega) _

set_option maxRecDepth 100000 in
set_option maxHeartbeats 4000000 in
theorem gtimes_any (a b : Nat) (w : World) (ha : a < 2 ^ 128) (hb : b < 2 ^ 128) :
    Calls Try.prog 50 #[eV a, eV b] w fun e w' => e = .returned (eV (hm a b)) ∧ Below w.heap.size w w' := by
  obtain ⟨a1, ha1⟩ : ∃ a1, a1 = a / 18446744073709551616 := ⟨_, rfl⟩
  obtain ⟨a2, ha2⟩ : ∃ a2, a2 = a % 18446744073709551616 := ⟨_, rfl⟩
  obtain ⟨b1, hb1⟩ : ∃ b1, b1 = b / 18446744073709551616 := ⟨_, rfl⟩
  obtain ⟨b2, hb2⟩ : ∃ b2, b2 = b % 18446744073709551616 := ⟨_, rfl⟩
  rw [eV, eV, ← ha1, ← ha2, ← hb1, ← hb2]
  have HA := Lib.hid (And.intro ha1 ha2); clear ha1 ha2
  have HB := Lib.hid (And.intro hb1 hb2); clear hb1 hb2
  have Ha := Lib.hid ha; clear ha
  have Hb := Lib.hid hb; clear hb
  go_enter Try.func50, Try.ntmps50
  go_wp2
  go_quiet (fail)
  go_wp2
  go_quiet (fail)
  go_wp2
  go_loop [5, 6, 7, 8, 9, 10, 21] (fun h l x y v u i => ∃ k h' l' x' y' v' u' : Nat, k ≤ 128 ∧ i = .int .i64 k ∧ h = .int .u64 (h' : Int) ∧ l = .int .u64 (l' : Int) ∧ x = .int .u64 (x' : Int) ∧ y = .int .u64 (y' : Int) ∧ v = .int .u64 (v' : Int) ∧ u = .int .u64 (u' : Int) ∧ Hid (h' = gL hX hbit k a b / 18446744073709551616 ∧ l' = gL hX hbit k a b % 18446744073709551616 ∧ x' = tX a k / 18446744073709551616 ∧ y' = tX a k % 18446744073709551616 ∧ v' = it hX k b / 18446744073709551616 ∧ u' = it hX k b % 18446744073709551616)) (fun _ _ _ _ _ _ i => 128 - (intOf i).toNat)
  case atStart =>
    have e0 : tX a 0 = a := by unfold tX; have := Ha.out; simp; omega
    exact ⟨0, 0, 0, a1, a2, b1, b2, by omega, rfl, rfl, rfl, rfl, rfl, rfl, rfl, Lib.hid ⟨by simp [gL], by simp [gL], by rw [e0]; exact HA.out.1, by rw [e0]; exact HA.out.2, HB.out.1, HB.out.2⟩⟩
  case round =>
    obtain ⟨k, h, l, x, y, v, u, hk, rfl, rfl, rfl, rfl, rfl, rfl, rfl, HL⟩ := hrel
    by_cases hlt : k < 128
    · go_wp2
      go_round
      case rel =>
        obtain ⟨h1, h2, h3, h4, h5, h6⟩ := HL.out
        have hG : gL hX hbit k a b < 340282366920938463463374607431768211456 := hgL_lt k a b Hb.out
        have hI : it hX k b < 340282366920938463463374607431768211456 := hit_lt k b Hb.out
        have hT := tX_lt a k
        have bit := tX_bit a k hlt
        have eg : gL hX hbit (k + 1) a b = gL hX hbit k a b ^^^ (if tX a k / 18446744073709551616 < 9223372036854775808 then 0 else it hX k b) := by
          rw [gL, bit]
          by_cases hc : tX a k / 18446744073709551616 < 9223372036854775808 <;> simp [hc]
        rw [tA h v x (by omega) (by omega) (by omega), tA l u x (by omega) (by omega) (by omega), tS x y (by omega) (by omega), tD y, tO v u (by omega) (by omega), tR v u (by omega) (by omega)]
        refine ⟨_, _, _, _, _, _, _, _, _, ⟨k + 1, by omega, by go_num, _, rfl, _, rfl, _, rfl, _, rfl, _, rfl, _, rfl, Lib.hid ⟨?_, ?_, ?_, ?_, ?_, ?_⟩⟩, rfl, rfl, rfl, rfl, rfl, rfl, rfl, rfl, rfl⟩
        · rw [eg, xor_hi, h1, h3, h5]; split <;> simp
        · rw [eg, xor_lo, h2, h3, h6]; split <;> simp
        · rw [tX_next, h3, h4]; omega
        · rw [tX_next, h4]; omega
        · rw [it, hX_hi _ hI, h5, h6]
        · rw [it, hX_lo, h5, h6]
      case measure => simp [intOf]; omega
    · obtain rfl : k = 128 := by omega
      go_wp2
      obtain ⟨e1, e2, _⟩ := HL.out
      rw [show eV (hm a b) = .agg #[.int .u64 (h : Int), .int .u64 (l : Int)] from by rw [e1, e2]; rfl]
      refine bodyPost_ret (el_ret (p := 4) (by kernel_rfl) _ _ (w.heap.size + 1 + 1) h l rfl ?_) rfl ⟨rfl, ?_⟩
      · refine el_set (p := .int .u64 0) (q := .int .u64 0) ?_
        have := heap_alloc_new ((w.alloc (Obj.cells #[Value.int IntKind.u64 a1, Value.int IntKind.u64 a2] 77)).alloc (Obj.cells #[Value.int IntKind.u64 b1, Value.int IntKind.u64 b2] 77)) (Obj.cells #[Value.int IntKind.u64 0, Value.int IntKind.u64 0] 77)
        rw [World.size_alloc, World.size_alloc] at this
        exact this
      · exact ((bdrewN ((((Below.refl _ _).alloc (Nat.le_refl _) _).alloc (by simp) _).alloc (by simp; omega) _) _).setCell (by simp; omega) _).setCell (by simp; omega) _
end Go.Proofs.Ytkfmgjipocmkjaa
