/-
  galois: the products, the code's and the document's.
-/
import Derived.Test.YtfgigoheaoanpaaProg
import Derived.Test.YtfgigoheaoanpaaBase
import Derived.Test.YtfgigoheaoanpaaGfB
namespace Go.Proofs.Ytfgigoheaoanpaa
open Go Go.RowKit
set_option linter.unusedVariables false
set_option linter.unusedSimpArgs false

theorem nbits_xor (a b : Nat) (ha : a < 256) (hb : b < 256) : bits .xor .u8 (a : Int) (b : Int) = ((a ^^^ b : Nat) : Int) := by
  have h : bits .xor .u8 (a : Int) (b : Int) = IntKind.u8.wrap (((BitVec.ofInt 8 (a : Int) ^^^ BitVec.ofInt 8 (b : Int)).toNat : Nat) : Int) := rfl
  rw [h, BitVec.toNat_xor, bv_nat _ _ ha, bv_nat _ _ hb]
  exact IntWalk.u8_in _ (by have : a ^^^ b < 2 ^ 8 := Nat.xor_lt_two_pow ha hb; omega)

theorem mul_y (y : Nat) (hy : y < 256) : bits .xor .u8 ((y : Int) * 2 % 256) (bits .and .u8 27 (-((y : Int) / 128) % 256)) = ((xt y : Nat) : Int) := by
  have := all256 (p := fun y => bits .xor .u8 ((y : Int) * 2 % 256) (bits .and .u8 27 (-((y : Int) / 128) % 256)) == ((xt y : Nat) : Int)) (by decide +kernel) y hy
  simpa using this
theorem and_one (x : Nat) (hx : x < 256) : bits .and .u8 (x : Int) 1 = if x.testBit 0 then 1 else 0 := by
  have := all256 (p := fun x => bits .and .u8 (x : Int) 1 == if x.testBit 0 then 1 else 0) (by decide +kernel) x hx
  simpa using this
theorem and_all (y : Nat) (hy : y < 256) : bits .and .u8 (y : Int) 255 = (y : Int) := by
  have := all256 (p := fun y => bits .and .u8 (y : Int) 255 == (y : Int)) (by decide +kernel) y hy
  simpa using this
theorem and_none (y : Nat) (hy : y < 256) : bits .and .u8 (y : Int) 0 = 0 := by
  have := all256 (p := fun y => bits .and .u8 (y : Int) 0 == 0) (by decide +kernel) y hy
  simpa using this
theorem mul_p (x y : Nat) (hx : x < 256) (hy : y < 256) : bits .and .u8 (y : Int) (-bits .and .u8 (x : Int) 1 % 256) = ((if x.testBit 0 then y else 0 : Nat) : Int) := by
  rw [and_one x hx]
  by_cases h : x.testBit 0 = true
  · simp only [h, if_true]; exact and_all y hy
  · simp only [h]; exact and_none y hy

set_option maxHeartbeats 400000 in
theorem mul_any (a b : Nat) (w : World) (ha : a < 256) (hb : b < 256) :
    Calls Try.prog 56 #[.int .u8 (a : Int), .int .u8 (b : Int)] w fun e w' => e = .returned (.int .u8 (gm a b : Int)) ∧ w' = w := by
  go_enter Try.func56, Try.ntmps56
  go_wp2
  go_loop [0, 1, 5, 6] (fun x y p i => ∃ k m : Nat, k ≤ 8 ∧ m < 256 ∧ Hid (m = a >>> k) ∧ i = .int .i64 k ∧ x = .int .u8 (m : Int) ∧ y = .int .u8 (it xt k b : Int) ∧ p = .int .u8 (gL xt Nat.testBit k a b : Int)) (fun _ _ _ i => 8 - (intOf i).toNat)
  case atStart => exact ⟨0, a, Nat.zero_le _, ha, Lib.hid rfl, rfl, rfl, rfl, rfl⟩
  case round =>
    obtain ⟨k, m, hk, hm, HM, rfl, rfl, rfl, rfl⟩ := hrel
    have hy := it_lt k b hb
    have hp := gL_lt k a b hb
    by_cases hlt : k < 8
    · go_wp2
      go_round
      case rel =>
        refine ⟨k + 1, m / 2, by omega, by omega, Lib.hid ?_, by go_num, ?_, ?_, ?_⟩
        · rw [HM.out, Nat.shiftRight_succ]
        · go_num
        · rw [mul_y _ hy]; rfl
        · rw [mul_p _ _ hm hy, nbits_xor _ _ hp (by split <;> omega), gL]
          rw [HM.out, Nat.testBit_shiftRight, Nat.add_zero]
      case measure => simp [intOf]; omega
    · obtain rfl : k = 8 := by omega
      go_wp2
      go_ret
      exact ⟨rfl, rfl⟩

theorem bt_test (b k : Nat) (hk : k < 8) : b.testBit k = decide (bt b k = 1) := by
  rw [Nat.testBit_eq_decide_div_mod_eq, bt, Nat.mod_eq_of_lt hk]
theorem w64 (a : Nat) (h : a < 9223372036854775808) : IntKind.i64.wrap (a : Int) = (a : Int) := IntWalk.i64_in _ (by omega)
theorem w64n (a : Nat) (h : a < 9223372036854775808) : wrap64 (a : Int) = (a : Int) := IntWalk.wrap64_in _ (by omega)
theorem shl64 (a k m : Nat) (ha : a < 2 ^ m) (h : m + k ≤ 62) : wrap64 ((a : Int) * 2 ^ k) = ((a <<< k : Nat) : Int) := by
  have h1 := shl_lt a k m ha
  have h2 : 2 ^ (m + k) ≤ 2 ^ 62 := Nat.pow_le_pow_right (by omega) h
  have e : ((a : Int) * 2 ^ k) = ((a <<< k : Nat) : Int) := by rw [Nat.shiftLeft_eq]; simp
  rw [e]
  exact w64n _ (by omega)
theorem xor64 (a b : Nat) (ha : a < 2 ^ 62) (hb : b < 2 ^ 62) : bits .xor .i64 (a : Int) (b : Int) = ((a ^^^ b : Nat) : Int) := by
  have h : bits .xor .i64 (a : Int) (b : Int) = IntKind.i64.wrap (((BitVec.ofInt 64 (a : Int) ^^^ BitVec.ofInt 64 (b : Int)).toNat : Nat) : Int) := rfl
  rw [h, BitVec.toNat_xor, bv_nat _ _ (by omega), bv_nat _ _ (by omega)]
  exact w64 _ (by have := Nat.xor_lt_two_pow ha hb; omega)

theorem one_of {n : Nat} (h : ((n : Int) == 1) = true) : n = 1 := by
  rw [beq_iff_eq] at h; omega
theorem not_one_of {n : Nat} (h : ((n : Int) == 1) = false) : n ≠ 1 := by
  rw [beq_eq_false_iff_ne] at h; omega
theorem ctmod (a k : Nat) : ((a : Int) / 2 ^ k).tmod 2 = ((a / 2 ^ k % 2 : Nat) : Int) := by
  have h : (a : Int) / 2 ^ k = ((a / 2 ^ k : Nat) : Int) := by simp
  rw [h, Int.tmod_eq_emod_of_nonneg (Int.natCast_nonneg _)]
  rfl
theorem w64d (a k : Nat) (h : a < 9223372036854775808) : wrap64 ((a : Int) / 2 ^ k) = (a : Int) / 2 ^ k := by
  have e : (a : Int) / 2 ^ k = ((a / 2 ^ k : Nat) : Int) := by simp
  rw [e]
  exact w64n _ (Nat.lt_of_le_of_lt (Nat.div_le_self a (2 ^ k)) h)

set_option maxHeartbeats 400000 in
theorem bit_any (a i : Nat) (w : World) (ha : a < 256) (hi : i ≤ 1000) :
    Calls Try.prog 48 #[.int .u8 (a : Int), .int .i64 (i : Int)] w fun e w' => e = .returned (.int .i64 (bt a i : Int)) ∧ w' = w := by
  go_enter Try.func48, Try.ntmps48
  go_wp2
  go_ret
  exact ⟨ret_int (by unfold bt; rw [← ctmod]; exact congrArg (fun x : Int => x.tmod 2) (w64d _ _ (by omega))), rfl⟩

set_option maxHeartbeats 400000 in
theorem rmul_any (a b : Nat) (w : World) (ha : a < 256) (hb : b < 256) :
    Calls Try.prog 55 #[.int .u8 (a : Int), .int .u8 (b : Int)] w fun e w' => e = .returned (.int .u8 (gm a b : Int)) ∧ w' = w := by
  have hr := rm_eq a b ha hb
  have hrl : rm a b < 256 := by rw [hr]; exact gm_lt a b hb
  rw [← hr]
  clear hr
  go_enter Try.func55, Try.ntmps55
  go_wp2
  go_loop [5, 6] (fun p i => ∃ k c : Nat, k ≤ 8 ∧ c < 32768 ∧ Hid (c = clm a b k) ∧ i = .int .i64 k ∧ p = .int .i64 (c : Int)) (fun _ i => 8 - (intOf i).toNat)
  case atStart => exact ⟨0, 0, Nat.zero_le _, by omega, Lib.hid rfl, rfl, rfl⟩
  case round =>
    obtain ⟨k, c, hk, hc, HC, rfl, rfl⟩ := hrel
    by_cases hlt : k < 8
    · have hl := clm_lt a b (k + 1) ha (by omega)
      go_wp2_with (go_at_call 48; refine (bit_any _ _ _ hb (by omega)).mono ?_; rintro e w' ⟨rfl, rfl⟩)
      · have h1 : ((bt b k : Int) == 1) = true := by assumption
        have h1 := one_of h1
        go_round
        case rel =>
          refine ⟨k + 1, clm a b (k + 1), by omega, hl, Lib.hid rfl, by go_num, ?_⟩
          have hs : a <<< k < 2 ^ 62 := Nat.lt_of_lt_of_le (shl_lt a k 8 ha) (Nat.pow_le_pow_right (by omega) (by omega))
          have e : clm a b (k + 1) = c ^^^ a <<< k := by
            rw [clm, bt_test b k hlt, h1, ← HC.out]; rfl
          rw [e]
          exact val_int (by rw [← xor64 _ _ (by omega) hs]; exact congrArg _ (shl64 a k 8 ha (by omega)))
        case measure => simp [intOf]; omega
      · have h1 : ((bt b k : Int) == 1) = false := by assumption
        have h1 := not_one_of h1
        go_round
        case rel =>
          refine ⟨k + 1, clm a b (k + 1), by omega, hl, Lib.hid rfl, by go_num, ?_⟩
          rw [clm, bt_test b k hlt, ← HC.out]
          simp [h1]
        case measure => simp [intOf]; omega
    · obtain rfl : k = 8 := by omega
      go_wp2
      go_loop [5, 7] (fun p i => ∃ j d : Nat, j ≤ 7 ∧ d < 32768 ∧ Hid (d = rsd (clm a b 8) j) ∧ i = .int .i64 (14 - (j : Int)) ∧ p = .int .i64 (d : Int)) (fun _ i => (intOf i).toNat)
      case atStart => exact ⟨0, c, Nat.zero_le _, hc, HC, rfl, rfl⟩
      case round =>
        obtain ⟨j, d, hj, hd, HD, rfl, rfl⟩ := hrel
        by_cases hlt2 : j < 7
        · obtain ⟨i, hi⟩ : ∃ i : Nat, i = 14 - j := ⟨_, rfl⟩
          have ei : (14 : Int) - (j : Int) = (i : Int) := by omega
          have i1 : 8 ≤ i := by omega
          have i2 : i ≤ 14 := by omega
          rw [ei]
          have HI := Lib.hid hi; clear hi
          clear ei
          have hl : rst i d < 32768 := rst_lt i d i1 i2 hd
          have hx : d.testBit i = decide (d / 2 ^ i % 2 = 1) := Nat.testBit_eq_decide_div_mod_eq
          have HX := Lib.hid hx; clear hx
          go_wp2
          · have h1 : (((d : Int) / 2 ^ i).tmod 2 == 1) = true := by assumption
            rw [ctmod] at h1
            have h1 := one_of h1
            go_round
            case rel =>
              have e : rst i d = d ^^^ 283 <<< (i - 8) := by rw [rst, HX.out, h1]; rfl
              have h2 := mod_lt i i1 i2
              refine ⟨j + 1, rst i d, by omega, hl, Lib.hid ?_, ?_, ?_⟩
              · rw [rsd, ← HD.out, ← HI.out]
              · exact val_int (by have := HI.out; omega)
              · rw [e]
                exact val_int (by rw [← xor64 _ _ (by omega) (by omega)]; exact congrArg _ (shl64 283 (i - 8) 9 (by decide) (by omega)))
            case measure => simp [intOf]; omega
          · have h1 : (((d : Int) / 2 ^ i).tmod 2 == 1) = false := by assumption
            rw [ctmod] at h1
            have h1 := not_one_of h1
            go_round
            case rel =>
              have e : rst i d = d := by rw [rst, HX.out]; simp [h1]
              refine ⟨j + 1, d, by omega, hd, Lib.hid ?_, ?_, rfl⟩
              · rw [rsd, ← HD.out, ← HI.out, e]
              · exact val_int (by have := HI.out; omega)
            case measure => simp [intOf]; omega
        · obtain rfl : j = 7 := by omega
          go_wp2
          go_ret
          exact ⟨ret_int (by have h : d = rm a b := HD.out; omega), rfl⟩
end Go.Proofs.Ytfgigoheaoanpaa
