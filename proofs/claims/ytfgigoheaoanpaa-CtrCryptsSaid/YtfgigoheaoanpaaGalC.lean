/-
  galois: substitutes and back, the code's and the document's.
-/
import Derived.Test.YtfgigoheaoanpaaGalB
namespace Go.Proofs.Ytfgigoheaoanpaa
open Go Go.RowKit
set_option linter.unusedVariables false
set_option linter.unusedSimpArgs false

theorem and7 (n s : Nat) (hn : 1 ≤ n) (h : n + s = 8) (hs : 1 ≤ s) : bits .and .u64 (IntKind.u64.wrap (-(n : Int))) 7 = (s : Int) := by
  have hn7 : n ≤ 7 := by omega
  obtain rfl : s = 8 - n := by omega
  rcases n with _ | _ | _ | _ | _ | _ | _ | _ | n
  · omega
  all_goals first | decide +kernel | omega
theorem nbits_or (a b : Nat) (ha : a < 256) (hb : b < 256) : bits .or .u8 (a : Int) (b : Int) = ((a ||| b : Nat) : Int) := by
  have h : bits .or .u8 (a : Int) (b : Int) = IntKind.u8.wrap (((BitVec.ofInt 8 (a : Int) ||| BitVec.ofInt 8 (b : Int)).toNat : Nat) : Int) := rfl
  rw [h, BitVec.toNat_or, bv_nat _ _ ha, bv_nat _ _ hb]
  exact IntWalk.u8_in _ (by have : a ||| b < 2 ^ 8 := Nat.or_lt_two_pow ha hb; omega)
theorem rot_val (x n s : Nat) (hx : x < 256) (h : s = 8 - n) (hn : n ≤ 8) : bits .or .u8 ((x : Int) * 2 ^ s % 256) ((x : Int) / 2 ^ (8 - s)) = ((rot x n : Nat) : Int) := by
  have e1 : ((x : Int) * 2 ^ s % 256) = ((x <<< s % 256 : Nat) : Int) := by rw [Nat.shiftLeft_eq]; simp
  have e2 : ((x : Int) / 2 ^ (8 - s)) = ((x >>> n : Nat) : Int) := by
    rw [show 8 - s = n from by omega, Nat.shiftRight_eq_div_pow]; simp
  rw [e1, e2, nbits_or _ _ (Nat.mod_lt _ (by omega)) (Nat.lt_of_le_of_lt (Nat.shiftRight_le x n) hx), rot, h]

set_option maxHeartbeats 400000 in
theorem rotl_any (x n : Nat) (w : World) (hx : x < 256) (hn : 1 ≤ n) (hn' : n ≤ 7) :
    Calls Try.prog 57 #[.int .u8 (x : Int), .int .i64 (-(n : Int))] w fun e w' => e = .returned (.int .u8 (rot x n : Int)) ∧ w' = w := by
  obtain ⟨s, hs⟩ : ∃ s, s = 8 - n := ⟨_, rfl⟩
  have h1 : 1 ≤ s := by omega
  have h2 : s ≤ 7 := by omega
  have he := and7 n s hn (by omega) h1
  have HS := Lib.hid hs; clear hs
  go_enter Try.func57, Try.ntmps57
  go_wp2
  go_ret
  exact ⟨ret_int (rot_val x n s hx HS.out (by omega)), rfl⟩

set_option maxHeartbeats 400000 in
theorem ahead_any (x n : Nat) (w : World) (hx : x < 256) (hn : 1 ≤ n) (hn' : n ≤ 7) :
    Calls Try.prog 53 #[.int .u8 (x : Int), .int .i64 (n : Int)] w fun e w' => e = .returned (.int .u8 (rot x n : Int)) ∧ w' = w := by
  go_enter Try.func53, Try.ntmps53
  go_wp2_with (go_at_call 57; refine (rotl_any x n _ hx hn hn').mono ?_; rintro e w' ⟨rfl, rfl⟩)
  go_ret
  exact ⟨rfl, rfl⟩

theorem ahead_int (x : Nat) (i : Int) (n : Nat) (h : i = (n : Int)) (w : World) (hx : x < 256) (hn : 1 ≤ n) (hn' : n ≤ 7) :
    Calls Try.prog 53 #[.int .u8 (x : Int), .int .i64 i] w fun e w' => e = .returned (.int .u8 (rot x n : Int)) ∧ w' = w := by
  subst h
  exact ahead_any x n w hx hn hn'

theorem xors_val (l : List Nat) : ∀ (b : Nat), b < 256 → (∀ x ∈ l, x < 256) → (l.foldl (fun (v : Int) (x : Nat) => bits .xor .u8 v (x : Int)) (b : Int)) = ((l.foldl (· ^^^ ·) b : Nat) : Int) := by
  induction l with
  | nil => intros; rfl
  | cons x l ih =>
    intro b hb hl
    have hx := hl x (by simp)
    rw [List.foldl_cons, List.foldl_cons, nbits_xor _ _ hb hx]
    exact ih _ (Nat.xor_lt_two_pow (n := 8) hb hx) fun y hy => hl y (by simp [hy])

set_option maxHeartbeats 1000000 in
theorem sub_any (a : Nat) (w : World) (ha : a < 256) :
    Calls Try.prog 42 #[.int .u8 (a : Int)] w fun e w' => e = .returned (.int .u8 (gs a : Int)) ∧ w' = w := by
  have hi := gi_lt a ha
  unfold gs
  have hc := fun w => inv_any a w ha
  generalize gi a = b at *
  have HC := Lib.hid hc; clear hc
  have hv := xors_val [rot b 4, rot b 5, rot b 6, rot b 7, 99] b hi (by
    intro x hx
    simp only [List.mem_cons, List.not_mem_nil, or_false] at hx
    rcases hx with rfl | rfl | rfl | rfl | rfl
    · exact rot_lt _ _ hi
    · exact rot_lt _ _ hi
    · exact rot_lt _ _ hi
    · exact rot_lt _ _ hi
    · omega)
  have HV := Lib.hid hv; clear hv
  go_enter Try.func42, Try.ntmps42
  go_wp2_with fail
  refine (HC.out _).mono ?_
  rintro e w' ⟨rfl, rfl⟩
  go_wp2_with fail
  refine (ahead_int b 4 4 rfl _ hi (by omega) (by omega)).mono ?_
  rintro e w' ⟨rfl, rfl⟩
  go_wp2_with fail
  refine (ahead_int b 5 5 rfl _ hi (by omega) (by omega)).mono ?_
  rintro e w' ⟨rfl, rfl⟩
  go_wp2_with fail
  refine (ahead_int b 6 6 rfl _ hi (by omega) (by omega)).mono ?_
  rintro e w' ⟨rfl, rfl⟩
  go_wp2_with fail
  refine (ahead_int b 7 7 rfl _ hi (by omega) (by omega)).mono ?_
  rintro e w' ⟨rfl, rfl⟩
  go_wp2_with fail
  go_ret
  exact ⟨ret_int HV.out, rfl⟩

theorem bit_int (a' : Int) (a : Nat) (i : Int) (n : Nat) (h : a' = (a : Int)) (hi : i = (n : Int)) (w : World) (ha : a < 256) (h1 : n ≤ 1000) :
    Calls Try.prog 48 #[.int .u8 a', .int .i64 i] w fun e w' => e = .returned (.int .i64 (bt a n : Int)) ∧ w' = w := by
  subst h hi
  exact bit_any a n w ha (by omega)

set_option maxHeartbeats 1000000 in
theorem rsub_any (a : Nat) (w : World) (ha : a < 256) :
    Calls Try.prog 33 #[.int .u8 (a : Int)] w fun e w' => e = .returned (.int .u8 (gs a : Int)) ∧ w' = w := by
  have hi := gi_lt a ha
  unfold gs
  have hc := fun w => rinv_any a w ha
  generalize gi a = b at *
  have HC := Lib.hid hc; clear hc
  have HF := Lib.hid (rfs_eq b hi)
  have hfl := af_lt b hi
  go_enter Try.func33, Try.ntmps33
  go_wp2_with fail
  refine (HC.out _).mono ?_
  rintro e w' ⟨rfl, rfl⟩
  go_wp2_with fail
  go_loop [4, 5] (fun s i => ∃ k j t : Nat, k ≤ 8 ∧ k + j = 8 ∧ i = .int .i64 ((j : Int) - 1) ∧ t < 256 ∧ Hid (t = rfs b k) ∧ s = .int .i64 (t : Int)) (fun _ i => (intOf i + 1).toNat)
  case atStart => exact ⟨0, 8, 0, by omega, by omega, rfl, by omega, Lib.hid rfl, rfl⟩
  case round =>
    obtain ⟨k, j, t, hk, hj, rfl, ht, HT, rfl⟩ := hrel
    by_cases hlt : k < 8
    · obtain ⟨i, rfl⟩ : ∃ i, j = i + 1 := ⟨j - 1, by omega⟩
      rw [show (((i + 1 : Nat) : Int)) - 1 = (i : Int) from by omega]
      have hi7 : i ≤ 7 := by omega
      have q0 := bt_le b i
      have q4 := bt_le b (i + 4)
      have q5 := bt_le b (i + 5)
      have q6 := bt_le b (i + 6)
      have q7 := bt_le b (i + 7)
      have q8 := bt_le 99 i
      have hs : rfs b (k + 1) = 2 * t + (bt b i + bt b (i + 4) + bt b (i + 5) + bt b (i + 6) + bt b (i + 7) + bt 0x63 i) % 2 := by
        rw [rfs, ← HT.out, show 7 - k = i from by omega]
      have hsl := rfs_lt b (k + 1)
      have hp : 2 ^ (k + 1) ≤ 2 ^ 8 := Nat.pow_le_pow_right (by omega) (by omega)
      have hsl : rfs b (k + 1) < 256 := by omega
      have HS := Lib.hid hs; clear hs hp
      go_wp2_with fail
      refine (bit_int b b i i rfl rfl _ hi (by omega)).mono ?_
      rintro e w' ⟨rfl, rfl⟩
      go_wp2_with fail
      refine (bit_int b b _ (i + 4) rfl (by omega) _ hi (by omega)).mono ?_
      rintro e w' ⟨rfl, rfl⟩
      go_wp2_with fail
      refine (bit_int b b _ (i + 5) rfl (by omega) _ hi (by omega)).mono ?_
      rintro e w' ⟨rfl, rfl⟩
      go_wp2_with fail
      refine (bit_int b b _ (i + 6) rfl (by omega) _ hi (by omega)).mono ?_
      rintro e w' ⟨rfl, rfl⟩
      go_wp2_with fail
      refine (bit_int b b _ (i + 7) rfl (by omega) _ hi (by omega)).mono ?_
      rintro e w' ⟨rfl, rfl⟩
      go_wp2_with fail
      refine (bit_int 99 99 i i rfl rfl _ (by omega) (by omega)).mono ?_
      rintro e w' ⟨rfl, rfl⟩
      go_wp2_with fail
      go_round
      case rel => exact ⟨k + 1, i, rfs b (k + 1), by omega, by omega, rfl, hsl, Lib.hid rfl, val_int (by have := HS.out; omega)⟩
      case measure => simp [intOf]
    · obtain rfl : k = 8 := by omega
      obtain rfl : j = 0 := by omega
      go_wp2
      go_ret
      exact ⟨ret_int (by have := HF.out; have := HT.out; omega), rfl⟩

end Go.Proofs.Ytfgigoheaoanpaa
