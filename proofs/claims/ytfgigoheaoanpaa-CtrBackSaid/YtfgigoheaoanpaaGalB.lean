/-
  galois: powers and inverses, the code's and the document's.
-/
import Derived.Test.YtfgigoheaoanpaaGalA
namespace Go.Proofs.Ytfgigoheaoanpaa
open Go Go.RowKit
set_option linter.unusedVariables false
set_option linter.unusedSimpArgs false

theorem pow_odd (p x m : Nat) (hp : p < 256) (hx : x < 256) (h : m % 2 = 1) : gm (gm p x) (gp (gm x x) (m / 2)) = gm p (gp x m) := by
  have e : m = 1 + 2 * (m / 2) := by omega
  conv => rhs; rw [e]
  rw [gp_add x _ _ hx, gp_one x hx, gp_two x _ hx, gm_assoc _ _ _ hx (gp_lt _ _ (gm_lt _ _ hx))]
theorem pow_even (x m : Nat) (hx : x < 256) (h : m % 2 = 0) : gp (gm x x) (m / 2) = gp x m := by
  have e : m = 2 * (m / 2) := by omega
  conv => rhs; rw [e]
  rw [gp_two x _ hx]
theorem and32 (m : Nat) (hm : m < 4294967296) : bits .and .u32 (m : Int) 1 = ((m % 2 : Nat) : Int) := by
  have h : bits .and .u32 (m : Int) 1 = IntKind.u32.wrap (((BitVec.ofInt 32 (m : Int) &&& BitVec.ofInt 32 ((1 : Nat) : Int)).toNat : Nat) : Int) := rfl
  rw [h, BitVec.toNat_and, bv_nat _ _ hm, bv_nat _ _ (by omega), Nat.and_one_is_mod]
  exact IntWalk.u32_in _ (by omega)

set_option maxHeartbeats 400000 in
theorem power_any (a n : Nat) (w : World) (ha : a < 256) (hn : n < 4294967296) :
    Calls Try.prog 51 #[.int .u8 (a : Int), .int .u32 (n : Int)] w fun e w' => e = .returned (.int .u8 (gp a n : Int)) ∧ w' = w := by
  go_enter Try.func51, Try.ntmps51
  go_wp2
  go_loop [0, 1, 5] (fun x m p => ∃ x' m' p' : Nat, x' < 256 ∧ m' < 4294967296 ∧ p' < 256 ∧ Hid (gm p' (gp x' m') = gp a n) ∧ x = .int .u8 (x' : Int) ∧ m = .int .u32 (m' : Int) ∧ p = .int .u8 (p' : Int)) (fun _ m _ => (intOf m).toNat)
  case atStart => exact ⟨a, n, 1, ha, hn, by omega, Lib.hid (by rw [gm_comm 1 _ (by omega) (gp_lt a n ha)]; exact gm_one _ (gp_lt a n ha)), rfl, rfl, rfl⟩
  case round =>
    obtain ⟨x, m, p, hx, hm, hp, HG, rfl, rfl, rfl⟩ := hrel
    have hand := and32 m hm
    by_cases h0 : 0 < m
    · by_cases h1 : m % 2 = 1
      · have hb : (bits .and .u32 (m : Int) 1 == 1) = true := by rw [hand, h1]; rfl
        clear hand
        go_wp2_with (go_at_call 56; refine (mul_any _ _ _ (by assumption) (by assumption)).mono ?_; rintro e w' ⟨rfl, rfl⟩)
        go_round
        case rel => exact ⟨gm x x, m / 2, gm p x, gm_lt _ _ hx, by omega, gm_lt _ _ hx, Lib.hid (by rw [pow_odd p x m hp hx h1]; exact HG.out), rfl, rfl, rfl⟩
        case measure => simp [intOf]; omega
      · have hb : (bits .and .u32 (m : Int) 1 == 1) = false := by rw [hand, beq_eq_false_iff_ne]; omega
        clear hand
        go_wp2_with (go_at_call 56; refine (mul_any _ _ _ (by assumption) (by assumption)).mono ?_; rintro e w' ⟨rfl, rfl⟩)
        go_round
        case rel => exact ⟨gm x x, m / 2, p, gm_lt _ _ hx, by omega, hp, Lib.hid (by rw [pow_even x m hx (by omega)]; exact HG.out), rfl, rfl, rfl⟩
        case measure => simp [intOf]; omega
    · obtain rfl : m = 0 := by omega
      clear hand
      go_wp2
      go_ret
      exact ⟨ret_int (by have h : gm p 1 = gp a n := HG.out; rw [gm_one p hp] at h; rw [h]), rfl⟩

set_option maxHeartbeats 400000 in
theorem inv_any (a : Nat) (w : World) (ha : a < 256) :
    Calls Try.prog 52 #[.int .u8 (a : Int)] w fun e w' => e = .returned (.int .u8 (gi a : Int)) ∧ w' = w := by
  have HP := Lib.hid (gi_pow a ha)
  go_enter Try.func52, Try.ntmps52
  go_wp2_with (go_at_call 51; refine (power_any a 254 _ ha (by omega)).mono ?_; rintro e w' ⟨rfl, rfl⟩)
  go_ret
  exact ⟨ret_int (by rw [HP.out]), rfl⟩

set_option maxHeartbeats 400000 in
theorem rpower_any (a n : Nat) (w : World) (ha : a < 256) (hn : n < 4294967296) :
    Calls Try.prog 46 #[.int .u8 (a : Int), .int .u32 (n : Int)] w fun e w' => e = .returned (.int .u8 (gp a n : Int)) ∧ w' = w := by
  by_cases h0 : n = 0
  · subst h0
    go_enter Try.func46, Try.ntmps46
    go_wp2
    go_ret
    exact ⟨rfl, rfl⟩
  · have hz : ((n : Int) == 0) = false := by rw [beq_eq_false_iff_ne]; omega
    by_cases h1 : a = 0
    · subst h1
      have HP := Lib.hid (gp_nought n h0)
      go_enter Try.func46, Try.ntmps46
      go_wp2
      go_ret
      exact ⟨ret_int (by rw [HP.out]; rfl), rfl⟩
    · have hza : ((a : Int) == 0) = false := by rw [beq_eq_false_iff_ne]; omega
      rw [gp_mod a n ha h1]
      clear h0 h1
      go_enter Try.func46, Try.ntmps46
      go_wp2
      go_loop [5, 6] (fun c i => ∃ k : Nat, k ≤ n % 255 ∧ i = .int .u32 (k : Int) ∧ c = .int .u8 (gp a k : Int)) (fun _ i => n % 255 - (intOf i).toNat)
      case atStart => exact ⟨0, Nat.zero_le _, rfl, rfl⟩
      case round =>
        obtain ⟨k, hk, rfl, rfl⟩ := hrel
        have hc := gp_lt a k ha
        have h255 : n % 255 < 255 := Nat.mod_lt _ (by omega)
        by_cases hlt : k < n % 255
        · go_wp2_with (go_at_call 55; refine (rmul_any _ _ _ (by assumption) (by assumption)).mono ?_; rintro e w' ⟨rfl, rfl⟩)
          go_round
          case rel => exact ⟨k + 1, by omega, by go_num, rfl⟩
          case measure => simp [intOf]; omega
        · obtain rfl : k = n % 255 := by omega
          go_wp2
          go_ret
          exact ⟨rfl, rfl⟩

set_option maxRecDepth 100000 in
set_option maxHeartbeats 400000 in
theorem rinv_any (a : Nat) (w : World) (ha : a < 256) :
    Calls Try.prog 47 #[.int .u8 (a : Int)] w fun e w' => e = .returned (.int .u8 (gi a : Int)) ∧ w' = w := by
  go_enter Try.func47, Try.ntmps47
  go_wp2
  go_loop [3] (fun i => ∃ k : Nat, k ≤ 256 ∧ i = .int .i64 (k : Int) ∧ Hid (∀ j, j < k → gm a j ≠ 1)) (fun i => 256 - (intOf i).toNat)
  case atStart => exact ⟨0, Nat.zero_le _, rfl, Lib.hid (fun j hj => by omega)⟩
  case round =>
    obtain ⟨k, hk, rfl, HN⟩ := hrel
    by_cases hlt : k < 256
    · by_cases h1 : gm a k = 1
      · have HU := Lib.hid (gm_uniq a k ha hlt h1)
        have hb : ((gm a k : Int) == 1) = true := by rw [h1]; rfl
        clear h1
        go_wp2_with (go_at_call 55; refine (rmul_any a k _ ha hlt).mono ?_; rintro e w' ⟨rfl, rfl⟩)
        go_ret
        exact ⟨ret_int (by rw [← HU.out]), rfl⟩
      · have hb : ((gm a k : Int) == 1) = false := by rw [beq_eq_false_iff_ne]; omega
        have H1 := Lib.hid h1
        clear h1
        go_wp2_with (go_at_call 55; refine (rmul_any a k _ ha hlt).mono ?_; rintro e w' ⟨rfl, rfl⟩)
        go_round
        case rel =>
          refine ⟨k + 1, by omega, by go_num, Lib.hid fun j hj => ?_⟩
          by_cases hj' : j = k
          · subst hj'; exact H1.out
          · exact HN.out j (by omega)
        case measure => simp [intOf]; omega
    · obtain rfl : k = 256 := by omega
      have h0 : a = 0 := by
        by_cases h0 : a = 0
        · exact h0
        · exact absurd (gm_gi a ha h0) (HN.out _ (gi_lt a ha))
      subst h0
      have HZ := Lib.hid gi_zero
      go_wp2
      go_ret
      exact ⟨ret_int (by rw [HZ.out]; rfl), rfl⟩
end Go.Proofs.Ytfgigoheaoanpaa
