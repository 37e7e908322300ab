/-
  The code's number at the beginning of bytes (layer 7): what it answers, of whatever bytes.
-/
import Derived.Test.YtbepibkbghmkkaaPkH
namespace Go.Proofs.Ytbepibkbghmkkaa
open Go Go.RowKit
set_option linter.unusedVariables false
set_option linter.unusedSimpArgs false

theorem andnot_128 (x : Nat) (h : x < 256) : bits .andNot .u8 (x : Int) 128 = ((x % 128 : Nat) : Int) :=
  (show ∀ y : Fin 256, bits .andNot .u8 (y.val : Int) 128 = ((y.val % 128 : Nat) : Int) by decide +kernel) ⟨x, h⟩
theorem or_128 (x : Nat) (h : x < 256) : bits .or .u8 (x : Int) 128 = ((x % 128 + 128 : Nat) : Int) :=
  (show ∀ y : Fin 256, bits .or .u8 (y.val : Int) 128 = ((y.val % 128 + 128 : Nat) : Int) by decide +kernel) ⟨x, h⟩
theorem pow_128 (k : Nat) : (128 : Nat) ^ k = 2 ^ (7 * k) := by rw [Nat.pow_mul]
theorem or_above (a m k : Nat) (ha : a < 128 ^ k) : a ||| (m * 128 ^ k) = a + m * 128 ^ k := by
  rw [pow_128] at ha ⊢
  rw [Nat.or_comm, ← Nat.shiftLeft_eq, ← Nat.shiftLeft_add_eq_or_of_lt ha, Nat.add_comm]
theorem or_shift (acc m k : Nat) (hk : k ≤ 9) (hm : m < 128) (ha : acc < 128 ^ k) (h9 : k = 9 → m ≤ 1) : bits .or .u64 (acc : Int) (IntKind.u64.wrap ((m : Int) * 2 ^ (7 * k))) = ((acc + m * 128 ^ k : Nat) : Int) := by
  have e9 : (128 : Nat) ^ 9 = 9223372036854775808 := by decide
  have e8 : (128 : Nat) ^ 8 = 72057594037927936 := by decide
  have h1 : 128 ^ k ≤ 128 ^ 9 := Nat.pow_le_pow_right (by omega) hk
  have hb : m * 128 ^ k ≤ 9223372036854775808 := by
    by_cases h : k = 9
    · have h2 := h9 h
      subst h
      have h3 : m * 128 ^ 9 ≤ 1 * 128 ^ 9 := Nat.mul_le_mul_right _ h2
      omega
    · have h2 : 128 ^ k ≤ 128 ^ 8 := Nat.pow_le_pow_right (by omega) (by omega)
      have h3 : m * 128 ^ k ≤ 127 * 128 ^ k := Nat.mul_le_mul_right _ (by omega)
      omega
  have e1 : (m : Int) * 2 ^ (7 * k) = ((m * 128 ^ k : Nat) : Int) := by rw [pow_128, Int.natCast_mul, Int.natCast_pow]; rfl
  rw [e1, IntWalk.u64_in _ (by omega), bits64_or _ _ (by omega) (by omega), or_above acc m k ha]

set_option maxRecDepth 100000 in
set_option maxHeartbeats 8000000 in
theorem cnumber_any (A : Option Addr) (l : List Nat) (n cap : Nat) (hn : l.length = n) (hl : ∀ x ∈ l, x < 256) (hle : n ≤ 140737488351360) (w : World) {BB : Nat} (h : Rd w BB A (vn l)) :
    Calls Try.prog 28 #[.slice A n cap] w fun e w' => e = .returned (.tuple #[.int .u64 ((tk l).1 : Int), .int .i64 ((tk l).2.1 : Int), .int .i64 ((tk l).2.2 : Int)]) ∧ w' = w := by
  have HN := Lib.hid hn; clear hn
  have H := Lib.hid h; clear h
  have HL := Lib.hid hl; clear hl
  go_enter Try.func28, Try.ntmps28
  go_wp2_with fail
  go_loopw [2, 9] (fun a i wr => ∃ k acc : Nat, k ≤ n ∧ k ≤ 9 ∧ i = .int .i64 (k : Int) ∧ a = .int .u64 (acc : Int) ∧ Hid (tk l = tkL (l.drop k) k acc (128 ^ k)) ∧ Hid (acc < 128 ^ k) ∧ w = wr) (fun _ i _ => n - (intOf i).toNat)
  case atStart => exact ⟨0, 0, by omega, by omega, rfl, rfl, Lib.hid rfl, Lib.hid (by decide), rfl⟩
  case round =>
    obtain ⟨k, acc, hk, hk9, rfl, rfl, HT, HY, rfl⟩ := hrel
    by_cases hlt : k < n
    · have hki : (k : Int) < (n : Int) := by omega
      obtain ⟨ad, rfl, hbd, hck⟩ := H.out.num (k := k) (by rw [HN.out]; exact hlt)
      have hgx : l[k]? = some (l.getD k 0) := by rw [List.getD_eq_getElem?_getD, List.getElem?_eq_getElem (by rw [HN.out]; exact hlt)]; rfl
      obtain ⟨x, hx⟩ : ∃ x, x = l.getD k 0 := ⟨_, rfl⟩
      rw [← hx] at hck hgx
      have hx256 : x < 256 := HL.out x (List.mem_of_getElem? hgx)
      have hd := HT.out.trans (tkL_drop l k acc (128 ^ k) x hgx)
      obtain ⟨m, hm⟩ : ∃ m, m = x % 128 := ⟨_, rfl⟩
      have hm128 : m < 128 := by omega
      have HM := Lib.hid hm
      have q1 : bits .andNot .u8 (x : Int) 128 = (m : Int) := by rw [hm]; exact andnot_128 x hx256
      have q2 : IntKind.u64.wrap (m : Int) = (m : Int) := IntWalk.u64_in _ (by omega)
      have q3 : IntKind.i64.wrap (7 * (k : Int)) = 7 * (k : Int) := IntWalk.i64_in _ (by omega)
      have hwr : IntKind.i64.wrap ((k : Int) + 1) = (k : Int) + 1 := IntWalk.i64_in _ (by omega)
      rw [← hm] at hd
      have HD := Lib.hid hd; clear hd hgx hx HT hm
      obtain ⟨s, hs⟩ : ∃ s, s = acc + m * 128 ^ k := ⟨_, rfl⟩
      have hb64 : k = 9 → x ≤ 1 → m ≤ 1 := fun _ h1 => by have := HM.out; omega
      have q4 : (k = 9 → x ≤ 1) → bits .or .u64 (acc : Int) (IntKind.u64.wrap ((m : Int) * 2 ^ (7 * k))) = (s : Int) := fun h91 => by
        rw [hs]
        exact or_shift acc m k hk9 hm128 HY.out (fun h => hb64 h (h91 h))
      have hss : x < 128 → x = m := fun h => by have := HM.out; omega
      rw [← hs] at HD
      have HS := Lib.hid hs; clear hs hb64
      by_cases h6 : k = 9 ∧ 1 < x
      · have e0 : tk l = (0, 0, 6) := by rw [HD.out, if_pos h6]
        have h9i : (k : Int) = 9 := by omega
        have e1 : (1 : Int) < (x : Int) := by omega
        have HE := Lib.hid e0; clear e0 HD q4 hss
        have h9n : k = 9 := h6.1
        have hck9 : w.cell? ⟨ad.block, ad.off + 9, none⟩ = some (.int .u8 (x : Int)) := by rw [h9n] at hck; exact hck
        clear h6 h9n hck
        go_wp2_with fail
        go_ret3
        refine ⟨?_, rfl⟩
        rw [HE.out]; rfl
      · have q5 := q4 (fun h => by omega)
        have h6d : decide ((k : Int) = 9) = true → (x : Int) ≤ 1 := fun h => by
          have := of_decide_eq_true h
          omega
        clear q4
        by_cases hx128 : 128 ≤ x
        · have x1 : (128 : Int) ≤ (x : Int) := by omega
          have h9i : ¬ (k : Int) = 9 := by omega
          have e0 : tk l = tkL (l.drop (k + 1)) (k + 1) s (128 ^ (k + 1)) := by rw [HD.out, if_neg h6, if_pos hx128, Nat.pow_succ]
          have HY2 : Hid (s < 128 ^ (k + 1)) := Lib.hid (by
            have h1 := HY.out
            have h2 : m * 128 ^ k ≤ 127 * 128 ^ k := Nat.mul_le_mul_right _ (by omega)
            have h3 := HS.out
            rw [Nat.pow_succ]
            omega)
          have HE := Lib.hid e0; clear e0 HD h6d h6 hss
          go_wp2_with fail
          go_roundw
          case rel => exact ⟨k + 1, s, by omega, by omega, by go_num, rfl, HE, HY2, trivial⟩
          case measure => simp [intOf]; omega
        · have x1 : ¬ (128 : Int) ≤ (x : Int) := by omega
          by_cases hx0 : x = 0 ∧ 0 < k
          · have x2 : (x : Int) = 0 := by omega
            have x3 : (0 : Int) < (k : Int) := by omega
            have x4 : (x : Int) ≤ 1 := by omega
            have z1 : bits .andNot .u8 0 128 = 0 := by decide
            have z2 : IntKind.u64.wrap 0 = 0 := rfl
            have hm0 : m = 0 := by have := HM.out; omega
            have z3 : bits .or .u64 (acc : Int) 0 = (s : Int) := by
              rw [hm0] at q5
              rw [← q5, show (((0 : Nat) : Int) * 2 ^ (7 * k)) = 0 from Int.zero_mul _, z2]
            clear hm0
            have e0 : tk l = (0, 0, 5) := by rw [HD.out, if_neg h6, if_neg hx128, if_pos hx0]
            have HE := Lib.hid e0; clear e0 HD hx0 hss
            go_wp2_with fail
            all_goals go_ret3
            all_goals (refine ⟨?_, rfl⟩; rw [HE.out]; rfl)
          · have e0 : tk l = (s, k + 1, 0) := by rw [HD.out, if_neg h6, if_neg hx128, if_neg hx0]
            have HE := Lib.hid e0; clear e0 HD hss
            by_cases hxz : x = 0
            · have x2 : (x : Int) = 0 := by omega
              have x3 : ¬ (0 : Int) < (k : Int) := by omega
              have h9i : ¬ (k : Int) = 9 := by omega
              have z1 : bits .andNot .u8 0 128 = 0 := by decide
              have z2 : IntKind.u64.wrap 0 = 0 := rfl
              have hm0 : m = 0 := by have := HM.out; omega
              have z3 : bits .or .u64 (acc : Int) 0 = (s : Int) := by
                rw [hm0] at q5
                rw [← q5, show (((0 : Nat) : Int) * 2 ^ (7 * k)) = 0 from Int.zero_mul _, z2]
              clear hm0
              clear hx0 h6d h6
              go_wp2_with fail
              go_ret3
              refine ⟨?_, rfl⟩
              rw [HE.out]
              rfl
            · have x2 : ¬ (x : Int) = 0 := by omega
              by_cases h9 : k = 9
              · have h9i : (k : Int) = 9 := by omega
                have x4 : ¬ (1 : Int) < (x : Int) := by omega
                have hck9 : w.cell? ⟨ad.block, ad.off + 9, none⟩ = some (.int .u8 (x : Int)) := by rw [h9] at hck; exact hck
                have q9 : bits .or .u64 (acc : Int) (IntKind.u64.wrap ((m : Int) * 9223372036854775808)) = (s : Int) := by
                  rw [h9, show ((2 : Int) ^ (7 * 9)) = 9223372036854775808 from by decide] at q5
                  exact q5
                have HE9 : Hid (tk l = (s, 10, 0)) := Lib.hid (by rw [HE.out, h9])
                clear hck h9 q5 HE
                clear hx0 h6d h6
                go_wp2_with fail
                go_ret3
                refine ⟨?_, rfl⟩
                rw [HE9.out]
                rfl
              · have h9i : ¬ (k : Int) = 9 := by omega
                clear hx0 h6d h6
                go_wp2_with fail
                go_ret3
                refine ⟨?_, rfl⟩
                rw [HE.out]
                rfl
    · obtain rfl : k = n := by omega
      have e0 : tk l = (0, 0, 4) := by
        rw [HT.out, List.drop_eq_nil_of_le (by rw [HN.out]; omega)]; rfl
      go_wp2_with fail
      go_ret3
      refine ⟨?_, rfl⟩
      rw [e0]; rfl
end Go.Proofs.Ytbepibkbghmkkaa
