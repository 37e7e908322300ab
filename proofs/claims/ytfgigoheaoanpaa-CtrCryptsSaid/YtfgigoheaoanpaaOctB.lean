/-
  octet: numbers in bytes: Get, Put, and the document's Number, Get, Of, Put.
-/
import Derived.Test.YtfgigoheaoanpaaProg
import Derived.Test.YtfgigoheaoanpaaBase
namespace Go.Proofs.Ytfgigoheaoanpaa
open Go Go.RowKit
set_option linter.unusedVariables false
set_option linter.unusedSimpArgs false

/-- The number of some bytes. -/
def num (l : List UInt8) : Nat := l.foldl (fun a b => a * 256 + b.toNat) 0
theorem num_snoc (l : List UInt8) (b : UInt8) : num (l ++ [b]) = num l * 256 + b.toNat := by simp [num]
theorem num_lt (l : List UInt8) : num l < 256 ^ l.length := by
  have key : ∀ (n : Nat) (l : List UInt8), l.length = n → num l < 256 ^ n := by
    intro n
    induction n with
    | zero => intro l h; rw [List.length_eq_zero_iff.mp h]; simp [num]
    | succ n ih =>
      intro l h
      obtain ⟨l', b, rfl⟩ : ∃ l' b, l = l' ++ [b] := ⟨l.dropLast, l.getLast (by intro e; rw [e] at h; simp at h), (List.dropLast_concat_getLast _).symm⟩
      have := ih l' (by simpa using h)
      have := b.toNat_lt
      rw [num_snoc, Nat.pow_succ]
      omega
  exact key _ l rfl
theorem num_take_lt (l : List UInt8) (k : Nat) (hk : k ≤ 7) : num (l.take k) < 72057594037927936 := by
  refine Nat.lt_of_lt_of_le (num_lt _) ?_
  refine Nat.le_trans (Nat.pow_le_pow_right (by omega) (show (l.take k).length ≤ 7 by simp; omega)) (by decide)

set_option maxHeartbeats 400000 in
theorem get_any (A : Option Addr) (l : List UInt8) (n cap : Nat) (hn : l.length = n) (w : World) (h1 : 1 ≤ n) (h8 : n ≤ 8) (h : Rd w w.heap.size A (vb l)) :
    Calls Try.prog 17 #[.slice A n cap] w fun e w' => e = .returned (.tuple #[.int .u64 (num l : Int), .int .i64 0]) ∧ w' = w := by
  have HN := Lib.hid hn; clear hn
  go_enter Try.func17, Try.ntmps17
  go_wp2
  go_loop [4, 17] (fun s i => ∃ k : Nat, k ≤ n ∧ i = .int .i64 k ∧ s = .int .u64 (num (l.take k) : Int)) (fun _ i => n - (intOf i).toNat)
  case atStart => exact ⟨0, Nat.zero_le _, rfl, rfl⟩
  case round =>
    obtain ⟨k, hk, rfl, rfl⟩ := hrel
    by_cases hlt : k < n
    · have ha : k < l.length := by have := HN.out; omega
      obtain ⟨ad, rfl, hbd, hck⟩ := h.byte ha
      have hx := num_take_lt l k (by omega)
      have hbb := byte_bd l[k]
      go_wp2
      go_round
      case rel => refine ⟨k + 1, by omega, by go_num, ?_⟩; exact val_int (by
        rw [take_snoc _ _ ha, num_snoc, show ((num (l.take k) : Int)) * 256 = ((num (l.take k) * 256 : Nat) : Int) from by omega, bits64_or _ _ (by omega) (by omega), or_byte _ _ (by omega)])
      case measure => simp [intOf]; omega
    · go_wp2
      go_ret2
      exact ⟨ret_two (val_int (by rw [List.take_of_length_le (by have := HN.out; omega)])) rfl, rfl⟩

theorem get_err (A : Option Addr) (n cap : Nat) (w : World) (hx : n < 1 ∨ 8 < n) (hl : n ≤ 140737488351232) :
    Calls Try.prog 17 #[.slice A n cap] w fun e w' => e = .returned (.tuple #[.int .u64 0, .int .i64 2]) ∧ w' = w := by
  rcases hx with hx | hx <;>
  · go_enter Try.func17, Try.ntmps17
    go_wp2
    go_ret2
    exact ⟨rfl, rfl⟩

set_option maxHeartbeats 400000 in
theorem rnumber_any (A : Option Addr) (l : List UInt8) (n cap : Nat) (hn : l.length = n) (w : World) (h8 : n ≤ 8) {B : Nat} (h : Rd w B A (vb l)) :
    Calls Try.prog 19 #[.slice A n cap] w fun e w' => e = .returned (.int .u64 (num l : Int)) ∧ w' = w := by
  have HN := Lib.hid hn; clear hn
  go_enter Try.func19, Try.ntmps19
  go_wp2
  go_loop [3, 4] (fun s i => ∃ k : Nat, k ≤ n ∧ i = .int .i64 k ∧ s = .int .u64 (num (l.take k) : Int)) (fun _ i => n - (intOf i).toNat)
  case atStart => exact ⟨0, Nat.zero_le _, rfl, rfl⟩
  case round =>
    obtain ⟨k, hk, rfl, rfl⟩ := hrel
    by_cases hlt : k < n
    · have ha : k < l.length := by have := HN.out; omega
      obtain ⟨ad, rfl, hbd, hck⟩ := h.byte ha
      have hx := num_take_lt l k (by omega)
      have hbb := byte_bd l[k]
      go_wp2
      go_round
      case rel => refine ⟨k + 1, by omega, by go_num, ?_⟩; rw [take_snoc _ _ ha, num_snoc]; exact val_int (by omega)
      case measure => simp [intOf]; omega
    · go_wp2
      go_ret
      exact ⟨ret_int (by rw [List.take_of_length_le (by have := HN.out; omega)]), rfl⟩

end Go.Proofs.Ytfgigoheaoanpaa
