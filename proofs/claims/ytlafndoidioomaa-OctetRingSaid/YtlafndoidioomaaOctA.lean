/-
  octet: the calls that only read: Nought, Same, Get, and the document's Nought, Number, Get, Same.
-/
import Derived.Test.YtlafndoidioomaaProg
import Derived.Test.YtlafndoidioomaaBase
import Derived.Deep.QuietTactic
import Derived.BigQuiet
namespace Go.Proofs.Ytlafndoidioomaa
open Go Go.RowKit
set_option linter.unusedVariables false

def orAll (l : List UInt8) : UInt8 := l.foldl (· ||| ·) 0
theorem orAll_snoc (l : List UInt8) (b : UInt8) : orAll (l ++ [b]) = orAll l ||| b := by simp [orAll]
theorem or_zero (a b : UInt8) : (a ||| b == 0) = (a == 0 && b == 0) := by
  rw [Bool.eq_iff_iff]; simp [UInt8.or_eq_zero_iff]
theorem orAll_zero (l : List UInt8) : (orAll l == 0) = l.all (· == 0) := by
  have key : ∀ (l : List UInt8) (a : UInt8), ((l.foldl (· ||| ·) a) == 0) = (a == 0 && l.all (· == 0)) := by
    intro l
    induction l with
    | nil => intro a; simp
    | cons b l ih => intro a; rw [List.foldl_cons, ih, or_zero, List.all_cons, Bool.and_assoc]
  have := key l 0
  simpa [orAll] using this

set_option maxHeartbeats 400000 in
theorem nought_any (A : Option Addr) (l : List UInt8) (n cap : Nat) (hn : l.length = n) (w : World) (hl : n ≤ 140737488351232) (h : Rd w w.heap.size A (vb l)) :
    Calls Try.prog 20 #[.slice A n cap] w fun e w' => e = .returned (.bool (l.all (· == 0))) ∧ w' = w := by
  subst hn
  rw [← orAll_zero]
  go_enter Try.func20, Try.ntmps20
  go_wp2
  go_loop [3, 8] (fun n i => ∃ k : Nat, k ≤ l.length ∧ i = .int .i64 k ∧ n = .int .u8 ((orAll (l.take k)).toNat : Int)) (fun _ i => l.length - (intOf i).toNat)
  case atStart => exact ⟨0, Nat.zero_le _, rfl, rfl⟩
  case round =>
    obtain ⟨k, hk, rfl, rfl⟩ := hrel
    by_cases hlt : k < l.length
    · obtain ⟨ad, rfl, hb, hck⟩ := h.byte hlt
      go_wp2
      go_round
      case rel => exact ⟨k + 1, by omega, by go_num, by rw [bits_or, take_snoc _ _ hlt, orAll_snoc]⟩
      case measure => simp [intOf]; omega
    · go_wp2
      go_ret
      exact ⟨ret_bool (by rw [byte_beq0, List.take_of_length_le (by omega)]), rfl⟩

set_option maxHeartbeats 400000 in
theorem rnought_any (A : Option Addr) (l : List UInt8) (n cap : Nat) (hn : l.length = n) (w : World) (hl : n ≤ 140737488351232) (h : Rd w w.heap.size A (vb l)) :
    Calls Try.prog 21 #[.slice A n cap] w fun e w' => e = .returned (.bool (l.all (· == 0))) ∧ w' = w := by
  subst hn
  go_enter Try.func21, Try.ntmps21
  go_wp2
  go_loop [3] (fun i => ∃ k : Nat, k ≤ l.length ∧ i = .int .i64 k ∧ (l.take k).all (· == 0) = true) (fun i => l.length - (intOf i).toNat)
  case atStart => exact ⟨0, Nat.zero_le _, rfl, by simp⟩
  case round =>
    obtain ⟨k, hk, rfl, hz⟩ := hrel
    have HZ := Lib.hid hz; clear hz
    by_cases hlt : k < l.length
    · obtain ⟨ad, rfl, hb, hck⟩ := h.byte hlt
      by_cases h0 : l[k] = 0
      · have hx : (((l[k].toNat : Int)) != 0) = false := by simp [h0]
        go_wp2
        go_round
        case rel => exact ⟨k + 1, by omega, by go_num, by rw [take_snoc _ _ hlt]; simp only [List.all_append, HZ.out]; simp [h0]⟩
        case measure => simp [intOf]; omega
      · have hx : (((l[k].toNat : Int)) != 0) = true := by
          rw [bne_iff_ne]; intro e; exact h0 (by have := byte_beq0 l[k]; rw [e] at this; simpa using this.symm)
        go_wp2
        go_ret
        exact ⟨ret_bool (by symm; rw [List.all_eq_false]; exact ⟨l[k], List.getElem_mem hlt, by simpa using h0⟩), rfl⟩
    · go_wp2
      go_ret
      exact ⟨ret_bool (by rw [← HZ.out, List.take_of_length_le (by omega)]), rfl⟩

def orX (a b : List UInt8) : List UInt8 := List.zipWith (· ^^^ ·) a b
theorem orX_len (a b : List UInt8) (h : a.length = b.length) : (orX a b).length = a.length := by simp [orX, h]
theorem xor_zero (a b : UInt8) : (a ^^^ b = 0) ↔ a = b := UInt8.xor_eq_zero_iff
theorem same_eq : ∀ (a b : List UInt8), a.length = b.length → (orX a b).all (· == 0) = (a == b)
  | [], [], _ => by simp [orX]
  | x :: a, y :: b, h => by
    have ih := same_eq a b (by simpa using h)
    simp only [orX, List.zipWith_cons_cons, List.all_cons] at ih ⊢
    rw [ih, List.cons_beq_cons]
    congr 1
    rw [Bool.eq_iff_iff]
    simp

theorem orX_snoc (a b : List UInt8) (x y : UInt8) (h : a.length = b.length) : orX (a ++ [x]) (b ++ [y]) = orX a b ++ [x ^^^ y] := by
  simp [orX, List.zipWith_append h]

theorem same_len (A B : Option Addr) (a b : List UInt8) (n ca cb : Nat) (hn : a.length = n) (hm : b.length = n) (w : World) (hl : n ≤ 140737488351232)
    (h : Rd w w.heap.size A (vb a)) (h' : Rd w w.heap.size B (vb b)) :
    Calls Try.prog 19 #[.slice A n ca, .slice B n cb] w fun e w' => e = .returned (.bool (a == b)) ∧ ∃ k, w' = w.drewN k := by
  rw [← same_eq a b (hn.trans hm.symm), ← orAll_zero]
  have HN := Lib.hid hn; clear hn
  have HM := Lib.hid hm; clear hm
  go_enter Try.func19, Try.ntmps19
  go_wp2
  go_loopw [5, 14] (fun s i wr => ∃ k : Nat, k ≤ n ∧ i = .int .i64 k ∧ s = .int .u8 ((orAll (orX (a.take k) (b.take k))).toNat : Int) ∧ ∃ d, wr = w.drewN d) (fun _ i _ => n - (intOf i).toNat)
  case atStart => exact ⟨0, Nat.zero_le _, rfl, rfl, 0, rfl⟩
  case round =>
    obtain ⟨k, hk, rfl, rfl, d, rfl⟩ := hrel
    by_cases hlt : k < n
    · have ha : k < a.length := by have := HN.out; omega
      have hb : k < b.length := by have := HM.out; omega
      obtain ⟨ad, rfl, hbd, hck⟩ := h.byte ha
      obtain ⟨bd, rfl, hbd', hck'⟩ := h'.byte hb
      go_wp2
      go_quiet (fail)
      go_wp2
      go_roundw
      case rel => exact ⟨k + 1, by omega, by go_num, by rw [bits_xor, bits_or, take_snoc _ _ ha, take_snoc _ _ hb, orX_snoc _ _ _ _ (by simp; omega), orAll_snoc], _, rfl⟩
      case measure => simp [intOf]; omega
    · go_wp2
      go_ret
      exact ⟨ret_bool (by rw [byte_beq0, List.take_of_length_le (by have := HN.out; omega), List.take_of_length_le (by have := HM.out; omega)]), d, rfl⟩

theorem same_any (A B : Option Addr) (a b : List UInt8) (n m ca cb : Nat) (hn : a.length = n) (hm : b.length = m) (w : World) (hl : n ≤ 140737488351232) (hl' : m ≤ 140737488351232)
    (h : Rd w w.heap.size A (vb a)) (h' : Rd w w.heap.size B (vb b)) :
    Calls Try.prog 19 #[.slice A n ca, .slice B m cb] w fun e w' => e = .returned (.bool (a == b)) ∧ ∃ k, w' = w.drewN k := by
  by_cases hab : n = m
  · subst hab
    exact same_len A B a b n ca cb hn hm w hl h h'
  · have hfin : (a == b) = false := by rw [beq_eq_false_iff_ne]; intro e; exact hab (by rw [← hn, ← hm, e])
    rw [hfin]
    have hx : (((n : Int)) != (m : Int)) = true := by rw [bne_iff_ne]; omega
    clear hn hm
    go_enter Try.func19, Try.ntmps19
    go_wp2
    go_ret
    exact ⟨rfl, 0, rfl⟩

theorem same_bel (A B : Option Addr) (a b : List UInt8) (n m ca cb : Nat) (hn : a.length = n) (hm : b.length = m) (w : World) (hl : n ≤ 140737488351232) (hl' : m ≤ 140737488351232)
    (h : Rd w w.heap.size A (vb a)) (h' : Rd w w.heap.size B (vb b)) :
    Calls Try.prog 19 #[.slice A n ca, .slice B m cb] w fun e w' => e = .returned (.bool (a == b)) ∧ Below w.heap.size w w' :=
  (same_any A B a b n m ca cb hn hm w hl hl' h h').mono fun e w' ⟨he, d, hw⟩ => ⟨he, by subst hw; exact bdrewN (Below.refl _ _) d⟩

/-- 'string(a) == string(b)'. -/
theorem rsame_any (A B : Option Addr) (a b : List UInt8) (n m ca cb : Nat) (hn : a.length = n) (hm : b.length = m) (w : World) {BA BB : Nat} (h : Rd w BA A (vb a)) (h' : Rd w BB B (vb b)) :
    Calls Try.prog 13 #[.slice A n ca, .slice B m cb] w fun e w' => e = .returned (.bool (a == b)) ∧ w' = w := by
  have ra := run_str (P := Try.prog) 23 9 5 Try.underlying23 Try.underlying5 Try.underlying9 hn ca h
  have rb := run_str (P := Try.prog) 23 9 5 Try.underlying23 Try.underlying5 Try.underlying9 hm cb h'
  clear hn hm
  go_enter Try.func13, Try.ntmps13
  go_wp2
  go_ret
  exact ⟨rfl, rfl⟩
end Go.Proofs.Ytlafndoidioomaa
