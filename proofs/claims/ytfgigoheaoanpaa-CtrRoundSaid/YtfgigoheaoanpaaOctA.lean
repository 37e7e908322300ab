/-
  octet: the calls that only read: Nought, Same, Get, and the document's Nought, Number, Get, Same.
-/
import Derived.Test.YtfgigoheaoanpaaProg
import Derived.Test.YtfgigoheaoanpaaBase
import Derived.Deep.QuietTactic
import Derived.BigQuiet
namespace Go.Proofs.Ytfgigoheaoanpaa
open Go Go.RowKit
set_option linter.unusedVariables false
set_option linter.unusedSimpArgs false

def orAll (l : List UInt8) : UInt8 := l.foldl (· ||| ·) 0
theorem orAll_snoc (l : List UInt8) (b : UInt8) : orAll (l ++ [b]) = orAll l ||| b := by simp [orAll]
theorem or_zero (a b : UInt8) : (a ||| b == 0) = (a == 0 && b == 0) := by
  rw [Bool.eq_iff_iff]; simp [UInt8.or_eq_zero_iff]
theorem orAll_zero (l : List UInt8) : (orAll l == 0) = l.all (· == 0) := by
  have key : ∀ (l : List UInt8) (a : UInt8), ((l.foldl (· ||| ·) a) == 0) = (a == 0 && l.all (· == 0)) := by
    intro l
    induction l with
    | nil => intro a; simp
    | cons b l ih => intro a; rw [List.foldl_cons, ih, or_zero, List.all_cons, Bool.and_assoc]
  have := key l 0
  simpa [orAll] using this

def orX (a b : List UInt8) : List UInt8 := List.zipWith (· ^^^ ·) a b
theorem orX_len (a b : List UInt8) (h : a.length = b.length) : (orX a b).length = a.length := by simp [orX, h]
theorem xor_zero (a b : UInt8) : (a ^^^ b = 0) ↔ a = b := UInt8.xor_eq_zero_iff
theorem same_eq : ∀ (a b : List UInt8), a.length = b.length → (orX a b).all (· == 0) = (a == b)
  | [], [], _ => by simp [orX]
  | x :: a, y :: b, h => by
    have ih := same_eq a b (by simpa using h)
    simp only [orX, List.zipWith_cons_cons, List.all_cons] at ih ⊢
    rw [ih, List.cons_beq_cons]
    congr 1
    rw [Bool.eq_iff_iff]
    simp

theorem orX_snoc (a b : List UInt8) (x y : UInt8) (h : a.length = b.length) : orX (a ++ [x]) (b ++ [y]) = orX a b ++ [x ^^^ y] := by
  simp [orX, List.zipWith_append h]

/-- 'string(a) == string(b)'. -/
theorem rsame_any (A B : Option Addr) (a b : List UInt8) (n m ca cb : Nat) (hn : a.length = n) (hm : b.length = m) (w : World) {BA BB : Nat} (h : Rd w BA A (vb a)) (h' : Rd w BB B (vb b)) :
    Calls Try.prog 14 #[.slice A n ca, .slice B m cb] w fun e w' => e = .returned (.bool (a == b)) ∧ w' = w := by
  have ra := run_str (P := Try.prog) 22 9 5 Try.underlying22 Try.underlying5 Try.underlying9 hn ca h
  have rb := run_str (P := Try.prog) 22 9 5 Try.underlying22 Try.underlying5 Try.underlying9 hm cb h'
  clear hn hm
  go_enter Try.func14, Try.ntmps14
  go_wp2
  go_ret
  exact ⟨rfl, rfl⟩
end Go.Proofs.Ytfgigoheaoanpaa
