/-
  What keys may be (layer 3's May), and what Opens answers (layer 5).
-/
import Derived.Test.YtfgigoheaoanpaaRow
namespace Go.Proofs.Ytfgigoheaoanpaa
open Go Go.RowKit
set_option linter.unusedVariables false
set_option linter.unusedSimpArgs false

set_option maxRecDepth 100000 in
theorem may_any (A : Option Addr) (N cap : Nat) (w : World) : Calls Try.prog 25 #[.slice A N cap] w fun e w' => e = .returned (.bool (decide (N = 16 ∨ N = 32))) ∧ w' = w := by
  by_cases h1 : N = 16
  · subst h1
    go_enter Try.func25, Try.ntmps25
    go_wp2_with fail
    go_ret
    exact ⟨rfl, rfl⟩
  · by_cases h2 : N = 32
    · subst h2
      go_enter Try.func25, Try.ntmps25
      go_wp2_with fail
      go_ret
      exact ⟨rfl, rfl⟩
    · have e1 : ((N : Int) == 16) = false := by rw [beq_eq_false_iff_ne]; omega
      have e2 : ((N : Int) == 32) = false := by rw [beq_eq_false_iff_ne]; omega
      rw [decide_eq_false (by omega)]
      clear h1 h2
      go_enter Try.func25, Try.ntmps25
      go_wp2_with fail
      go_ret
      exact ⟨rfl, rfl⟩
/-- The error that a question has. -/
def opE (nk nn nt : Nat) : Nat := if (nk = 16 ∨ nk = 32) ∧ nn = 12 then (if 65536 < nt then 3 else 0) else 2
set_option maxRecDepth 100000 in
theorem opens_any (A B C : Option Addr) (nk nn nt ck cn ct : Nat) (w : World) :
    Calls Try.prog 15 #[.slice A nk ck, .slice B nn cn, .slice C nt ct] w fun e w' => e = .returned (.int .i64 (opE nk nn nt : Int)) ∧ w' = w := by
  have hm := fun w => may_any A nk ck w
  by_cases h1 : nk = 16 ∨ nk = 32
  · rw [decide_eq_true h1] at hm
    have HM := Lib.hid hm; clear hm
    by_cases h2 : nn = 12
    · subst h2
      by_cases h3 : 65536 < nt
      · have e3 : (65536 : Int) < (nt : Int) := by omega
        have e0 : opE nk 12 nt = 3 := by unfold opE; rw [if_pos ⟨h1, rfl⟩, if_pos h3]
        rw [e0]
        clear h1 e0
        go_enter Try.func15, Try.ntmps15
        go_wp2_with fail
        refine (HM.out _).mono ?_
        rintro e w1 ⟨rfl, rfl⟩
        go_wp2_with fail
        go_ret
        exact ⟨rfl, rfl⟩
      · have e3 : ¬ (65536 : Int) < (nt : Int) := by omega
        have e0 : opE nk 12 nt = 0 := by unfold opE; rw [if_pos ⟨h1, rfl⟩, if_neg h3]
        rw [e0]
        clear h1 e0
        go_enter Try.func15, Try.ntmps15
        go_wp2_with fail
        refine (HM.out _).mono ?_
        rintro e w1 ⟨rfl, rfl⟩
        go_wp2_with fail
        go_ret
        exact ⟨rfl, rfl⟩
    · have e2 : ((nn : Int) == 12) = false := by rw [beq_eq_false_iff_ne]; omega
      have e0 : opE nk nn nt = 2 := by unfold opE; rw [if_neg (fun h => h2 h.2)]
      rw [e0]
      clear h1 e0 h2
      go_enter Try.func15, Try.ntmps15
      go_wp2_with fail
      refine (HM.out _).mono ?_
      rintro e w1 ⟨rfl, rfl⟩
      go_wp2_with fail
      go_ret
      exact ⟨rfl, rfl⟩
  · rw [decide_eq_false h1] at hm
    have HM := Lib.hid hm; clear hm
    have e0 : opE nk nn nt = 2 := by unfold opE; rw [if_neg (fun h => h1 h.1)]
    rw [e0]
    clear h1 e0
    go_enter Try.func15, Try.ntmps15
    go_wp2_with fail
    refine (HM.out _).mono ?_
    rintro e w1 ⟨rfl, rfl⟩
    go_wp2_with fail
    go_ret
    exact ⟨rfl, rfl⟩
end Go.Proofs.Ytfgigoheaoanpaa
