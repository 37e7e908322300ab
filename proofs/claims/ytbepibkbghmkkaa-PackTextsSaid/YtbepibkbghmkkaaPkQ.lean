/-
  The code's reader (layer 7): what it stands at, and what its calls do, but Text.
-/
import Derived.Test.YtbepibkbghmkkaaPkP
namespace Go.Proofs.Ytbepibkbghmkkaa
open Go Go.RowKit
set_option linter.unusedVariables false
set_option linter.unusedSimpArgs false

/-- The code's reader in its block: its bytes, its place, its fault. -/
def RC (w : World) (p : Nat) (B : Option Addr) (n cap at_ f : Nat) : Prop := w.heap[p]? = some (.cells #[.slice B n cap, .int .i64 (at_ : Int), .int .i64 (f : Int)] 53 (0, 0))
section
variable {w : World} {p : Nat} {B : Option Addr} {n cap at_ f : Nat}
theorem RC.lt (h : RC w p B n cap at_ f) : p < w.heap.size := (Array.getElem?_eq_some_iff.1 h).1
theorem RC.c0 (h : RC w p B n cap at_ f) : w.cell? ⟨p, 0, none⟩ = some (.slice B n cap) := by rw [cell_of_row _ _ _ _ _ _ h]; rfl
theorem RC.c1 (h : RC w p B n cap at_ f) : w.cell? ⟨p, 1, none⟩ = some (.int .i64 (at_ : Int)) := by rw [cell_of_row _ _ _ _ _ _ h]; rfl
theorem RC.c2 (h : RC w p B n cap at_ f) : w.cell? ⟨p, 2, none⟩ = some (.int .i64 (f : Int)) := by rw [cell_of_row _ _ _ _ _ _ h]; rfl
theorem RC.fr (h : RC w p B n cap at_ f) (k : Nat) : w.frozen? ⟨p, k, none⟩ = false := frozen_of_row _ _ _ _ _ h
theorem RC.set1 (h : RC w p B n cap at_ f) (a : Nat) : RC (w.setCell ⟨p, 1, none⟩ (.int .i64 (a : Int))) p B n cap a f := heap_setCell_same w p 1 _ _ _ h
theorem RC.set2 (h : RC w p B n cap at_ f) (a : Nat) : RC (w.setCell ⟨p, 2, none⟩ (.int .i64 (a : Int))) p B n cap at_ a := heap_setCell_same w p 2 _ _ _ h
end

set_option maxRecDepth 100000 in
theorem cstopped_nil (w : World) : Calls Try.prog 27 #[.pointer none] w fun e w' => e = .returned (.bool true) ∧ w' = w := by
  go_enter Try.func27, Try.ntmps27
  go_wp2_with fail
  go_ret
  exact ⟨rfl, rfl⟩
set_option maxRecDepth 100000 in
theorem cstopped_yes (w : World) (p : Nat) (B : Option Addr) (n cap at_ f : Nat) (h : RC w p B n cap at_ f) (hf : f ≠ 0) :
    Calls Try.prog 27 #[.pointer (some ⟨p, 0, none⟩)] w fun e w' => e = .returned (.bool true) ∧ w' = w := by
  have d2 := h.c2
  have hf2 : ¬ (f : Int) = 0 := by omega
  have hfb : ((f : Int) != 0) = true := by rw [bne_iff_ne]; exact hf2
  go_enter Try.func27, Try.ntmps27
  go_wp2_with fail
  go_ret
  exact ⟨rfl, rfl⟩
set_option maxRecDepth 100000 in
theorem cstopped_no (w : World) (p : Nat) (B : Option Addr) (n cap at_ : Nat) (h : RC w p B n cap at_ 0) :
    Calls Try.prog 27 #[.pointer (some ⟨p, 0, none⟩)] w fun e w' => e = .returned (.bool false) ∧ w' = w := by
  have d2 := h.c2
  rw [show ((0 : Nat) : Int) = 0 from rfl] at d2
  go_enter Try.func27, Try.ntmps27
  go_wp2_with fail
  go_ret
  exact ⟨rfl, rfl⟩
set_option maxRecDepth 100000 in
set_option maxHeartbeats 4000000 in
theorem cmove_any (w : World) (p : Nat) (B : Option Addr) (n cap at_ f k e0 : Nat) (h : RC w p B n cap at_ f) (hb : at_ + k ≤ 2000000) :
    Calls Try.prog 29 #[.pointer (some ⟨p, 0, none⟩), .int .i64 (k : Int), .int .i64 (e0 : Int)] w fun e w' => e = .returned (.tuple #[]) ∧ RC w' p B n cap (at_ + k) e0 ∧ w.grownBy w' (some p) := by
  have d1 := h.c1
  have f1 := h.fr 1
  have HR := Lib.hid h; clear h
  have hwr : IntKind.i64.wrap ((at_ : Int) + (k : Int)) = ((at_ + k : Nat) : Int) := by rw [IntWalk.i64_in _ (by omega)]; omega
  obtain ⟨a2, ha2⟩ : ∃ a2, a2 = at_ + k := ⟨_, rfl⟩
  rw [← ha2] at hwr
  rw [← ha2]
  clear ha2 hb
  go_enter Try.func29, Try.ntmps29
  go_upto_region 1 with fail
  have HR2 := Lib.hid (HR.out.set1 a2)
  have hg2 := grown_set w p 1 (.int .i64 (a2 : Int))
  generalize w.setCell ⟨p, 1, none⟩ (.int .i64 (a2 : Int)) = w2 at *
  clear d1 f1 HR
  have d2 := HR2.out.c2
  have f2 := HR2.out.fr 2
  go_wp2_with fail
  refine bodyPost_end (results_none rfl _ _ _) rfl ?_
  exact ⟨rfl, HR2.out.set2 e0, grown_trans hg2 (grown_set w2 p 2 _)⟩
set_option maxRecDepth 100000 in
theorem cleft_any (w : World) (p : Nat) (B : Option Addr) (n cap at_ f : Nat) (h : RC w p B n cap at_ f) (ha : at_ ≤ n) (hle : n ≤ 1000000) :
    Calls Try.prog 23 #[.pointer (some ⟨p, 0, none⟩)] w fun e w' => e = .returned (.int .i64 ((n - at_ : Nat) : Int)) ∧ ∃ m, w' = w.drewN m := by
  have d0 := h.c0
  have d1 := h.c1
  have s1 : IntKind.i64.wrap ((n : Int) - (at_ : Int)) = ((n - at_ : Nat) : Int) := by rw [IntWalk.i64_in _ (by omega)]; omega
  obtain ⟨r2, hr2⟩ : ∃ r2, r2 = n - at_ := ⟨_, rfl⟩
  rw [← hr2] at s1
  rw [← hr2]
  clear hr2 h ha
  go_enter Try.func23, Try.ntmps23
  go_upto_region 3 with fail
  go_quiet (fail)
  go_wp2_with fail
  go_ret
  exact ⟨rfl, _, rfl⟩
set_option maxRecDepth 100000 in
theorem cleft_nil (w : World) : Calls Try.prog 23 #[.pointer none] w fun e w' => e = .returned (.int .i64 0) ∧ w' = w := by
  go_enter Try.func23, Try.ntmps23
  go_wp2_with fail
  go_ret
  exact ⟨rfl, rfl⟩
end Go.Proofs.Ytbepibkbghmkkaa
