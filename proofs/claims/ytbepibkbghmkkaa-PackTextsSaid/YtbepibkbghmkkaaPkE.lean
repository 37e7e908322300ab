/-
  The document's reader (layer 7): Byte and Done.
-/
import Derived.Test.YtbepibkbghmkkaaPkD
namespace Go.Proofs.Ytbepibkbghmkkaa
open Go Go.RowKit
set_option linter.unusedVariables false
set_option linter.unusedSimpArgs false

set_option maxRecDepth 100000 in
set_option maxHeartbeats 4000000 in
theorem rprbyte_no (w : World) (p : Nat) (B : Option Addr) (n cap at_ f : Nat) (h : RR w p B n cap at_ f) (hf : f ≠ 0) :
    Calls Try.prog 20 #[.pointer (some ⟨p, 0, none⟩)] w fun e w' => e = .returned (.int .u8 0) ∧ w' = w := by
  have d2 := h.c2
  have hf2 : ¬ (f : Int) = 0 := by omega
  go_enter Try.func20, Try.ntmps20
  go_wp2_with fail
  go_ret
  exact ⟨rfl, rfl⟩
set_option maxRecDepth 100000 in
set_option maxHeartbeats 4000000 in
theorem rprbyte_end (w : World) (p : Nat) (B : Option Addr) (n cap : Nat) (h : RR w p B n cap n 0) :
    Calls Try.prog 20 #[.pointer (some ⟨p, 0, none⟩)] w fun e w' => e = .returned (.int .u8 0) ∧ RR w' p B n cap n 4 ∧ w.grownBy w' (some p) := by
  have d0 := h.c0
  have d1 := h.c1
  have d2 := h.c2
  have HR := Lib.hid h; clear h
  go_enter Try.func20, Try.ntmps20
  go_upto_region 3 with fail
  go_quiet (fail)
  have HR1 : Hid (RR (w.drewN nq) p B n cap n 0) := Lib.hid HR.out
  have hg1 := grown_drewN w nq (some p)
  generalize w.drewN nq = w1 at *
  clear d0 d1 d2 HR
  have d2 := HR1.out.c2
  have f2 := HR1.out.fr 2
  go_wp2_with fail
  go_ret
  exact ⟨rfl, HR1.out.set2 4, grown_trans hg1 (grown_set w1 p 2 _)⟩
set_option maxRecDepth 100000 in
set_option maxHeartbeats 4000000 in
theorem rprbyte_any (w : World) (p : Nat) (bd : Addr) (l : List Nat) (n cap at_ : Nat) (hn : l.length = n) (hle : n ≤ 1000000) (h : RR w p (some bd) n cap at_ 0) (hat : at_ < n) {BB : Nat} (hr : Rd w BB (some bd) (vn l)) (hp : BB ≤ p) :
    Calls Try.prog 20 #[.pointer (some ⟨p, 0, none⟩)] w fun e w' => e = .returned (.int .u8 (l.getD at_ 0 : Int)) ∧ RR w' p (some bd) n cap (at_ + 1) 0 ∧ w.grownBy w' (some p) := by
  have d0 := h.c0
  have d1 := h.c1
  have d2 := h.c2
  obtain ⟨ad, ew, hbd, hck⟩ := hr.num (k := at_) (by rw [hn]; exact hat)
  cases ew
  have HR := Lib.hid h; clear h
  have hne : ¬ (at_ : Int) = (n : Int) := by omega
  have hwr : IntKind.i64.wrap ((at_ : Int) + 1) = ((at_ + 1 : Nat) : Int) := by rw [IntWalk.i64_in _ (by omega)]; omega
  obtain ⟨a2, ha2⟩ : ∃ a2, a2 = at_ + 1 := ⟨_, rfl⟩
  have hws : IntKind.i64.wrap ((a2 : Int) - 1) = (at_ : Int) := by rw [IntWalk.i64_in _ (by omega)]; omega
  have hki : (at_ : Int) < (n : Int) := by omega
  rw [← ha2] at hwr
  rw [← ha2]
  obtain ⟨x, hx⟩ : ∃ x, x = l.getD at_ 0 := ⟨_, rfl⟩
  rw [← hx] at hck
  rw [← hx]
  clear ha2 hr hn hx
  go_enter Try.func20, Try.ntmps20
  go_upto_region 3 with fail
  go_quiet (fail)
  have HR1 : Hid (RR (w.drewN nq) p (some bd) n cap at_ 0) := Lib.hid HR.out
  have hg1 := grown_drewN w nq (some p)
  have hck1 : (w.drewN nq).cell? (bd.add at_) = some (.int .u8 (x : Int)) := hck
  generalize w.drewN nq = w1 at *
  clear d0 d1 d2 HR hck
  have d1 := HR1.out.c1
  have f1 := HR1.out.fr 1
  go_upto_region 7 with fail
  have HR2 := Lib.hid (HR1.out.set1 a2)
  have hg2 := grown_trans hg1 (grown_set w1 p 1 (.int .i64 (a2 : Int)))
  have hck2 : (w1.setCell ⟨p, 1, none⟩ (.int .i64 (a2 : Int))).cell? (bd.add at_) = some (.int .u8 (x : Int)) := (World.cell?_setCell_other _ _ _ _ (fun e => by have := congrArg Addr.block e; rw [add_block] at this; simp at this; omega)).trans hck1
  generalize w1.setCell ⟨p, 1, none⟩ (.int .i64 (a2 : Int)) = w2 at *
  clear d1 f1 hg1 HR1 hck1
  have d0 := HR2.out.c0
  have d1 := HR2.out.c1
  go_quiet (fail)
  go_wp2_with fail
  go_ret
  exact ⟨rfl, HR2.out, grown_trans hg2 (grown_drewN w2 _ (some p))⟩

set_option maxRecDepth 100000 in
set_option maxHeartbeats 4000000 in
theorem rprdone_any (w : World) (p : Nat) (B : Option Addr) (n cap at_ f : Nat) (h : RR w p B n cap at_ f) :
    Calls Try.prog 25 #[.pointer (some ⟨p, 0, none⟩)] w fun e w' => e = .returned (.tuple #[.int .i64 ((if f = 0 ∧ at_ < n then 5 else f : Nat) : Int), .int .i64 (at_ : Int)]) ∧ ∃ m, w' = w.drewN m := by
  have d0 := h.c0
  have d1 := h.c1
  have d2 := h.c2
  have HR := Lib.hid h; clear h
  by_cases hf : f = 0
  · subst hf
    rw [show ((0 : Nat) : Int) = 0 from rfl] at d2
    by_cases ha : at_ < n
    · have hai : decide ((at_ : Int) < (n : Int)) = true := decide_eq_true (by omega)
      rw [if_pos ⟨rfl, ha⟩]
      go_enter Try.func25, Try.ntmps25
      go_upto_region 1 with fail
      go_quiet (fail)
      have HR1 : Hid (RR (w.drewN nq) p B n cap at_ 0) := Lib.hid HR.out
      clear HR d0 d1 d2
      obtain ⟨w1, hw⟩ : ∃ w1, w1 = w.drewN nq := ⟨_, rfl⟩
      rw [← hw] at HR1
      rw [← hw]
      have HW := Lib.hid hw; clear hw
      have d1 := HR1.out.c1
      have d2 := HR1.out.c2
      go_upto_region 2 with fail
      go_quiet (fail)
      go_wp2_with fail
      go_ret2
      exact ⟨rfl, _, by rw [HW.out, World.drewN_drewN]⟩
    · have hai : decide ((at_ : Int) < (n : Int)) = false := decide_eq_false (by omega)
      rw [if_neg (by omega)]
      go_enter Try.func25, Try.ntmps25
      go_upto_region 1 with fail
      go_quiet (fail)
      have HR1 : Hid (RR (w.drewN nq) p B n cap at_ 0) := Lib.hid HR.out
      clear HR d0 d1 d2
      obtain ⟨w1, hw⟩ : ∃ w1, w1 = w.drewN nq := ⟨_, rfl⟩
      rw [← hw] at HR1
      rw [← hw]
      have HW := Lib.hid hw; clear hw
      have d1 := HR1.out.c1
      have d2 := HR1.out.c2
      go_upto_region 3 with fail
      go_quiet (fail)
      go_wp2_with fail
      go_ret2
      exact ⟨rfl, _, by rw [HW.out, World.drewN_drewN]⟩
  · have hfi : decide ((f : Int) = 0) = false := decide_eq_false (by omega)
    have hfb : ((f : Int) == 0) = false := by rw [beq_eq_false_iff_ne]; omega
    have hfn : ¬ (f : Int) = 0 := by omega
    rw [if_neg (by omega)]
    go_enter Try.func25, Try.ntmps25
    go_upto_region 1 with fail
    go_quiet (fail)
    have HR1 : Hid (RR (w.drewN nq) p B n cap at_ f) := Lib.hid HR.out
    clear HR d0 d1 d2
    obtain ⟨w1, hw⟩ : ∃ w1, w1 = w.drewN nq := ⟨_, rfl⟩
    rw [← hw] at HR1
    rw [← hw]
    have HW := Lib.hid hw; clear hw
    have d1 := HR1.out.c1
    have d2 := HR1.out.c2
    go_upto_region 3 with fail
    go_quiet (fail)
    go_wp2_with fail
    go_ret2
    exact ⟨rfl, _, by rw [HW.out, World.drewN_drewN]⟩
end Go.Proofs.Ytbepibkbghmkkaa
