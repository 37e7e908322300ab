/-
  The code's reader (layer 7): Num, Byte, Done.
-/
import Derived.Test.YtbepibkbghmkkaaPkQ
namespace Go.Proofs.Ytbepibkbghmkkaa
open Go Go.RowKit
set_option linter.unusedVariables false
set_option linter.unusedSimpArgs false

theorem RC.grown {w w' : World} {p : Nat} {B : Option Addr} {n cap a f m : Nat} (h : RC w p B n cap a f) (e : w' = w.drewN m) : RC w' p B n cap a f := by subst e; exact h

set_option maxRecDepth 100000 in
set_option maxHeartbeats 4000000 in
theorem crnum_any (w : World) (p : Nat) (B : Option Addr) (l : List Nat) (n cap at_ : Nat) (hn : l.length = n) (hl : ∀ x ∈ l, x < 256) (hle : n ≤ 1000000) (hc : n ≤ cap) (h : RC w p B n cap at_ 0) (hat : at_ ≤ n) {BB : Nat} (hr : Rd w BB B (vn l)) (v k e0 : Nat) (hk : tk (l.drop at_) = (v, k, e0)) (hkb : k ≤ 10) :
    Calls Try.prog 17 #[.pointer (some ⟨p, 0, none⟩)] w fun e w' => e = .returned (.int .u64 (v : Int)) ∧ RC w' p B n cap (at_ + k) e0 ∧ w.grownBy w' (some p) := by
  have d0 := h.c0
  have d1 := h.c1
  obtain ⟨j0, hi, hz0, hz1, hz2⟩ := info_parts info_b
  have q1 := run_tailQ (P := Try.prog) 24 5 j0 Try.underlying24 hi hz1 B n cap at_ hat hc
  have hrd : Rd w BB (tailA B cap at_) (vn (l.drop at_)) := by rw [vn_drop]; exact hr.tailQ (by rw [vn_len, hn]; exact hc)
  have ht := fun m : Nat => cnumber_any (tailA B cap at_) (l.drop at_) (n - at_) (cap - at_) (by rw [List.length_drop, hn]) (fun x hx => hl x (List.mem_of_mem_drop hx)) (by omega) (w.drewN m) (hrd.drewN m)
  simp only [hk] at ht
  obtain ⟨bt, hbt⟩ : ∃ bt, bt = tailA B cap at_ := ⟨_, rfl⟩
  obtain ⟨nt, hnt⟩ : ∃ nt, nt = n - at_ := ⟨_, rfl⟩
  obtain ⟨ct, hct⟩ : ∃ ct, ct = cap - at_ := ⟨_, rfl⟩
  rw [← hbt, ← hnt, ← hct] at q1
  rw [← hbt, ← hnt, ← hct] at ht
  clear hbt hnt hct hi hz0 hz1 hz2 hrd hk
  have HS := Lib.hid (cstopped_no w p B n cap at_ h)
  have HR := Lib.hid h; clear h
  have HT := Lib.hid ht; clear ht
  go_enter Try.func17, Try.ntmps17
  go_wp2_with fail
  refine HS.out.mono ?_
  rintro e w0 ⟨rfl, rfl⟩
  clear HS
  go_upto_region 3 with fail
  go_quiet (refine Calls.quiet_of_same (HT.out _))
  have HR1 : Hid (RC (w0.drewN nq) p B n cap at_ 0) := Lib.hid HR.out
  have hg1 := grown_drewN w0 nq (some p)
  generalize w0.drewN nq = w1 at *
  clear d0 d1 HT
  go_wp2_with fail
  refine (cmove_any w1 p B n cap at_ 0 k e0 HR1.out (by omega)).mono ?_
  rintro e w2 ⟨rfl, hr2, hg2⟩
  have HR2 := Lib.hid hr2; clear hr2
  have HG := Lib.hid (grown_trans hg1 hg2); clear hg1 hg2
  go_wp2_with fail
  go_ret
  exact ⟨rfl, HR2.out, HG.out⟩
set_option maxRecDepth 100000 in
theorem crnum_no (w : World) (p : Nat) (B : Option Addr) (n cap at_ f : Nat) (h : RC w p B n cap at_ f) (hf : f ≠ 0) :
    Calls Try.prog 17 #[.pointer (some ⟨p, 0, none⟩)] w fun e w' => e = .returned (.int .u64 0) ∧ w' = w := by
  have HS := Lib.hid (cstopped_yes w p B n cap at_ f h hf); clear h hf
  go_enter Try.func17, Try.ntmps17
  go_wp2_with fail
  refine HS.out.mono ?_
  rintro e w0 ⟨rfl, rfl⟩
  clear HS
  go_wp2_with fail
  go_ret
  exact ⟨rfl, rfl⟩
set_option maxRecDepth 100000 in
theorem crnum_nil (w : World) : Calls Try.prog 17 #[.pointer none] w fun e w' => e = .returned (.int .u64 0) ∧ w' = w := by
  have HS := Lib.hid (cstopped_nil w)
  go_enter Try.func17, Try.ntmps17
  go_wp2_with fail
  refine HS.out.mono ?_
  rintro e w0 ⟨rfl, rfl⟩
  clear HS
  go_wp2_with fail
  go_ret
  exact ⟨rfl, rfl⟩

set_option maxRecDepth 100000 in
theorem crbyte_no (w : World) (p : Nat) (B : Option Addr) (n cap at_ f : Nat) (h : RC w p B n cap at_ f) (hf : f ≠ 0) :
    Calls Try.prog 19 #[.pointer (some ⟨p, 0, none⟩)] w fun e w' => e = .returned (.int .u8 0) ∧ w' = w := by
  have HS := Lib.hid (cstopped_yes w p B n cap at_ f h hf); clear h hf
  go_enter Try.func19, Try.ntmps19
  go_wp2_with fail
  refine HS.out.mono ?_
  rintro e w0 ⟨rfl, rfl⟩
  clear HS
  go_wp2_with fail
  go_ret
  exact ⟨rfl, rfl⟩
set_option maxRecDepth 100000 in
theorem crbyte_nil (w : World) : Calls Try.prog 19 #[.pointer none] w fun e w' => e = .returned (.int .u8 0) ∧ w' = w := by
  have HS := Lib.hid (cstopped_nil w)
  go_enter Try.func19, Try.ntmps19
  go_wp2_with fail
  refine HS.out.mono ?_
  rintro e w0 ⟨rfl, rfl⟩
  clear HS
  go_wp2_with fail
  go_ret
  exact ⟨rfl, rfl⟩
set_option maxRecDepth 100000 in
set_option maxHeartbeats 4000000 in
theorem crbyte_end (w : World) (p : Nat) (B : Option Addr) (n cap : Nat) (hle : n ≤ 1000000) (h : RC w p B n cap n 0) :
    Calls Try.prog 19 #[.pointer (some ⟨p, 0, none⟩)] w fun e w' => e = .returned (.int .u8 0) ∧ RC w' p B n cap n 4 ∧ w.grownBy w' (some p) := by
  have HS := Lib.hid (cstopped_no w p B n cap n h)
  have hl := cleft_any w p B n cap n 0 h (Nat.le_refl _) hle
  rw [Nat.sub_self] at hl
  have HL := Lib.hid hl; clear hl
  have HR := Lib.hid h; clear h
  go_enter Try.func19, Try.ntmps19
  go_wp2_with fail
  refine HS.out.mono ?_
  rintro e w0 ⟨rfl, rfl⟩
  clear HS
  go_wp2_with fail
  refine HL.out.mono ?_
  rintro e w1 ⟨rfl, m, hw1⟩
  have hg1 : w0.grownBy w1 (some p) := by rw [hw1]; exact grown_drewN w0 m (some p)
  have HR1 := Lib.hid (HR.out.grown hw1)
  clear HL hw1
  go_wp2_with fail
  refine (cmove_any w1 p B n cap n 0 0 4 HR1.out (by omega)).mono ?_
  rintro e w2 ⟨rfl, hr2, hg2⟩
  have HR2 := Lib.hid hr2; clear hr2
  have HG := Lib.hid (grown_trans hg1 hg2); clear hg1 hg2
  go_wp2_with fail
  go_ret
  exact ⟨rfl, HR2.out, HG.out⟩
set_option maxRecDepth 100000 in
set_option maxHeartbeats 4000000 in
theorem crbyte_any (w : World) (p : Nat) (B : Option Addr) (l : List Nat) (n cap at_ : Nat) (hn : l.length = n) (hle : n ≤ 1000000) (h : RC w p B n cap at_ 0) (hat : at_ < n) {BB : Nat} (hr : Rd w BB B (vn l)) :
    Calls Try.prog 19 #[.pointer (some ⟨p, 0, none⟩)] w fun e w' => e = .returned (.int .u8 (l.getD at_ 0 : Int)) ∧ RC w' p B n cap (at_ + 1) 0 ∧ w.grownBy w' (some p) := by
  have HS := Lib.hid (cstopped_no w p B n cap at_ h)
  have hl := cleft_any w p B n cap at_ 0 h (by omega) hle
  obtain ⟨ad, rfl, hbd, hck⟩ := hr.num (k := at_) (by rw [hn]; exact hat)
  obtain ⟨x, hx⟩ : ∃ x, x = l.getD at_ 0 := ⟨_, rfl⟩
  rw [← hx] at hck
  rw [← hx]
  obtain ⟨r2, hr2⟩ : ∃ r2, r2 = n - at_ := ⟨_, rfl⟩
  rw [← hr2] at hl
  have hne : ¬ (r2 : Int) = 0 := by omega
  have hki : (at_ : Int) < (n : Int) := by omega
  clear hr hn hx hr2
  have HL := Lib.hid hl; clear hl
  have HR := Lib.hid h; clear h
  go_enter Try.func19, Try.ntmps19
  go_wp2_with fail
  refine HS.out.mono ?_
  rintro e w0 ⟨rfl, rfl⟩
  clear HS
  go_wp2_with fail
  refine HL.out.mono ?_
  rintro e w1 ⟨rfl, m, hw1⟩
  have hg1 : w0.grownBy w1 (some p) := by rw [hw1]; exact grown_drewN w0 m (some p)
  have HR1 := Lib.hid (HR.out.grown hw1)
  have hck1 : w1.cell? (ad.add at_) = some (.int .u8 (x : Int)) := by rw [hw1]; exact hck
  clear HL hw1 hck HR
  go_upto_region 6 with fail
  have d0 := HR1.out.c0
  have d1 := HR1.out.c1
  go_quiet (fail)
  have HR2 : Hid (RC (w1.drewN nq) p (some ad) n cap at_ 0) := Lib.hid HR1.out
  have hg2 := grown_trans hg1 (grown_drewN w1 nq (some p))
  generalize w1.drewN nq = w2 at *
  clear HR1 d0 d1 hg1 hck1
  go_wp2_with fail
  refine (cmove_any w2 p (some ad) n cap at_ 0 1 0 HR2.out (by omega)).mono ?_
  rintro e w3 ⟨rfl, hr3, hg3⟩
  have HR3 := Lib.hid hr3; clear hr3
  have HG := Lib.hid (grown_trans hg2 hg3); clear hg2 hg3
  go_wp2_with fail
  go_ret
  exact ⟨rfl, HR3.out, HG.out⟩

set_option maxRecDepth 100000 in
theorem crdone_nil (w : World) : Calls Try.prog 24 #[.pointer none] w fun e w' => e = .returned (.tuple #[.int .i64 1, .int .i64 0]) ∧ w' = w := by
  go_enter Try.func24, Try.ntmps24
  go_wp2_with fail
  go_ret2
  exact ⟨rfl, rfl⟩
set_option maxRecDepth 100000 in
set_option maxHeartbeats 4000000 in
theorem crdone_any (w : World) (p : Nat) (B : Option Addr) (n cap at_ f : Nat) (h : RC w p B n cap at_ f) (ha : at_ ≤ n) (hle : n ≤ 1000000) :
    Calls Try.prog 24 #[.pointer (some ⟨p, 0, none⟩)] w fun e w' => e = .returned (.tuple #[.int .i64 ((if f = 0 ∧ at_ < n then 5 else f : Nat) : Int), .int .i64 (at_ : Int)]) ∧ ∃ m, w' = w.drewN m := by
  have d1 := h.c1
  have d2 := h.c2
  by_cases hf : f = 0
  · subst hf
    rw [show ((0 : Nat) : Int) = 0 from rfl] at d2
    have hl := cleft_any w p B n cap at_ 0 h ha hle
    obtain ⟨r2, hr2⟩ : ∃ r2, r2 = n - at_ := ⟨_, rfl⟩
    rw [← hr2] at hl
    have HL := Lib.hid hl; clear hl
    have HR := Lib.hid h; clear h
    by_cases ha2 : at_ < n
    · have hri : (0 : Int) < (r2 : Int) := by omega
      rw [if_pos ⟨rfl, ha2⟩]
      clear hr2 ha2
      go_enter Try.func24, Try.ntmps24
      go_wp2_with fail
      refine HL.out.mono ?_
      rintro e w1 ⟨rfl, m, hw1⟩
      have HR1 := Lib.hid (HR.out.grown hw1)
      have HW := Lib.hid hw1
      clear HL hw1 d1 d2 HR
      have d1 := HR1.out.c1
      go_upto_region 6 with fail
      go_quiet (fail)
      go_wp2_with fail
      go_ret2
      exact ⟨rfl, _, by rw [HW.out, World.drewN_drewN]⟩
    · have hri : ¬ (0 : Int) < (r2 : Int) := by omega
      rw [if_neg (by omega)]
      clear hr2 ha2
      go_enter Try.func24, Try.ntmps24
      go_wp2_with fail
      refine HL.out.mono ?_
      rintro e w1 ⟨rfl, m, hw1⟩
      have HR1 := Lib.hid (HR.out.grown hw1)
      have HW := Lib.hid hw1
      clear HL hw1 d1 d2 HR
      have d1 := HR1.out.c1
      go_upto_region 7 with fail
      go_quiet (fail)
      go_wp2_with fail
      go_ret2
      exact ⟨rfl, _, by rw [HW.out, World.drewN_drewN]⟩
  · have hfn : ¬ (f : Int) = 0 := by omega
    have hfb : ((f : Int) != 0) = true := by rw [bne_iff_ne]; exact hfn
    rw [if_neg (by omega)]
    clear h
    go_enter Try.func24, Try.ntmps24
    go_upto_region 4 with fail
    go_quiet (fail)
    go_wp2_with fail
    go_ret2
    exact ⟨rfl, _, rfl⟩
end Go.Proofs.Ytbepibkbghmkkaa
