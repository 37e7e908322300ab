/-
  The document's reader (layer 7): Text. (Printed by wip/gen/packtext.py.)
-/
import Derived.Test.YtbepibkbghmkkaaPkE
import Derived.Deep.RegionHeld3
namespace Go.Proofs.Ytbepibkbghmkkaa
open Go Go.RowKit
set_option linter.unusedVariables false
set_option linter.unusedSimpArgs false

/-- What is wrong with a text of v bytes, of which no more than most may be and rest are there. -/
def txE (most : Int) (v rest e : Nat) : Nat := if e ≠ 0 then e else if (most ≤ 0 ∧ 0 < v) ∨ (0 < most ∧ most < (v : Int)) then 3 else if rest < v then 4 else 0
set_option maxRecDepth 100000 in
set_option maxHeartbeats 4000000 in
theorem rprtext_no (w : World) (p : Nat) (B : Option Addr) (n cap at_ f : Nat) (most : Int) (h : RR w p B n cap at_ f) (hf : f ≠ 0) :
    Calls Try.prog 22 #[.pointer (some ⟨p, 0, none⟩), .int .i64 most] w fun e w' => e = .returned (.slice none 0 0) ∧ w' = w := by
  have d2 := h.c2
  have hf2 : ¬ (f : Int) = 0 := by omega
  go_enter Try.func22, Try.ntmps22
  go_wp2_with fail
  go_ret
  exact ⟨rfl, rfl⟩

set_option maxRecDepth 100000 in
set_option maxHeartbeats 4000000 in
theorem rprtext_err (w : World) (p : Nat) (bd : Addr) (l : List Nat) (n cap at_ : Nat) (most : Int) (hm : -9223372036854775808 ≤ most ∧ most ≤ 9223372036854775807) (hn : l.length = n) (hl : ∀ x ∈ l, x < 256) (hle : n ≤ 1000000) (hc : n < cap) (h : RR w p (some bd) n cap at_ 0) (hat : at_ ≤ n) {BB : Nat} (hr : Rd w BB (some bd) (vn l)) (hp : BB ≤ p) (v k e0 : Nat) (hk : tk (l.drop at_) = (v, k, e0)) (hkb : k ≤ 10) (hkn : at_ + k ≤ n) (hv : v < 18446744073709551616) (he : txE most v (n - at_ - k) e0 ≠ 0) :
    Calls Try.prog 22 #[.pointer (some ⟨p, 0, none⟩), .int .i64 most] w fun e w' => e = .returned (.slice none 0 0) ∧ RR w' p (some bd) n cap at_ (txE most v (n - at_ - k) e0) ∧ w.grownBy w' (some p) := by
  have d0 := h.c0
  have d1 := h.c1
  have d2 := h.c2
  obtain ⟨j0, hi, hz0, hz1, hz2⟩ := info_parts info_b
  have q1 := run_tailP (P := Try.prog) 24 5 j0 Try.underlying24 hi hz1 bd n cap at_ hat hc
  have hrd : Rd w BB (some (bd.add at_)) (vn (l.drop at_)) := by rw [vn_drop]; exact hr.tailP at_
  have ht := fun m : Nat => rptaken_any (some (bd.add at_)) (l.drop at_) (n - at_) (cap - at_) (by rw [List.length_drop, hn]) (fun x hx => hl x (List.mem_of_mem_drop hx)) (by omega) (w.drewN m) (hrd.drewN m)
  simp only [hk] at ht
  obtain ⟨bt, hbt⟩ : ∃ bt, bt = bd.add at_ := ⟨_, rfl⟩
  obtain ⟨nt, hnt⟩ : ∃ nt, nt = n - at_ := ⟨_, rfl⟩
  obtain ⟨ct, hct⟩ : ∃ ct, ct = cap - at_ := ⟨_, rfl⟩
  rw [← hbt, ← hnt, ← hct] at q1
  rw [← hbt, ← hnt, ← hct] at ht
  clear hbt hnt hct hrd hk
  have HR := Lib.hid h; clear h
  have HT := Lib.hid ht; clear ht
  have HRD := Lib.hid hr; clear hr
  have HN := Lib.hid hn; clear hn
  have HL := Lib.hid hl; clear hl
  have HJ := Lib.hid (And.intro hi (And.intro hz0 (And.intro hz1 hz2))); clear hi hz0 hz1 hz2
  have s1 : IntKind.i64.wrap ((n : Int) - (at_ : Int)) = ((n - at_ : Nat) : Int) := by rw [IntWalk.i64_in _ (by omega)]; omega
  have s2 : IntKind.i64.wrap (((n - at_ : Nat) : Int) - (k : Int)) = ((n - at_ - k : Nat) : Int) := by rw [IntWalk.i64_in _ (by omega)]; omega
  obtain ⟨r1, hr1⟩ : ∃ r1, r1 = n - at_ := ⟨_, rfl⟩
  obtain ⟨r2, hr2⟩ : ∃ r2, r2 = n - at_ - k := ⟨_, rfl⟩
  rw [← hr1] at s1
  rw [← hr2] at s2
  rw [← hr1] at s2
  have s3 : IntKind.u64.wrap (r2 : Int) = (r2 : Int) := IntWalk.u64_in _ (by omega)
  rw [← hr2] at he
  rw [← hr2]
  clear hr1 hr2
  have HV := Lib.hid hv; clear hv
  by_cases h0 : e0 = 0
  · subst h0
    rw [show ((0 : Nat) : Int) = 0 from rfl] at *
    by_cases hmp : most ≤ 0
    · by_cases hv0 : 0 < v
      · have e : txE most v r2 0 = 3 := by unfold txE; rw [if_neg (by omega), if_pos (.inl ⟨hmp, hv0⟩)]
        rw [e]
        clear he e
        have hvi : (0 : Int) < (v : Int) := by omega
        go_enter Try.func22, Try.ntmps22
        go_upto_region 3 with fail
        go_quiet (refine Calls.quiet_of_same (HT.out _))
        have HR1 : Hid (RR (w.drewN nq) p (some bd) n cap at_ 0) := Lib.hid HR.out
        have hg1 := grown_drewN w nq (some p)
        have HRD1 : Hid (Rd (w.drewN nq) BB (some bd) (vn l)) := Lib.hid HRD.out
        clear HR d0 d1 d2 HT HRD
        generalize w.drewN nq = w1 at *
        go_upto_region 6 with fail
        have d0 := HR1.out.c0
        have d1 := HR1.out.c1
        go_quiet (fail)
        have HR2 : Hid (RR (w1.drewN nq) p (some bd) n cap at_ 0) := Lib.hid HR1.out
        have hg2 := grown_trans hg1 (grown_drewN w1 nq (some p))
        have HRD2 : Hid (Rd (w1.drewN nq) BB (some bd) (vn l)) := Lib.hid HRD1.out
        clear HR1 d0 d1 hg1 HRD1
        generalize w1.drewN nq = w2 at *
        have d2 := HR2.out.c2
        have f2 := HR2.out.fr 2
        go_wp2_with fail
        go_ret
        exact ⟨rfl, HR2.out.set2 3, grown_trans hg2 (grown_set w2 p 2 _)⟩
      · have e : txE most v r2 0 = 0 := by unfold txE; rw [if_neg (by omega), if_neg (by omega), if_neg (by omega)]
        exact (he e).elim
    · have hmp2 : 0 < most := by omega
      have hmw : IntKind.u64.wrap most = most := IntWalk.u64_in _ (by omega)
      by_cases hlv : most < (v : Int)
      · have e : txE most v r2 0 = 3 := by unfold txE; rw [if_neg (by omega), if_pos (.inr ⟨hmp2, hlv⟩)]
        rw [e]
        clear he e
        go_enter Try.func22, Try.ntmps22
        go_upto_region 3 with fail
        go_quiet (refine Calls.quiet_of_same (HT.out _))
        have HR1 : Hid (RR (w.drewN nq) p (some bd) n cap at_ 0) := Lib.hid HR.out
        have hg1 := grown_drewN w nq (some p)
        have HRD1 : Hid (Rd (w.drewN nq) BB (some bd) (vn l)) := Lib.hid HRD.out
        clear HR d0 d1 d2 HT HRD
        generalize w.drewN nq = w1 at *
        go_upto_region 6 with fail
        have d0 := HR1.out.c0
        have d1 := HR1.out.c1
        go_quiet (fail)
        have HR2 : Hid (RR (w1.drewN nq) p (some bd) n cap at_ 0) := Lib.hid HR1.out
        have hg2 := grown_trans hg1 (grown_drewN w1 nq (some p))
        have HRD2 : Hid (Rd (w1.drewN nq) BB (some bd) (vn l)) := Lib.hid HRD1.out
        clear HR1 d0 d1 hg1 HRD1
        generalize w1.drewN nq = w2 at *
        have d2 := HR2.out.c2
        have f2 := HR2.out.fr 2
        go_wp2_with fail
        go_ret
        exact ⟨rfl, HR2.out.set2 3, grown_trans hg2 (grown_set w2 p 2 _)⟩
      · have e : txE most v r2 0 = 4 := by
          unfold txE at he ⊢
          rw [if_neg (by omega), if_neg (by omega)] at he ⊢
          by_cases hsh : r2 < v
          · rw [if_pos hsh]
          · rw [if_neg hsh] at he; exact (he rfl).elim
        have hsh : r2 < v := by
          unfold txE at he
          rw [if_neg (by omega), if_neg (by omega)] at he
          by_cases hsh : r2 < v
          · exact hsh
          · rw [if_neg hsh] at he; exact (he rfl).elim
        rw [e]
        clear he e
        have hsi : (r2 : Int) < (v : Int) := by omega
        have hsd : decide ((r2 : Int) < (v : Int)) = true := decide_eq_true hsi
        go_enter Try.func22, Try.ntmps22
        go_upto_region 3 with fail
        go_quiet (refine Calls.quiet_of_same (HT.out _))
        have HR1 : Hid (RR (w.drewN nq) p (some bd) n cap at_ 0) := Lib.hid HR.out
        have hg1 := grown_drewN w nq (some p)
        have HRD1 : Hid (Rd (w.drewN nq) BB (some bd) (vn l)) := Lib.hid HRD.out
        clear HR d0 d1 d2 HT HRD
        generalize w.drewN nq = w1 at *
        go_upto_region 6 with fail
        have d0 := HR1.out.c0
        have d1 := HR1.out.c1
        go_quiet (fail)
        have HR2 : Hid (RR (w1.drewN nq) p (some bd) n cap at_ 0) := Lib.hid HR1.out
        have hg2 := grown_trans hg1 (grown_drewN w1 nq (some p))
        have HRD2 : Hid (Rd (w1.drewN nq) BB (some bd) (vn l)) := Lib.hid HRD1.out
        clear HR1 d0 d1 hg1 HRD1
        generalize w1.drewN nq = w2 at *
        have d2 := HR2.out.c2
        have f2 := HR2.out.fr 2
        go_wp2_with fail
        go_ret
        exact ⟨rfl, HR2.out.set2 4, grown_trans hg2 (grown_set w2 p 2 _)⟩
  · have e : txE most v r2 e0 = e0 := by unfold txE; rw [if_pos h0]
    rw [e]
    clear he e
    have hei : ¬ (e0 : Int) = 0 := by omega
    have heb : ((e0 : Int) == 0) = false := by rw [beq_eq_false_iff_ne]; omega
    have hed : decide ((e0 : Int) = 0) = false := decide_eq_false hei
    go_enter Try.func22, Try.ntmps22
    go_upto_region 3 with fail
    go_quiet (refine Calls.quiet_of_same (HT.out _))
    have HR1 : Hid (RR (w.drewN nq) p (some bd) n cap at_ 0) := Lib.hid HR.out
    have hg1 := grown_drewN w nq (some p)
    have HRD1 : Hid (Rd (w.drewN nq) BB (some bd) (vn l)) := Lib.hid HRD.out
    clear HR d0 d1 d2 HT HRD
    generalize w.drewN nq = w1 at *
    go_upto_region 6 with fail
    have d0 := HR1.out.c0
    have d1 := HR1.out.c1
    go_quiet (fail)
    have HR2 : Hid (RR (w1.drewN nq) p (some bd) n cap at_ 0) := Lib.hid HR1.out
    have hg2 := grown_trans hg1 (grown_drewN w1 nq (some p))
    have HRD2 : Hid (Rd (w1.drewN nq) BB (some bd) (vn l)) := Lib.hid HRD1.out
    clear HR1 d0 d1 hg1 HRD1
    generalize w1.drewN nq = w2 at *
    have d2 := HR2.out.c2
    have f2 := HR2.out.fr 2
    go_wp2_with fail
    go_ret
    exact ⟨rfl, HR2.out.set2 e0, grown_trans hg2 (grown_set w2 p 2 _)⟩
theorem own_lowP {w : World} {base base' e n : Nat} {v : Value} {xs : List Value} (h : w.ownsRow base e 1 v n xs) (hb : base' ≤ base) : w.ownsRow base' e 1 v n xs :=
  ⟨h.1, h.2.imp id fun ⟨g, cap, cur, hv, hg, rest⟩ => ⟨g, cap, cur, hv, Nat.le_trans hb hg, rest⟩⟩
theorem own_setP {w : World} {base e n p k : Nat} {v u : Value} {xs : List Value} (h : w.ownsRow base e 1 v n xs) (hp : p < base) : (w.setCell ⟨p, k, none⟩ u).ownsRow base e 1 v n xs :=
  ⟨h.1, h.2.imp id fun ⟨g, cap, cur, hv, hg, hh, rest⟩ => ⟨g, cap, cur, hv, hg, (heap_setCell_other _ _ _ _ (by show g ≠ p; omega)).trans hh, rest⟩⟩
theorem grown_below {w w' : World} (h : Below w.heap.size w w') (r : Option Nat) : w.grownBy w' r := ⟨h.os, h.tape, h.output, h.size, fun q hq _ => h.block q hq⟩

set_option maxRecDepth 100000 in
set_option maxHeartbeats 8000000 in
theorem rprtext_any (w : World) (p : Nat) (bd : Addr) (l : List Nat) (n cap at_ : Nat) (most : Int) (hm : -9223372036854775808 ≤ most ∧ most ≤ 9223372036854775807) (hn : l.length = n) (hl : ∀ x ∈ l, x < 256) (hle : n ≤ 1000000) (hc : n < cap) (h : RR w p (some bd) n cap at_ 0) (hat : at_ ≤ n) {BB : Nat} (hr : Rd w BB (some bd) (vn l)) (hp : BB ≤ p) (v k e0 : Nat) (hk : tk (l.drop at_) = (v, k, e0)) (hkb : k ≤ 10) (hkn : at_ + k ≤ n) (hv : v < 18446744073709551616) (he : txE most v (n - at_ - k) e0 = 0) :
    Calls Try.prog 22 #[.pointer (some ⟨p, 0, none⟩), .int .i64 most] w fun e w' => ∃ u, e = .returned u ∧ w'.ownsRow w.heap.size 5 1 u v (vn ((l.drop (at_ + k)).take v)) ∧ RR w' p (some bd) n cap (at_ + k + v) 0 ∧ w.grownBy w' (some p) := by
  have d0 := h.c0
  have d1 := h.c1
  have d2 := h.c2
  obtain ⟨j0, hi, hz0, hz1, hz2⟩ := info_parts info_b
  have q1 := run_tailP (P := Try.prog) 24 5 j0 Try.underlying24 hi hz1 bd n cap at_ hat hc
  have hrd : Rd w BB (some (bd.add at_)) (vn (l.drop at_)) := by rw [vn_drop]; exact hr.tailP at_
  have ht := fun m : Nat => rptaken_any (some (bd.add at_)) (l.drop at_) (n - at_) (cap - at_) (by rw [List.length_drop, hn]) (fun x hx => hl x (List.mem_of_mem_drop hx)) (by omega) (w.drewN m) (hrd.drewN m)
  simp only [hk] at ht
  obtain ⟨bt, hbt⟩ : ∃ bt, bt = bd.add at_ := ⟨_, rfl⟩
  obtain ⟨nt, hnt⟩ : ∃ nt, nt = n - at_ := ⟨_, rfl⟩
  obtain ⟨ct, hct⟩ : ∃ ct, ct = cap - at_ := ⟨_, rfl⟩
  rw [← hbt, ← hnt, ← hct] at q1
  rw [← hbt, ← hnt, ← hct] at ht
  clear hbt hnt hct hrd hk
  have HR := Lib.hid h; clear h
  have HT := Lib.hid ht; clear ht
  have HRD := Lib.hid hr; clear hr
  have HN := Lib.hid hn; clear hn
  have HL := Lib.hid hl; clear hl
  have HJ := Lib.hid (And.intro hi (And.intro hz0 (And.intro hz1 hz2))); clear hi hz0 hz1 hz2
  have s1 : IntKind.i64.wrap ((n : Int) - (at_ : Int)) = ((n - at_ : Nat) : Int) := by rw [IntWalk.i64_in _ (by omega)]; omega
  have s2 : IntKind.i64.wrap (((n - at_ : Nat) : Int) - (k : Int)) = ((n - at_ - k : Nat) : Int) := by rw [IntWalk.i64_in _ (by omega)]; omega
  obtain ⟨r1, hr1⟩ : ∃ r1, r1 = n - at_ := ⟨_, rfl⟩
  obtain ⟨r2, hr2⟩ : ∃ r2, r2 = n - at_ - k := ⟨_, rfl⟩
  rw [← hr1] at s1
  rw [← hr2] at s2
  rw [← hr1] at s2
  have s3 : IntKind.u64.wrap (r2 : Int) = (r2 : Int) := IntWalk.u64_in _ (by omega)
  rw [← hr2] at he
  have h0 : e0 = 0 := by
    unfold txE at he
    by_cases h0 : e0 = 0
    · exact h0
    · rw [if_pos h0] at he; exact (h0 he).elim
  subst h0
  have hnl : ¬ ((most ≤ 0 ∧ 0 < v) ∨ (0 < most ∧ most < (v : Int))) := fun hh => by
    unfold txE at he
    rw [if_neg (by omega), if_pos hh] at he
    cases he
  have hsh : ¬ r2 < v := fun hh => by
    unfold txE at he
    rw [if_neg (by omega), if_neg hnl, if_pos hh] at he
    cases he
  clear he
  rw [show ((0 : Nat) : Int) = 0 from rfl] at *
  have hv2 : at_ + k + v ≤ n := by omega
  have hsi : ¬ (r2 : Int) < (v : Int) := by omega
  have hsd : decide ((r2 : Int) < (v : Int)) = false := decide_eq_false hsi
  clear hr1 hr2 hsh
  by_cases hmp : most ≤ 0
  · have hv0 : v = 0 := by omega
    subst hv0
    rw [show ((0 : Nat) : Int) = 0 from rfl] at *
    clear hnl
    go_enter Try.func22, Try.ntmps22
    go_upto_region 3 with fail
    go_quiet (refine Calls.quiet_of_same (HT.out _))
    have HR1 : Hid (RR (w.drewN nq) p (some bd) n cap at_ 0) := Lib.hid HR.out
    have hg1 := grown_drewN w nq (some p)
    have HRD1 : Hid (Rd (w.drewN nq) BB (some bd) (vn l)) := Lib.hid HRD.out
    clear HR d0 d1 d2 HT HRD
    generalize w.drewN nq = w1 at *
    go_upto_region 6 with fail
    have d0 := HR1.out.c0
    have d1 := HR1.out.c1
    go_quiet (fail)
    have HR2 : Hid (RR (w1.drewN nq) p (some bd) n cap at_ 0) := Lib.hid HR1.out
    have hg2 := grown_trans hg1 (grown_drewN w1 nq (some p))
    have HRD2 : Hid (Rd (w1.drewN nq) BB (some bd) (vn l)) := Lib.hid HRD1.out
    clear HR1 d0 d1 hg1 HRD1
    generalize w1.drewN nq = w2 at *
    have hp2 := HR2.out.lt
    go_wp2_with fail
    go_loopw [8, 9] (fun u i wr => u = .slice none 0 0 ∧ i = .int .i64 0 ∧ w2 = wr) (fun _ _ _ => 0)
    case atStart => exact ⟨rfl, rfl, rfl⟩
    case round =>
      obtain ⟨rfl, rfl, rfl⟩ := hrel
      have d1 := HR2.out.c1
      have f1 := HR2.out.fr 1
      have w1' : IntKind.i64.wrap ((at_ : Int) + (k : Int)) = ((at_ + k : Nat) : Int) := by rw [IntWalk.i64_in _ (by omega)]; omega
      obtain ⟨a1, ha1⟩ : ∃ a1, a1 = at_ + k := ⟨_, rfl⟩
      rw [← ha1] at w1'
      have w2' : IntKind.i64.wrap (a1 : Int) = (a1 : Int) := IntWalk.i64_in _ (by omega)
      have HA := Lib.hid ha1; clear ha1
      have sz2 : w.heap.size ≤ w2.heap.size := hg2.size
      go_wp2_with fail
      go_ret
      refine ⟨_, rfl, ?_, ?_, grown_trans hg2 (grown_set w2 p 1 _)⟩
      · have := World.ownsRow_nil (w2.setCell ⟨p, 1, none⟩ (.int .i64 (a1 : Int))) w.heap.size 5 1
        simpa [vn] using this
      · rw [Nat.add_zero, ← HA.out]
        exact HR2.out.set1 a1
  · have hmp2 : 0 < most := by omega
    have hmw : IntKind.u64.wrap most = most := IntWalk.u64_in _ (by omega)
    have hlv : ¬ most < (v : Int) := by omega
    have HM := Lib.hid hnl; clear hnl
    go_enter Try.func22, Try.ntmps22
    go_upto_region 3 with fail
    go_quiet (refine Calls.quiet_of_same (HT.out _))
    have HR1 : Hid (RR (w.drewN nq) p (some bd) n cap at_ 0) := Lib.hid HR.out
    have hg1 := grown_drewN w nq (some p)
    have HRD1 : Hid (Rd (w.drewN nq) BB (some bd) (vn l)) := Lib.hid HRD.out
    clear HR d0 d1 d2 HT HRD
    generalize w.drewN nq = w1 at *
    go_upto_region 6 with fail
    have d0 := HR1.out.c0
    have d1 := HR1.out.c1
    go_quiet (fail)
    have HR2 : Hid (RR (w1.drewN nq) p (some bd) n cap at_ 0) := Lib.hid HR1.out
    have hg2 := grown_trans hg1 (grown_drewN w1 nq (some p))
    have HRD2 : Hid (Rd (w1.drewN nq) BB (some bd) (vn l)) := Lib.hid HRD1.out
    clear HR1 d0 d1 hg1 HRD1
    generalize w1.drewN nq = w2 at *
    have hp2 := HR2.out.lt
    have hvw : IntKind.i64.wrap (v : Int) = (v : Int) := IntWalk.i64_in _ (by omega)
    go_wp2_with fail
    go_loopw [8, 9] (fun u i wr => ∃ j : Nat, j ≤ v ∧ i = .int .i64 (j : Int) ∧ Hid (wr.ownsRow w2.heap.size 5 1 u j (vn ((l.drop (at_ + k)).take j))) ∧ Hid (Below w2.heap.size w2 wr)) (fun _ i _ => v - (intOf i).toNat)
    case atStart => exact ⟨0, by omega, rfl, Lib.hid (World.ownsRow_nil _ _ _ _), Lib.hid (Below.refl _ _)⟩
    case round =>
      rename_i wr _ _
      obtain ⟨j, hj, rfl, HO, HB⟩ := hrel
      by_cases hlt : j < v
      · have hji : (j : Int) < (v : Int) := by omega
        have hown := HO.out
        have hp3 : p < wr.heap.size := by have := HB.out.size; omega
        have HRr : RR wr p (some bd) n cap at_ 0 := (HB.out.block p hp2).trans HR2.out
        have d0 := HRr.c0
        have d1 := HRr.c1
        clear HRr
        obtain ⟨x, hx⟩ : ∃ x, x = l.getD (at_ + k + j) 0 := ⟨_, rfl⟩
        obtain ⟨ad, ew, hbd, hck⟩ := (HRD2.out.keep (w' := wr) (fun q hq => HB.out.cell (by omega))).num (k := at_ + k + j) (by rw [HN.out]; omega)
        cases ew
        rw [← hx] at hck
        have ht : (l.drop (at_ + k)).take (j + 1) = (l.drop (at_ + k)).take j ++ [x] := by
          rw [List.take_add_one, List.getElem?_drop, List.getElem?_eq_getElem (by rw [HN.out]; omega), hx, List.getD_eq_getElem?_getD, List.getElem?_eq_getElem (by rw [HN.out]; omega)]; rfl
        have HT2 := Lib.hid ht; clear ht hx
        have w1' : IntKind.i64.wrap ((at_ : Int) + (k : Int)) = ((at_ + k : Nat) : Int) := by rw [IntWalk.i64_in _ (by omega)]; omega
        have w2' : IntKind.i64.wrap (((at_ + k : Nat) : Int) + (j : Int)) = ((at_ + k + j : Nat) : Int) := by rw [IntWalk.i64_in _ (by omega)]; omega
        obtain ⟨a1, ha1⟩ : ∃ a1, a1 = at_ + k := ⟨_, rfl⟩
        obtain ⟨a2, ha2⟩ : ∃ a2, a2 = at_ + k + j := ⟨_, rfl⟩
        rw [← ha2] at w2' hck
        rw [← ha1] at w1' w2'
        have b1 : (a2 : Int) < (n : Int) := by omega
        have HA := Lib.hid (And.intro ha1 ha2); clear ha1 ha2
        have fa := own_far hown (g := bd.block) (by omega)
        have fb := own_far hown (g := p) hp2
        have sz := HB.out.size
        have hbw : bd.block < wr.heap.size := by omega
        have hi := HJ.out.1
        have hz0 := HJ.out.2.1
        have hz1 := HJ.out.2.2.1
        have hz2 := HJ.out.2.2.2
        have hwr : IntKind.i64.wrap ((j : Int) + 1) = (j : Int) + 1 := IntWalk.i64_in _ (by omega)
        go_upto_region 15 with fail
        go_region_held3 (fun w' => w'.cell? ⟨p, 0, none⟩ = some (.slice (some bd) n cap) ∧ w'.cell? ⟨p, 1, none⟩ = some (.int .i64 (at_ : Int)) ∧ w'.cell? (bd.add a2) = some (.int .u8 (x : Int)))
          (first
            | (exact ⟨d0, d1, hck⟩)
            | go_keep
            | (go_split_ands
               refine ⟨?_, ?_, ?_⟩
               · (rw [hgrow.cell_far _ (by simp; omega) fb]; assumption)
               · (rw [hgrow.cell_far _ (by simp; omega) fb]; assumption)
               · (rw [hgrow.cell_far _ (by rw [add_block]; simp; omega) (by rw [add_block]; exact fa)]; assumption)))
          (first | (refine step_append_lies _ (by rfl) _ _ _ (by rfl) w2.heap.size 5 j0 _ 1 1 Try.underlying24 hi hz0 hz1 hz2 rfl (by omega) _ j _ (by rfl) (by exact hown.alloc _) ⟨wr.heap.size, 0, none⟩ 1 1 [.int .u8 (x : Int)] (by rfl) (by rfl) (World.news_of_block (cs := #[.int .u8 (x : Int)]) (t := 5) (fr := (0, 0)) (heap_alloc_new _ _)) (by simp [Value.oneCell']) (by omega) (by unfold maxLen; omega) (by omega) (by simp; omega) (wr.heap.size + 1) (by simp) ?_; intro gg cap9 w9 hown9 hgrow hat9 hlt9))
        go_wp2_with fail
        go_roundw
        case rel =>
          refine ⟨j + 1, by omega, by go_num, Lib.hid ?_, Lib.hid ?_⟩
          · rw [HT2.out, vn_appP]; exact hown9
          · exact (((bdrewN HB.out _).alloc (by exact sz) _).grown hgrow (by simp; omega) (fun k hk => (hown.lt k hk).1))
        case measure => simp [intOf]; omega
      · obtain rfl : j = v := by omega
        have HRr : Hid (RR wr p (some bd) n cap at_ 0) := Lib.hid ((HB.out.block p hp2).trans HR2.out)
        have hg3 := grown_trans hg2 (grown_below HB.out (some p))
        have d1 := HRr.out.c1
        have f1 := HRr.out.fr 1
        have w1' : IntKind.i64.wrap ((at_ : Int) + (k : Int)) = ((at_ + k : Nat) : Int) := by rw [IntWalk.i64_in _ (by omega)]; omega
        have w2' : IntKind.i64.wrap (((at_ + k : Nat) : Int) + (j : Int)) = ((at_ + k + j : Nat) : Int) := by rw [IntWalk.i64_in _ (by omega)]; omega
        obtain ⟨a1, ha1⟩ : ∃ a1, a1 = at_ + k := ⟨_, rfl⟩
        obtain ⟨a2, ha2⟩ : ∃ a2, a2 = at_ + k + j := ⟨_, rfl⟩
        rw [← ha2] at w2'
        rw [← ha1] at w1' w2'
        have HA := Lib.hid (And.intro ha1 ha2); clear ha1 ha2
        have sz2 : w.heap.size ≤ w2.heap.size := hg2.size
        go_wp2_with fail
        go_ret
        refine ⟨_, rfl, own_lowP (own_setP HO.out hp2) sz2, ?_, grown_trans hg3 (grown_set wr p 1 _)⟩
        rw [← HA.out.2]
        exact HRr.out.set1 a2
end Go.Proofs.Ytbepibkbghmkkaa
