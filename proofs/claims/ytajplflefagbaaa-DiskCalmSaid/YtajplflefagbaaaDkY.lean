/-
  What the outright laws of layer 8 stand on: low bits of a number, a call that is named by a Fail or stands behind a Cut; an op in a variable of its own.
-/
import Derived.Test.YtajplflefagbaaaDkS
namespace Go.Proofs.Ytajplflefagbaaa
open Go Go.RowKit
set_option linter.unusedVariables false
set_option linter.unusedSimpArgs false

theorem Ob.cells2 {w : World} {b : Nat} {o : OpV} (h : Ob w b o) : w.cell? ⟨b, 1, none⟩ = some (.int .i64 o.i) ∧ w.cell? ⟨b, 2, none⟩ = some (.int .i64 o.a) := ⟨h.c1, h.c2⟩
theorem i64_and7 (n : Int) : bits .and .i64 n 7 = (((n % 8).toNat : Nat) : Int) := by
  have h7 : (BitVec.ofInt 64 7).toNat = 2 ^ 3 - 1 := by decide
  have key : (BitVec.ofInt 64 n &&& BitVec.ofInt 64 7).toNat = (n % ((2 ^ 64 : Nat) : Int)).toNat % 2 ^ 3 := by
    rw [BitVec.toNat_and, BitVec.toNat_ofInt, h7, Nat.and_two_pow_sub_one_eq_mod]
  show IntKind.i64.wrap ((BitVec.ofInt 64 n &&& BitVec.ofInt 64 7).toNat : Nat) = (((n % 8).toNat : Nat) : Int)
  rw [key, IntKind.wrap_i64]
  omega
theorem i64_and1 (n : Int) : bits .and .i64 n 1 = (((n % 2).toNat : Nat) : Int) := by
  have h7 : (BitVec.ofInt 64 1).toNat = 2 ^ 1 - 1 := by decide
  have key : (BitVec.ofInt 64 n &&& BitVec.ofInt 64 1).toNat = (n % ((2 ^ 64 : Nat) : Int)).toNat % 2 ^ 1 := by
    rw [BitVec.toNat_and, BitVec.toNat_ofInt, h7, Nat.and_two_pow_sub_one_eq_mod]
  show IntKind.i64.wrap ((BitVec.ofInt 64 n &&& BitVec.ofInt 64 1).toNat : Nat) = (((n % 2).toNat : Nat) : Int)
  rw [key, IntKind.wrap_i64]
  omega
/-- The block that an op names, of eight. -/
def at7 (i : Int) : Nat := (i % 8).toNat
theorem at7_lt (i : Int) : at7 i < 8 := by unfold at7; omega
theorem at7_has (i : Int) : hasB 8 (at7 i : Int) = true := (hasB_iff 8 _).2 ⟨by omega, by have := at7_lt i; omega⟩

/-- Where a device stands behind i steps, of which a Fail named one and a Cut some. -/
structure FI (fail cut : Int) (i : Nat) (D : Dev) : Prop where
  c : D.cut = if cut < 0 then -1 else if cut ≤ (i : Int) then 0 else cut - i
  d : D.down = decide (0 ≤ cut ∧ cut < (i : Int))
  f : D.fail = if 0 ≤ cut ∧ cut < (i : Int) then fail.toNat - cut.toNat else fail.toNat - i
  s : D.steps = if 0 ≤ cut ∧ cut < (i : Int) then cut.toNat else i
  w : D.waits.length ≤ i
theorem FI.load {fail cut : Int} {i : Nat} {D : Dev} (h : FI fail cut i D) : D.load ≤ i := load_le h.w (by rw [h.s]; split <;> omega)
/-- What the step number i answers. -/
def wantE (fail cut : Int) (i : Nat) : Nat := if 0 ≤ cut ∧ cut ≤ (i : Int) then 81 else if (i : Int) + 1 = fail then 80 else 0
theorem FI.start (fail cut : Int) (hc : cut ≤ 9223372036854775807) : FI fail cut 0 (((Dev.new 8).setFail fail).setCut cut) := by
  refine ⟨?_, ?_, ?_, ?_, Nat.zero_le _⟩
  · show max cut (-1) = _
    split
    · omega
    · split <;> omega
  · show false = _
    rw [eq_comm, decide_eq_false_iff_not]; omega
  · show fail.toNat = _
    rw [if_neg (by omega)]; omega
  · show 0 = _
    rw [if_neg (by omega)]
theorem FI.want {fail cut : Int} {i : Nat} {D : Dev} (h : FI fail cut i D) : D.stepE = wantE fail cut i := by
  have hc := h.c
  have hd := h.d
  have hf := h.f
  unfold Dev.stepE wantE
  by_cases h1 : 0 ≤ cut ∧ cut ≤ (i : Int)
  · rw [if_pos h1, if_pos]
    left
    rw [hc, if_neg (by omega), if_pos h1.2]
  · rw [if_neg h1, if_neg]
    · rw [if_neg (by omega)] at hf
      rw [hf]
      by_cases h2 : (i : Int) + 1 = fail
      · rw [if_pos h2, if_pos (by omega)]
      · rw [if_neg h2, if_neg (by omega)]
    · rintro (h3 | h3)
      · rw [hc] at h3
        split at h3
        · omega
        · split at h3 <;> omega
      · rw [hd, decide_eq_true_eq] at h3; omega
theorem FI.next {fail cut : Int} {i : Nat} {D : Dev} (h : FI fail cut i D) (hi : i ≤ 1000) : FI fail cut (i + 1) D.step := by
  have hc := h.c
  have hd := h.d
  have hf := h.f
  have hs := h.s
  have hw := h.w
  by_cases h1 : 0 ≤ cut ∧ cut ≤ (i : Int)
  · have hcond : D.cut = 0 ∨ D.down = true := .inl (by rw [hc, if_neg (by omega), if_pos h1.2])
    have e : D.step = { D with down := true } := by unfold Dev.step; rw [if_pos hcond]
    rw [e]
    refine ⟨?_, ?_, ?_, ?_, Nat.le_succ_of_le hw⟩
    · show D.cut = _
      rw [hc, if_neg (by omega), if_pos h1.2, if_neg (by omega), if_pos (by omega)]
    · show true = _
      rw [eq_comm, decide_eq_true_eq]; omega
    · show D.fail = _
      rw [hf, if_pos (show 0 ≤ cut ∧ cut < ((i + 1 : Nat) : Int) by omega)]
      split
      · rfl
      · have : cut = (i : Int) := by omega
        rw [this]; rfl
    · show D.steps = _
      rw [hs, if_pos (show 0 ≤ cut ∧ cut < ((i + 1 : Nat) : Int) by omega)]
      split
      · rfl
      · have : cut = (i : Int) := by omega
        rw [this]; rfl
  · have hno : ¬ (D.cut = 0 ∨ D.down = true) := by
      rintro (h3 | h3)
      · rw [hc] at h3
        split at h3
        · omega
        · split at h3 <;> omega
      · rw [hd, decide_eq_true_eq] at h3; omega
    have e : D.step = { D with cut := if 0 < D.cut then D.cut - 1 else D.cut, steps := (D.steps + 1) % 18446744073709551616, fail := D.fail - 1 } := by unfold Dev.step; rw [if_neg hno]
    rw [if_neg (by omega)] at hf hs
    rw [e]
    refine ⟨?_, ?_, ?_, ?_, Nat.le_succ_of_le hw⟩
    · show (if 0 < D.cut then D.cut - 1 else D.cut) = _
      rw [hc]
      by_cases h4 : cut < 0
      · rw [if_pos h4, if_pos h4]; rfl
      · have h5 : ¬ cut ≤ (i : Int) := by omega
        rw [if_neg h4, if_neg h4, if_neg h5, if_pos (show 0 < cut - (i : Int) by omega)]
        split <;> omega
    · show D.down = _
      rw [hd]
      congr 1
      apply propext
      constructor <;> (intro; omega)
    · show D.fail - 1 = _
      rw [hf, if_neg (by omega)]; omega
    · show (D.steps + 1) % 18446744073709551616 = _
      rw [hs, if_neg (by omega)]; omega
theorem FI.put {fail cut : Int} {i : Nat} {D : Dev} (h : FI fail cut (i + 1) D.step) (hw : D.waits.length ≤ i) (k : Nat) (l : List UInt8) : FI fail cut (i + 1) (D.step.put k l) :=
  ⟨h.c, h.d, h.f, h.s, by show (D.step.waits ++ [(k, l)]).length ≤ i + 1; rw [waits_step]; simp; exact hw⟩
theorem FI.write {fail cut : Int} {i : Nat} {D : Dev} (h : FI fail cut i D) (hi : i ≤ 1000) (k : Nat) (hk : hasB 8 (k : Int) = true) (l : List UInt8) (hl : l.length = 256) : FI fail cut (i + 1) (D.write 8 (k : Int) l) ∧ D.writeE 8 (k : Int) l = wantE fail cut i := by
  refine ⟨?_, ?_⟩
  · unfold Dev.write
    rw [if_pos ⟨hk, hl⟩]
    split
    · exact (h.next hi).put h.w _ _
    · exact h.next hi
  · unfold Dev.writeE
    rw [if_pos ⟨hk, hl⟩, h.want]
theorem FI.failed {fail cut : Int} {i : Nat} {D : Dev} (h : FI fail cut i D) (hw : wantE fail cut i = 80) (k : Nat) (hk : hasB 8 (k : Int) = true) (l : List UInt8) (hl : l.length = 256) :
    D.write 8 (k : Int) l = D.step ∧ D.step.readE 8 (k : Int) = 0 ∧ D.step.readB 8 (k : Int) = D.readB 8 (k : Int) ∧ D.step.waits.length = D.waits.length := by
  have hE := h.want
  rw [hw] at hE
  have hno : ¬ (D.cut = 0 ∨ D.down = true) := fun hh => by unfold Dev.stepE at hE; rw [if_pos hh] at hE; cases hE
  have hdn : D.down = false := by simpa using fun hh => hno (.inr hh)
  have hd2 : D.step.down = false := by unfold Dev.step; rw [if_neg hno]; exact hdn
  have hn2 : D.step.now = D.now := by unfold Dev.step; rw [if_neg hno]
  refine ⟨?_, ?_, ?_, by rw [waits_step]⟩
  · unfold Dev.write; rw [if_pos ⟨hk, hl⟩, if_neg (by rw [hE]; decide)]
  · unfold Dev.readE; rw [if_pos hk, if_neg (by rw [hd2]; decide)]
  · have e1 : D.step.readE 8 (k : Int) = 0 := by unfold Dev.readE; rw [if_pos hk, if_neg (by rw [hd2]; decide)]
    have e2 : D.readE 8 (k : Int) = 0 := by unfold Dev.readE; rw [if_pos hk, if_neg (by rw [hdn]; decide)]
    unfold Dev.readB
    rw [if_pos e1, if_pos e2, hn2]
end Go.Proofs.Ytajplflefagbaaa
