/-
  A reader's calls in one form, whatever it stands at: what is answered, and where it stands behind (layer 7).
-/
import Derived.Test.YtbepibkbghmkkaaPkF
namespace Go.Proofs.Ytbepibkbghmkkaa
open Go Go.RowKit
set_option linter.unusedVariables false
set_option linter.unusedSimpArgs false

theorem tk_bounds (l : List Nat) (hl : ∀ x ∈ l, x < 256) : (tk l).1 < 18446744073709551616 ∧ (tk l).2.1 ≤ 10 ∧ (tk l).2.1 ≤ l.length := by
  by_cases h : (tk l).2.2 = 0
  · obtain ⟨h1, h2, h3, _⟩ := tk_only l hl (tk l).1 (tk l).2.1 (by rw [← h])
    exact ⟨h1, by rw [h2]; exact leb_ten _ h1, h3⟩
  · rcases tk_fault l h with e | e | e <;> rw [e] <;> exact ⟨by decide, by decide, Nat.zero_le _⟩
/-- Num: what is answered, the place and the fault behind. -/
def rdNum (l : List Nat) (a f : Nat) : Nat × Nat × Nat := if f ≠ 0 then (0, a, f) else ((tk (l.drop a)).1, a + (tk (l.drop a)).2.1, (tk (l.drop a)).2.2)
def rdByte (l : List Nat) (a f : Nat) : Nat × Nat × Nat := if f ≠ 0 then (0, a, f) else if a = l.length then (0, a, 4) else (l.getD a 0, a + 1, 0)
def rdDone (l : List Nat) (a f : Nat) : Nat := if f = 0 ∧ a < l.length then 5 else f
/-- Text: the fault that it comes to. -/
def rdE (l : List Nat) (a : Nat) (most : Int) : Nat := txE most (tk (l.drop a)).1 (l.length - a - (tk (l.drop a)).2.1) (tk (l.drop a)).2.2
def rdText (l : List Nat) (a f : Nat) (most : Int) : List Nat × Nat × Nat :=
  if f ≠ 0 then ([], a, f) else if rdE l a most ≠ 0 then ([], a, rdE l a most)
  else ((l.drop (a + (tk (l.drop a)).2.1)).take (tk (l.drop a)).1, a + (tk (l.drop a)).2.1 + (tk (l.drop a)).1, 0)
theorem mem_dropP {l : List Nat} (hl : ∀ x ∈ l, x < 256) (a : Nat) : ∀ x ∈ l.drop a, x < 256 := fun x hx => hl x (List.mem_of_mem_drop hx)
theorem rdNum_le (l : List Nat) (hl : ∀ x ∈ l, x < 256) (a f : Nat) (h : a ≤ l.length) : (rdNum l a f).2.1 ≤ l.length := by
  unfold rdNum
  split
  · exact h
  · have := (tk_bounds (l.drop a) (mem_dropP hl a)).2.2
    rw [List.length_drop] at this
    show a + _ ≤ _
    omega
theorem rdNum_lt (l : List Nat) (hl : ∀ x ∈ l, x < 256) (a f : Nat) : (rdNum l a f).1 < 18446744073709551616 := by
  unfold rdNum
  split
  · show (0 : Nat) < 18446744073709551616
    decide
  · exact (tk_bounds (l.drop a) (mem_dropP hl a)).1
theorem rdByte_le (l : List Nat) (a f : Nat) (h : a ≤ l.length) : (rdByte l a f).2.1 ≤ l.length := by
  unfold rdByte
  split
  · exact h
  · split
    · exact h
    · show a + 1 ≤ _; omega
theorem txE_ok {most : Int} {v rest e : Nat} (h : txE most v rest e = 0) : e = 0 ∧ v ≤ rest := by
  unfold txE at h
  split at h
  · omega
  · split at h
    · omega
    · split at h
      · omega
      · omega
theorem rdText_le (l : List Nat) (hl : ∀ x ∈ l, x < 256) (a f : Nat) (most : Int) (h : a ≤ l.length) : (rdText l a f most).2.1 ≤ l.length := by
  unfold rdText
  split
  · exact h
  · split
    · exact h
    · rename_i h1 h2
      have h3 : (tk (l.drop a)).1 ≤ l.length - a - (tk (l.drop a)).2.1 := (txE_ok (Nat.eq_zero_of_not_pos (fun hh => h2 (by omega)) : rdE l a most = 0)).2
      have h4 := (tk_bounds (l.drop a) (mem_dropP hl a)).2.2
      rw [List.length_drop] at h4
      show a + _ + _ ≤ _
      omega
theorem rdText_lt (l : List Nat) (hl : ∀ x ∈ l, x < 256) (a f : Nat) (most : Int) : ∀ x ∈ (rdText l a f most).1, x < 256 := by
  unfold rdText
  split
  · simp
  · split
    · simp
    · exact fun x hx => hl x (List.mem_of_mem_drop (List.mem_of_mem_take hx))

theorem rprnum_all (w : World) (p : Nat) (bd : Addr) (l : List Nat) (n cap a f : Nat) (hn : l.length = n) (hl : ∀ x ∈ l, x < 256) (hle : n ≤ 1000000) (hc : n < cap) (h : RR w p (some bd) n cap a f) (hat : a ≤ n) {BB : Nat} (hr : Rd w BB (some bd) (vn l)) (hp : BB ≤ p) : Calls Try.prog 18 #[.pointer (some ⟨p, 0, none⟩)] w fun e w' => e = .returned (.int .u64 ((rdNum l a f).1 : Int)) ∧ RR w' p (some bd) n cap (rdNum l a f).2.1 (rdNum l a f).2.2 ∧ w.grownBy w' (some p) := by
  unfold rdNum
  by_cases hf : f = 0
  · subst hf
    rw [if_neg (by omega)]
    exact rprnum_any w p bd l n cap a hn hl hle hc h hat hr (tk (l.drop a)).1 (tk (l.drop a)).2.1 (tk (l.drop a)).2.2 rfl (tk_bounds (l.drop a) (mem_dropP hl a)).2.1
  · rw [if_pos hf]
    refine (rprnum_no w p (some bd) n cap a f h hf).mono ?_
    rintro e w' ⟨rfl, rfl⟩
    exact ⟨rfl, h, grown_drewN _ 0 _⟩
theorem rprbyte_all (w : World) (p : Nat) (bd : Addr) (l : List Nat) (n cap a f : Nat) (hn : l.length = n) (hl : ∀ x ∈ l, x < 256) (hle : n ≤ 1000000) (hc : n < cap) (h : RR w p (some bd) n cap a f) (hat : a ≤ n) {BB : Nat} (hr : Rd w BB (some bd) (vn l)) (hp : BB ≤ p) : Calls Try.prog 20 #[.pointer (some ⟨p, 0, none⟩)] w fun e w' => e = .returned (.int .u8 ((rdByte l a f).1 : Int)) ∧ RR w' p (some bd) n cap (rdByte l a f).2.1 (rdByte l a f).2.2 ∧ w.grownBy w' (some p) := by
  unfold rdByte
  by_cases hf : f = 0
  · subst hf
    rw [if_neg (by omega)]
    by_cases ha : a = l.length
    · rw [if_pos ha]
      obtain rfl : a = n := by omega
      exact rprbyte_end w p (some bd) a cap h
    · rw [if_neg ha]
      exact rprbyte_any w p bd l n cap a hn hle h (by omega) hr hp
  · rw [if_pos hf]
    refine (rprbyte_no w p (some bd) n cap a f h hf).mono ?_
    rintro e w' ⟨rfl, rfl⟩
    exact ⟨rfl, h, grown_drewN _ 0 _⟩
theorem rprdone_all (w : World) (p : Nat) (bd : Addr) (l : List Nat) (n cap a f : Nat) (hn : l.length = n) (hl : ∀ x ∈ l, x < 256) (hle : n ≤ 1000000) (hc : n < cap) (h : RR w p (some bd) n cap a f) (hat : a ≤ n) {BB : Nat} (hr : Rd w BB (some bd) (vn l)) (hp : BB ≤ p) : Calls Try.prog 25 #[.pointer (some ⟨p, 0, none⟩)] w fun e w' => e = .returned (.tuple #[.int .i64 (rdDone l a f : Int), .int .i64 (a : Int)]) ∧ RR w' p (some bd) n cap a f ∧ w.grownBy w' (some p) := by
  refine (rprdone_any w p (some bd) n cap a f h).mono ?_
  rintro e w' ⟨rfl, m, rfl⟩
  refine ⟨?_, h, grown_drewN _ m _⟩
  unfold rdDone
  rw [hn]
theorem rprtext_all (w : World) (p : Nat) (bd : Addr) (l : List Nat) (n cap a f : Nat) (hn : l.length = n) (hl : ∀ x ∈ l, x < 256) (hle : n ≤ 1000000) (hc : n < cap) (h : RR w p (some bd) n cap a f) (hat : a ≤ n) {BB : Nat} (hr : Rd w BB (some bd) (vn l)) (hp : BB ≤ p) (most : Int) (hm : -9223372036854775808 ≤ most ∧ most ≤ 9223372036854775807) :
    Calls Try.prog 22 #[.pointer (some ⟨p, 0, none⟩), .int .i64 most] w fun e w' => ∃ v, e = .returned v ∧ w'.ownsRow w.heap.size 5 1 v (rdText l a f most).1.length (vn (rdText l a f most).1) ∧ RR w' p (some bd) n cap (rdText l a f most).2.1 (rdText l a f most).2.2 ∧ w.grownBy w' (some p) := by
  unfold rdText
  by_cases hf : f = 0
  · subst hf
    rw [if_neg (by omega)]
    have hb := tk_bounds (l.drop a) (mem_dropP hl a)
    rw [List.length_drop] at hb
    by_cases hE : rdE l a most = 0
    · rw [if_neg (by omega)]
      have h3 : (tk (l.drop a)).1 ≤ l.length - a - (tk (l.drop a)).2.1 := (txE_ok hE).2
      have hle2 : ((l.drop (a + (tk (l.drop a)).2.1)).take (tk (l.drop a)).1).length = (tk (l.drop a)).1 := by
        rw [List.length_take, List.length_drop]
        omega
      rw [hle2]
      unfold rdE at hE
      rw [hn] at hE
      exact rprtext_any w p bd l n cap a most hm hn hl hle hc h hat hr hp (tk (l.drop a)).1 (tk (l.drop a)).2.1 (tk (l.drop a)).2.2 rfl hb.2.1 (by omega) hb.1 hE
    · rw [if_pos hE]
      unfold rdE at hE ⊢
      rw [hn] at hE ⊢
      refine (rprtext_err w p bd l n cap a most hm hn hl hle hc h hat hr hp (tk (l.drop a)).1 (tk (l.drop a)).2.1 (tk (l.drop a)).2.2 rfl hb.2.1 (by omega) hb.1 hE).mono ?_
      rintro e w' ⟨rfl, h1, h2⟩
      exact ⟨_, rfl, World.ownsRow_nil _ _ _ _, h1, h2⟩
  · rw [if_pos hf]
    refine (rprtext_no w p (some bd) n cap a f most h hf).mono ?_
    rintro e w' ⟨rfl, rfl⟩
    exact ⟨_, rfl, World.ownsRow_nil _ _ _ _, h, grown_drewN _ 0 _⟩
end Go.Proofs.Ytbepibkbghmkkaa
