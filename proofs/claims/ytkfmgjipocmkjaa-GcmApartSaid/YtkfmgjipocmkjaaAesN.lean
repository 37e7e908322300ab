/-
  Arrays of sixteen bytes, compared. (Printed by wip/gen/aeseq.py.)
-/
import Derived.Test.YtkfmgjipocmkjaaFoldA
namespace Go.Proofs.Ytkfmgjipocmkjaa
open Go Go.RowKit
set_option linter.unusedVariables false
set_option linter.unusedSimpArgs false

theorem guard16 (x y : Operand) (xs ys : Array Value) (w : World) : (eqGuard .eql 35 x y (.agg xs) (.agg ys)).run Try.prog w = .ok () w := by kernel_rfl

theorem part16_0 (f : Nat → Nat) (w : World) : (part 5 (aN 16 f) 0).run Try.prog w = .ok (.int .u8 (f 0 : Int)) w := by kernel_rfl
theorem part16_1 (f : Nat → Nat) (w : World) : (part 5 (aN 16 f) 1).run Try.prog w = .ok (.int .u8 (f 1 : Int)) w := by kernel_rfl
theorem part16_2 (f : Nat → Nat) (w : World) : (part 5 (aN 16 f) 2).run Try.prog w = .ok (.int .u8 (f 2 : Int)) w := by kernel_rfl
theorem part16_3 (f : Nat → Nat) (w : World) : (part 5 (aN 16 f) 3).run Try.prog w = .ok (.int .u8 (f 3 : Int)) w := by kernel_rfl
theorem part16_4 (f : Nat → Nat) (w : World) : (part 5 (aN 16 f) 4).run Try.prog w = .ok (.int .u8 (f 4 : Int)) w := by kernel_rfl
theorem part16_5 (f : Nat → Nat) (w : World) : (part 5 (aN 16 f) 5).run Try.prog w = .ok (.int .u8 (f 5 : Int)) w := by kernel_rfl
theorem part16_6 (f : Nat → Nat) (w : World) : (part 5 (aN 16 f) 6).run Try.prog w = .ok (.int .u8 (f 6 : Int)) w := by kernel_rfl
theorem part16_7 (f : Nat → Nat) (w : World) : (part 5 (aN 16 f) 7).run Try.prog w = .ok (.int .u8 (f 7 : Int)) w := by kernel_rfl
theorem part16_8 (f : Nat → Nat) (w : World) : (part 5 (aN 16 f) 8).run Try.prog w = .ok (.int .u8 (f 8 : Int)) w := by kernel_rfl
theorem part16_9 (f : Nat → Nat) (w : World) : (part 5 (aN 16 f) 9).run Try.prog w = .ok (.int .u8 (f 9 : Int)) w := by kernel_rfl
theorem part16_10 (f : Nat → Nat) (w : World) : (part 5 (aN 16 f) 10).run Try.prog w = .ok (.int .u8 (f 10 : Int)) w := by kernel_rfl
theorem part16_11 (f : Nat → Nat) (w : World) : (part 5 (aN 16 f) 11).run Try.prog w = .ok (.int .u8 (f 11 : Int)) w := by kernel_rfl
theorem part16_12 (f : Nat → Nat) (w : World) : (part 5 (aN 16 f) 12).run Try.prog w = .ok (.int .u8 (f 12 : Int)) w := by kernel_rfl
theorem part16_13 (f : Nat → Nat) (w : World) : (part 5 (aN 16 f) 13).run Try.prog w = .ok (.int .u8 (f 13 : Int)) w := by kernel_rfl
theorem part16_14 (f : Nat → Nat) (w : World) : (part 5 (aN 16 f) 14).run Try.prog w = .ok (.int .u8 (f 14 : Int)) w := by kernel_rfl
theorem part16_15 (f : Nat → Nat) (w : World) : (part 5 (aN 16 f) 15).run Try.prog w = .ok (.int .u8 (f 15 : Int)) w := by kernel_rfl

/-- The same sixteen bytes, as a Bool. -/
def sameB (f g : Nat → Nat) : Bool := (List.range 16).all fun i => f i == g i
theorem sameB_iff {f g : Nat → Nat} : sameB f g = true ↔ E16 f g := by simp [sameB, E16]
theorem sameB_true {f g : Nat → Nat} (h : E16 f g) : sameB f g = true := sameB_iff.mpr h
theorem sameB_not {f g : Nat → Nat} (k : Nat) (hk : k < 16) (h : f k ≠ g k) : sameB f g = false := by
  rw [Bool.eq_false_iff]
  exact fun e => h (sameB_iff.mp e k hk)

set_option maxHeartbeats 4000000 in
theorem eqin16_at (e : Nat) (he : ∀ (a b : Int) (w : World), (Op.equalIn e 5 (.int .u8 a) (.int .u8 b)).run Try.prog w = .ok (a == b) w) (f g : Nat → Nat) (w : World) :
    (Op.equalIn (e + 1) 35 (.agg (aN 16 f)) (.agg (aN 16 g))).run Try.prog w = .ok (sameB f g) w := by
  simp only [Op.equalIn, Sem.run_bind, run_underlying Try.underlying35, Result.andThen_ok, size_u8]
  simp only [Std.Legacy.Range.forIn_eq_forIn_range', Std.Legacy.Range.size, List.range', Nat.mul_one, Nat.sub_zero, Nat.add_sub_cancel, Nat.div_one, List.forIn_cons, List.forIn_nil, Sem.run_bind, Nat.zero_add, Nat.reduceAdd]
  rcases Nat.decEq (f 0) (g 0) with h0 | h0
  · rw [sameB_not 0 (by omega) h0]
    simp [part16_0, he, h0, Sem.run_bind, Int.natCast_inj]
  rcases Nat.decEq (f 1) (g 1) with h1 | h1
  · rw [sameB_not 1 (by omega) h1]
    simp [part16_1, he, h1, Sem.run_bind, Int.natCast_inj, part16_0, h0]
  rcases Nat.decEq (f 2) (g 2) with h2 | h2
  · rw [sameB_not 2 (by omega) h2]
    simp [part16_2, he, h2, Sem.run_bind, Int.natCast_inj, part16_0, h0, part16_1, h1]
  rcases Nat.decEq (f 3) (g 3) with h3 | h3
  · rw [sameB_not 3 (by omega) h3]
    simp [part16_3, he, h3, Sem.run_bind, Int.natCast_inj, part16_0, h0, part16_1, h1, part16_2, h2]
  rcases Nat.decEq (f 4) (g 4) with h4 | h4
  · rw [sameB_not 4 (by omega) h4]
    simp [part16_4, he, h4, Sem.run_bind, Int.natCast_inj, part16_0, h0, part16_1, h1, part16_2, h2, part16_3, h3]
  rcases Nat.decEq (f 5) (g 5) with h5 | h5
  · rw [sameB_not 5 (by omega) h5]
    simp [part16_5, he, h5, Sem.run_bind, Int.natCast_inj, part16_0, h0, part16_1, h1, part16_2, h2, part16_3, h3, part16_4, h4]
  rcases Nat.decEq (f 6) (g 6) with h6 | h6
  · rw [sameB_not 6 (by omega) h6]
    simp [part16_6, he, h6, Sem.run_bind, Int.natCast_inj, part16_0, h0, part16_1, h1, part16_2, h2, part16_3, h3, part16_4, h4, part16_5, h5]
  rcases Nat.decEq (f 7) (g 7) with h7 | h7
  · rw [sameB_not 7 (by omega) h7]
    simp [part16_7, he, h7, Sem.run_bind, Int.natCast_inj, part16_0, h0, part16_1, h1, part16_2, h2, part16_3, h3, part16_4, h4, part16_5, h5, part16_6, h6]
  rcases Nat.decEq (f 8) (g 8) with h8 | h8
  · rw [sameB_not 8 (by omega) h8]
    simp [part16_8, he, h8, Sem.run_bind, Int.natCast_inj, part16_0, h0, part16_1, h1, part16_2, h2, part16_3, h3, part16_4, h4, part16_5, h5, part16_6, h6, part16_7, h7]
  rcases Nat.decEq (f 9) (g 9) with h9 | h9
  · rw [sameB_not 9 (by omega) h9]
    simp [part16_9, he, h9, Sem.run_bind, Int.natCast_inj, part16_0, h0, part16_1, h1, part16_2, h2, part16_3, h3, part16_4, h4, part16_5, h5, part16_6, h6, part16_7, h7, part16_8, h8]
  rcases Nat.decEq (f 10) (g 10) with h10 | h10
  · rw [sameB_not 10 (by omega) h10]
    simp [part16_10, he, h10, Sem.run_bind, Int.natCast_inj, part16_0, h0, part16_1, h1, part16_2, h2, part16_3, h3, part16_4, h4, part16_5, h5, part16_6, h6, part16_7, h7, part16_8, h8, part16_9, h9]
  rcases Nat.decEq (f 11) (g 11) with h11 | h11
  · rw [sameB_not 11 (by omega) h11]
    simp [part16_11, he, h11, Sem.run_bind, Int.natCast_inj, part16_0, h0, part16_1, h1, part16_2, h2, part16_3, h3, part16_4, h4, part16_5, h5, part16_6, h6, part16_7, h7, part16_8, h8, part16_9, h9, part16_10, h10]
  rcases Nat.decEq (f 12) (g 12) with h12 | h12
  · rw [sameB_not 12 (by omega) h12]
    simp [part16_12, he, h12, Sem.run_bind, Int.natCast_inj, part16_0, h0, part16_1, h1, part16_2, h2, part16_3, h3, part16_4, h4, part16_5, h5, part16_6, h6, part16_7, h7, part16_8, h8, part16_9, h9, part16_10, h10, part16_11, h11]
  rcases Nat.decEq (f 13) (g 13) with h13 | h13
  · rw [sameB_not 13 (by omega) h13]
    simp [part16_13, he, h13, Sem.run_bind, Int.natCast_inj, part16_0, h0, part16_1, h1, part16_2, h2, part16_3, h3, part16_4, h4, part16_5, h5, part16_6, h6, part16_7, h7, part16_8, h8, part16_9, h9, part16_10, h10, part16_11, h11, part16_12, h12]
  rcases Nat.decEq (f 14) (g 14) with h14 | h14
  · rw [sameB_not 14 (by omega) h14]
    simp [part16_14, he, h14, Sem.run_bind, Int.natCast_inj, part16_0, h0, part16_1, h1, part16_2, h2, part16_3, h3, part16_4, h4, part16_5, h5, part16_6, h6, part16_7, h7, part16_8, h8, part16_9, h9, part16_10, h10, part16_11, h11, part16_12, h12, part16_13, h13]
  rcases Nat.decEq (f 15) (g 15) with h15 | h15
  · rw [sameB_not 15 (by omega) h15]
    simp [part16_15, he, h15, Sem.run_bind, Int.natCast_inj, part16_0, h0, part16_1, h1, part16_2, h2, part16_3, h3, part16_4, h4, part16_5, h5, part16_6, h6, part16_7, h7, part16_8, h8, part16_9, h9, part16_10, h10, part16_11, h11, part16_12, h12, part16_13, h13, part16_14, h14]
  rw [sameB_true (fun i hi => by
    have h : i = 0 ∨ i = 1 ∨ i = 2 ∨ i = 3 ∨ i = 4 ∨ i = 5 ∨ i = 6 ∨ i = 7 ∨ i = 8 ∨ i = 9 ∨ i = 10 ∨ i = 11 ∨ i = 12 ∨ i = 13 ∨ i = 14 ∨ i = 15 := by omega
    rcases h with rfl | rfl | rfl | rfl | rfl | rfl | rfl | rfl | rfl | rfl | rfl | rfl | rfl | rfl | rfl | rfl <;> assumption)]
  simp [part16_0, part16_1, part16_2, part16_3, part16_4, part16_5, part16_6, part16_7, part16_8, part16_9, part16_10, part16_11, part16_12, part16_13, part16_14, part16_15, he, Sem.run_bind, Int.natCast_inj, h0, h1, h2, h3, h4, h5, h6, h7, h8, h9, h10, h11, h12, h13, h14, h15]
theorem eqin16 (f g : Nat → Nat) (w : World) : (Op.equalIn 10000 35 (.agg (aN 16 f)) (.agg (aN 16 g))).run Try.prog w = .ok (sameB f g) w :=
  eqin16_at 9999 (eqin_u8 9998) f g w
theorem eq16 (f g : Nat → Nat) (w : World) : (binOp .eql 35 (.agg (aN 16 f)) (.agg (aN 16 g))).run Try.prog w = .ok (.bool (sameB f g)) w := by
  rw [run_eql_struct, eqin16]; rfl
theorem eq16_same (f : Nat → Nat) (w : World) : (binOp .eql 35 (.agg (aN 16 f)) (.agg (aN 16 f))).run Try.prog w = .ok (.bool true) w := by
  rw [eq16, sameB_true (E16.refl f)]
end Go.Proofs.Ytkfmgjipocmkjaa
