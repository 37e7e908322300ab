/-
  Arrays of 12 bytes, compared. (Printed by wip/gen/eq12.py.)
-/
import Derived.Test.YtfgigoheaoanpaaRow
import Derived.Test.YtfgigoheaoanpaaEqU
namespace Go.Proofs.Ytfgigoheaoanpaa
open Go Go.RowKit
set_option linter.unusedVariables false
set_option linter.unusedSimpArgs false

theorem guard12 (x y : Operand) (xs ys : Array Value) (w : World) : (eqGuard .eql 39 x y (.agg xs) (.agg ys)).run Try.prog w = .ok () w := by kernel_rfl

theorem part12_0 (f : Nat → Nat) (w : World) : (part 5 (aN 12 f) 0).run Try.prog w = .ok (.int .u8 (f 0 : Int)) w := by kernel_rfl
theorem part12_1 (f : Nat → Nat) (w : World) : (part 5 (aN 12 f) 1).run Try.prog w = .ok (.int .u8 (f 1 : Int)) w := by kernel_rfl
theorem part12_2 (f : Nat → Nat) (w : World) : (part 5 (aN 12 f) 2).run Try.prog w = .ok (.int .u8 (f 2 : Int)) w := by kernel_rfl
theorem part12_3 (f : Nat → Nat) (w : World) : (part 5 (aN 12 f) 3).run Try.prog w = .ok (.int .u8 (f 3 : Int)) w := by kernel_rfl
theorem part12_4 (f : Nat → Nat) (w : World) : (part 5 (aN 12 f) 4).run Try.prog w = .ok (.int .u8 (f 4 : Int)) w := by kernel_rfl
theorem part12_5 (f : Nat → Nat) (w : World) : (part 5 (aN 12 f) 5).run Try.prog w = .ok (.int .u8 (f 5 : Int)) w := by kernel_rfl
theorem part12_6 (f : Nat → Nat) (w : World) : (part 5 (aN 12 f) 6).run Try.prog w = .ok (.int .u8 (f 6 : Int)) w := by kernel_rfl
theorem part12_7 (f : Nat → Nat) (w : World) : (part 5 (aN 12 f) 7).run Try.prog w = .ok (.int .u8 (f 7 : Int)) w := by kernel_rfl
theorem part12_8 (f : Nat → Nat) (w : World) : (part 5 (aN 12 f) 8).run Try.prog w = .ok (.int .u8 (f 8 : Int)) w := by kernel_rfl
theorem part12_9 (f : Nat → Nat) (w : World) : (part 5 (aN 12 f) 9).run Try.prog w = .ok (.int .u8 (f 9 : Int)) w := by kernel_rfl
theorem part12_10 (f : Nat → Nat) (w : World) : (part 5 (aN 12 f) 10).run Try.prog w = .ok (.int .u8 (f 10 : Int)) w := by kernel_rfl
theorem part12_11 (f : Nat → Nat) (w : World) : (part 5 (aN 12 f) 11).run Try.prog w = .ok (.int .u8 (f 11 : Int)) w := by kernel_rfl

/-- The same 12 bytes, as a Bool. -/
def sameB12 (f g : Nat → Nat) : Bool := (List.range 12).all fun i => f i == g i
theorem sameB12_iff {f g : Nat → Nat} : sameB12 f g = true ↔ ∀ i, i < 12 → f i = g i := by simp [sameB12]
theorem sameB12_true {f g : Nat → Nat} (h : ∀ i, i < 12 → f i = g i) : sameB12 f g = true := sameB12_iff.mpr h
theorem sameB12_not {f g : Nat → Nat} (k : Nat) (hk : k < 12) (h : f k ≠ g k) : sameB12 f g = false := by
  rw [Bool.eq_false_iff]
  exact fun e => h (sameB12_iff.mp e k hk)

set_option maxHeartbeats 4000000 in
theorem eqin12_at (e : Nat) (he : ∀ (a b : Int) (w : World), (Op.equalIn e 5 (.int .u8 a) (.int .u8 b)).run Try.prog w = .ok (a == b) w) (f g : Nat → Nat) (w : World) :
    (Op.equalIn (e + 1) 39 (.agg (aN 12 f)) (.agg (aN 12 g))).run Try.prog w = .ok (sameB12 f g) w := by
  simp only [Op.equalIn, Sem.run_bind, run_underlying Try.underlying39, Result.andThen_ok, size_u8]
  simp only [Std.Legacy.Range.forIn_eq_forIn_range', Std.Legacy.Range.size, List.range', Nat.mul_one, Nat.sub_zero, Nat.add_sub_cancel, Nat.div_one, List.forIn_cons, List.forIn_nil, Sem.run_bind, Nat.zero_add, Nat.reduceAdd]
  rcases Nat.decEq (f 0) (g 0) with h0 | h0
  · rw [sameB12_not 0 (by omega) h0]
    simp [part12_0, he, h0, Sem.run_bind, Int.natCast_inj]
  rcases Nat.decEq (f 1) (g 1) with h1 | h1
  · rw [sameB12_not 1 (by omega) h1]
    simp [part12_1, he, h1, Sem.run_bind, Int.natCast_inj, part12_0, h0]
  rcases Nat.decEq (f 2) (g 2) with h2 | h2
  · rw [sameB12_not 2 (by omega) h2]
    simp [part12_2, he, h2, Sem.run_bind, Int.natCast_inj, part12_0, h0, part12_1, h1]
  rcases Nat.decEq (f 3) (g 3) with h3 | h3
  · rw [sameB12_not 3 (by omega) h3]
    simp [part12_3, he, h3, Sem.run_bind, Int.natCast_inj, part12_0, h0, part12_1, h1, part12_2, h2]
  rcases Nat.decEq (f 4) (g 4) with h4 | h4
  · rw [sameB12_not 4 (by omega) h4]
    simp [part12_4, he, h4, Sem.run_bind, Int.natCast_inj, part12_0, h0, part12_1, h1, part12_2, h2, part12_3, h3]
  rcases Nat.decEq (f 5) (g 5) with h5 | h5
  · rw [sameB12_not 5 (by omega) h5]
    simp [part12_5, he, h5, Sem.run_bind, Int.natCast_inj, part12_0, h0, part12_1, h1, part12_2, h2, part12_3, h3, part12_4, h4]
  rcases Nat.decEq (f 6) (g 6) with h6 | h6
  · rw [sameB12_not 6 (by omega) h6]
    simp [part12_6, he, h6, Sem.run_bind, Int.natCast_inj, part12_0, h0, part12_1, h1, part12_2, h2, part12_3, h3, part12_4, h4, part12_5, h5]
  rcases Nat.decEq (f 7) (g 7) with h7 | h7
  · rw [sameB12_not 7 (by omega) h7]
    simp [part12_7, he, h7, Sem.run_bind, Int.natCast_inj, part12_0, h0, part12_1, h1, part12_2, h2, part12_3, h3, part12_4, h4, part12_5, h5, part12_6, h6]
  rcases Nat.decEq (f 8) (g 8) with h8 | h8
  · rw [sameB12_not 8 (by omega) h8]
    simp [part12_8, he, h8, Sem.run_bind, Int.natCast_inj, part12_0, h0, part12_1, h1, part12_2, h2, part12_3, h3, part12_4, h4, part12_5, h5, part12_6, h6, part12_7, h7]
  rcases Nat.decEq (f 9) (g 9) with h9 | h9
  · rw [sameB12_not 9 (by omega) h9]
    simp [part12_9, he, h9, Sem.run_bind, Int.natCast_inj, part12_0, h0, part12_1, h1, part12_2, h2, part12_3, h3, part12_4, h4, part12_5, h5, part12_6, h6, part12_7, h7, part12_8, h8]
  rcases Nat.decEq (f 10) (g 10) with h10 | h10
  · rw [sameB12_not 10 (by omega) h10]
    simp [part12_10, he, h10, Sem.run_bind, Int.natCast_inj, part12_0, h0, part12_1, h1, part12_2, h2, part12_3, h3, part12_4, h4, part12_5, h5, part12_6, h6, part12_7, h7, part12_8, h8, part12_9, h9]
  rcases Nat.decEq (f 11) (g 11) with h11 | h11
  · rw [sameB12_not 11 (by omega) h11]
    simp [part12_11, he, h11, Sem.run_bind, Int.natCast_inj, part12_0, h0, part12_1, h1, part12_2, h2, part12_3, h3, part12_4, h4, part12_5, h5, part12_6, h6, part12_7, h7, part12_8, h8, part12_9, h9, part12_10, h10]
  rw [sameB12_true (fun i hi => by
    have h : i = 0 ∨ i = 1 ∨ i = 2 ∨ i = 3 ∨ i = 4 ∨ i = 5 ∨ i = 6 ∨ i = 7 ∨ i = 8 ∨ i = 9 ∨ i = 10 ∨ i = 11 := by omega
    rcases h with rfl | rfl | rfl | rfl | rfl | rfl | rfl | rfl | rfl | rfl | rfl | rfl <;> assumption)]
  simp [part12_0, part12_1, part12_2, part12_3, part12_4, part12_5, part12_6, part12_7, part12_8, part12_9, part12_10, part12_11, he, Sem.run_bind, Int.natCast_inj, h0, h1, h2, h3, h4, h5, h6, h7, h8, h9, h10, h11]
theorem eqin12 (f g : Nat → Nat) (w : World) : (Op.equalIn 10000 39 (.agg (aN 12 f)) (.agg (aN 12 g))).run Try.prog w = .ok (sameB12 f g) w :=
  eqin12_at 9999 (eqin_u8 9998) f g w
theorem eq12 (f g : Nat → Nat) (w : World) : (binOp .eql 39 (.agg (aN 12 f)) (.agg (aN 12 g))).run Try.prog w = .ok (.bool (sameB12 f g)) w := by
  rw [run_eql_struct, eqin12]; rfl
/-- Two arrays, as a region's loads leave them. -/
theorem eqv12 (f g : Nat → Nat) (s : Bool) (h : sameB12 f g = s) (w : World) : (Op.equalIn 10000 39 (.agg (vl 12 f).toArray) (.agg (vl 12 g).toArray)).run Try.prog w = .ok s w := by
  rw [← h]; exact eqin12 f g w
theorem blk12_size : (Try.prog.info? 39).map (·.size) = some 12 := by kernel_rfl
theorem vln12 (f : Nat → Nat) : (Try.prog.info? 39).map (·.size) = some (vl 12 f).length := by rw [vl_len]; exact blk12_size
/-- The head of a row. -/
theorem range_pre12 {w : World} {b : Nat} {f : Nat → Nat} (h : w.rangeAt b 0 (vl 16 f)) : w.rangeAt b 0 (vl 12 f) := fun j v hj => h j v (by
  have hl : j < 12 := by have := (List.getElem?_eq_some_iff.mp hj).1; rwa [vl_len] at this
  rw [← hj]
  simp [vl, hl, show j < 16 by omega])
end Go.Proofs.Ytfgigoheaoanpaa
