/-
  Arrays of four bytes, compared.
-/
import Derived.Test.YtfgigoheaoanpaaGalE
import Derived.Test.YtfgigoheaoanpaaEqU
import Derived.Laws.StructEq
import Derived.Deep.RegionHeld3
namespace Go.Proofs.Ytfgigoheaoanpaa
open Go Go.RowKit
set_option linter.unusedVariables false
set_option linter.unusedSimpArgs false

theorem cells30 : (Try.prog.info? 5).map (·.size) = some 1 := by kernel_rfl
theorem guard4 (x y : Operand) (xs ys : Array Value) (w : World) : (eqGuard .eql 65 x y (.agg xs) (.agg ys)).run Try.prog w = .ok () w := by kernel_rfl
theorem part4 (f : Nat → Nat) (k : Nat) (hk : k < 4) (w : World) : (part 5 (arr4 f) k).run Try.prog w = .ok (.int .u8 (f k : Int)) w := by
  rcases k with _ | _ | _ | _ | k
  · kernel_rfl
  · kernel_rfl
  · kernel_rfl
  · kernel_rfl
  · omega
theorem eqin4_at (e : Nat) (he : ∀ (a b : Int) (w : World), (Op.equalIn e 5 (.int .u8 a) (.int .u8 b)).run Try.prog w = .ok (a == b) w) (f g : Nat → Nat) (w : World) :
    (Op.equalIn (e + 1) 65 (.agg (arr4 f)) (.agg (arr4 g))).run Try.prog w = .ok (decide (f 0 = g 0 ∧ f 1 = g 1 ∧ f 2 = g 2 ∧ f 3 = g 3)) w := by
  have p0 := part4 f 0 (by omega)
  have p1 := part4 f 1 (by omega)
  have p2 := part4 f 2 (by omega)
  have p3 := part4 f 3 (by omega)
  have q0 := part4 g 0 (by omega)
  have q1 := part4 g 1 (by omega)
  have q2 := part4 g 2 (by omega)
  have q3 := part4 g 3 (by omega)
  simp only [Op.equalIn, Sem.run_bind, run_underlying Try.underlying65, Result.andThen_ok, size_u8]
  simp only [Std.Legacy.Range.forIn_eq_forIn_range', Std.Legacy.Range.size, List.range', Nat.mul_one, Nat.sub_zero, Nat.add_sub_cancel, Nat.div_one, List.forIn_cons, List.forIn_nil, Sem.run_bind, Nat.zero_add, Nat.reduceAdd]
  by_cases h0 : f 0 = g 0 <;> by_cases h1 : f 1 = g 1 <;> by_cases h2 : f 2 = g 2 <;> by_cases h3 : f 3 = g 3 <;>
    simp [p0, q0, p1, q1, p2, q2, p3, q3, he, h0, h1, h2, h3, Sem.run_bind, Int.natCast_inj]
theorem eqin4 (f g : Nat → Nat) (w : World) : (Op.equalIn 10000 65 (.agg (arr4 f)) (.agg (arr4 g))).run Try.prog w = .ok (decide (f 0 = g 0 ∧ f 1 = g 1 ∧ f 2 = g 2 ∧ f 3 = g 3)) w :=
  eqin4_at 9999 (eqin_u8 9998) f g w
theorem eq4 (f g : Nat → Nat) (w : World) : (binOp .eql 65 (.agg (arr4 f)) (.agg (arr4 g))).run Try.prog w = .ok (.bool (decide (f 0 = g 0 ∧ f 1 = g 1 ∧ f 2 = g 2 ∧ f 3 = g 3))) w := by
  rw [run_eql_struct, eqin4]; rfl
theorem eq4_same (f : Nat → Nat) (w : World) : (binOp .eql 65 (.agg (arr4 f)) (.agg (arr4 f))).run Try.prog w = .ok (.bool true) w := by
  rw [eq4]; simp
end Go.Proofs.Ytfgigoheaoanpaa
