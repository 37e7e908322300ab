/-
  A row of noughts, as make lays it.
-/
import Derived.Test.YtfgigoheaoanpaaRefA
import Derived.Test.YtfgigoheaoanpaaRow
import Derived.Laws.MakeOwn
namespace Go.Proofs.Ytfgigoheaoanpaa
open Go Go.RowKit
set_option linter.unusedVariables false
set_option linter.unusedSimpArgs false

/-- A row of noughts, as make lays it. -/
def zrow (n : Nat) : Array Value := (List.replicate n (.int .u8 0)).toArray
theorem zrow_make (n : Nat) (hn : n ≤ 100000) (w : World) : (Instr.makeSlice 22 (.int .i64 (n : Int)) (.int .i64 (n : Int))).run Try.prog w = .ok (.slice (some ⟨w.heap.size, 0, none⟩) n n) (w.alloc (.cells (zrow n) 5)) := by
  obtain ⟨i, hi, hz0, hz1, hz2⟩ := info_parts info_b
  have := run_make (P := Try.prog) w 22 5 i _ Try.underlying22 hi hz0 .i64 .i64 (n : Int) (n : Int) (by omega) (by omega) (by rw [hz2]; omega) (by omega)
  rw [this]
  simp only [Int.toNat_natCast, hz1, Nat.mul_one]
  have e : madeCells (Value.int .u8 0).cells n = zrow n := by
    have := toList_madeCells_one (.int .u8 0) n
    unfold zrow
    rw [← this]
    simp [Value.cells]
  rw [e]
theorem zrow_rd (n : Nat) (w : World) : Rd (w.alloc (.cells (zrow n) 5)) (w.alloc (.cells (zrow n) 5)).heap.size (some ⟨w.heap.size, 0, none⟩) (vn (List.replicate n 0)) := fun _ => ⟨_, rfl, by simp, fun j u hj => by
  rw [head_add, cell_of_row _ _ _ _ _ _ (heap_alloc_new w _)]
  unfold zrow
  rw [List.getElem?_toArray]
  simpa [vn] using hj⟩
end Go.Proofs.Ytfgigoheaoanpaa
