/-
  The document's product of elements (layer 4).
-/
import Derived.Test.YtojdhcbfjiojdaaGhA
import Derived.Deep.RegionHeld3
namespace Go.Proofs.Ytojdhcbfjiojdaa
open Go Go.RowKit
set_option linter.unusedVariables false
set_option linter.unusedSimpArgs false

/-- n whole numbers of an array. -/
def aI (n : Nat) (c : Nat → Nat) : Array Value := ((List.range n).map fun i => Value.int .i64 (c i : Int)).toArray
theorem aI_size (n : Nat) (c : Nat → Nat) : (aI n c).size = n := by simp [aI]
theorem aI_get (n : Nat) (c : Nat → Nat) (k : Nat) (hk : k < n) : (aI n c)[k]? = some (.int .i64 (c k : Int)) := by simp [aI, hk]
theorem aI_congr {n : Nat} {c d : Nat → Nat} (h : ∀ i, i < n → c i = d i) : aI n c = aI n d := by
  unfold aI
  congr 1
  apply List.map_congr_left
  intro i hi
  rw [h i (List.mem_range.mp hi)]
theorem aI_set (n : Nat) (c d : Nat → Nat) (k v : Nat) (hk : k < n) (hv : d k = v) (ho : ∀ j, j < n → j ≠ k → d j = c j) : (aI n c).setIfInBounds k (.int .i64 (v : Int)) = aI n d := by
  subst hv
  apply Array.ext_getElem?
  intro i
  rw [Array.getElem?_setIfInBounds, aI_size]
  by_cases h : k = i
  · subst h
    rw [if_pos rfl, if_pos hk, aI_get n d k hk]
  · rw [if_neg h]
    by_cases hi : i < n
    · rw [aI_get n c i hi, aI_get n d i hi, ho i hi (fun e => h e.symm)]
    · rw [Array.getElem?_eq_none (by rw [aI_size]; omega), Array.getElem?_eq_none (by rw [aI_size]; omega)]
/-- Block b holds 255 whole numbers. -/
def HI (w : World) (b : Nat) (c : Nat → Nat) : Prop := w.heap[b]? = some (.cells (aI 255 c) 40 (0, 0))
section
variable {w w' : World} {b : Nat} {c z : Nat → Nat}
theorem HI.lt (h : HI w b c) : b < w.heap.size := (Array.getElem?_eq_some_iff.1 h).1
theorem HI.cell (h : HI w b c) (k : Nat) (hk : k < 255) : w.cell? ⟨b, k, none⟩ = some (.int .i64 (c k : Int)) := by
  rw [cell_of_row _ _ _ _ _ _ h]; exact aI_get 255 c k hk
theorem HI.free (h : HI w b c) (k : Nat) : w.frozen? ⟨b, k, none⟩ = false := frozen_of_row _ _ _ _ _ h
theorem HI.below {B : Nat} (hb : Below B w w') (h : HI w b c) (hB : b < B) : HI w' b c := (hb.block b hB).trans h
theorem HI.call (hb : Below w.heap.size w w') (h : HI w b c) : HI w' b c := h.below hb h.lt
theorem HI.alloc (o : Obj) (h : HI w b c) : HI (w.alloc o) b c := (heap_alloc_old w o h.lt).trans h
theorem HI.newAt (h : b = w.heap.size) : HI (w.alloc (.cells (aI 255 c) 40)) b c := h ▸ heap_alloc_new w _
theorem HI.other (h : HI w b c) (a : Addr) (hg : b ≠ a.block) (v : Value) : HI (w.setCell a v) b c := (heap_setCell_other _ _ _ _ hg).trans h
theorem HI.set (h : HI w b c) (k v : Nat) (hk : k < 255) (hv : z k = v) (ho : ∀ j, j < 255 → j ≠ k → z j = c j) : HI (w.setCell ⟨b, k, none⟩ (.int .i64 (v : Int))) b z := by
  unfold HI
  rw [heap_setCell_same _ _ _ _ _ _ h, aI_set 255 c z k v hk hv ho]
theorem HI.congr (h : HI w b c) (e : ∀ i, i < 255 → c i = z i) : HI w b z := by
  unfold HI at *
  rw [h, aI_congr e]
end
theorem xor_bn (a b : Bool) : bits .xor .i64 (bn a : Int) (bn b : Int) = ((bn (a ^^ b) : Nat) : Int) := by cases a <;> cases b <;> decide
theorem zero255 (w : World) : (zeroValue 40).run Try.prog w = .ok (.agg (aI 255 fun _ => 0)) w := by kernel_rfl
end Go.Proofs.Ytojdhcbfjiojdaa
