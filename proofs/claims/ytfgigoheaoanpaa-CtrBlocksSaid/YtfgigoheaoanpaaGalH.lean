/-
  Blocks of four bytes that a function makes, in a world that goes on.
-/
import Derived.Test.YtfgigoheaoanpaaGalF
import Derived.Deep.DeepCutAuto
namespace Go.Proofs.Ytfgigoheaoanpaa
open Go Go.RowKit
set_option linter.unusedVariables false
set_option linter.unusedSimpArgs false

/-- Block b holds four bytes. -/
def Has (w : World) (b : Nat) (f : Nat → Nat) : Prop := w.heap[b]? = some (.cells (arr4 f) 65 (0, 0))

section
variable {w w' : World} {b g : Nat} {f z : Nat → Nat}
theorem Has.lt (h : Has w b f) : b < w.heap.size := by
  unfold Has at h
  exact (Array.getElem?_eq_some_iff.1 h).1
theorem Has.cell (h : Has w b f) (k : Nat) (hk : k < 4) : w.cell? ⟨b, k, none⟩ = some (.int .u8 (f k : Int)) := by
  rw [cell_of_row _ _ _ _ _ _ h]; exact get4 f k hk
theorem Has.below {B : Nat} (hb : Below B w w') (h : Has w b f) (hB : b < B) : Has w' b f := (hb.block b hB).trans h
theorem Has.call (hb : Below w.heap.size w w') (h : Has w b f) : Has w' b f := h.below hb h.lt
theorem Has.alloc (o : Obj) (h : Has w b f) : Has (w.alloc o) b f := (heap_alloc_old w o h.lt).trans h
theorem Has.new : Has (w.alloc (.cells (arr4 f) 65)) w.heap.size f := heap_alloc_new w _
theorem Has.zeroAt (h : b = w.heap.size) : Has (w.alloc (.cells #[.int .u8 0, .int .u8 0, .int .u8 0, .int .u8 0] 65)) b (fun _ => 0) := h ▸ heap_alloc_new w _
theorem Has.zero : Has (w.alloc (.cells #[.int .u8 0, .int .u8 0, .int .u8 0, .int .u8 0] 65)) w.heap.size (fun _ => 0) := heap_alloc_new w _
theorem Has.newAt (h : b = w.heap.size) : Has (w.alloc (.cells (arr4 f) 65)) b f := h ▸ heap_alloc_new w _
theorem Has.drew (h : Has w b f) : Has w.drew b f := h
theorem Has.other (h : Has w b f) (hg : b ≠ g) (v0 v1 v2 v3 : Value) : Has ((((w.setCell ⟨g, 0, none⟩ v0).setCell ⟨g, 1, none⟩ v1).setCell ⟨g, 2, none⟩ v2).setCell ⟨g, 3, none⟩ v3) b f := by
  unfold Has
  rw [heap_setCell_other _ _ _ _ hg, heap_setCell_other _ _ _ _ hg, heap_setCell_other _ _ _ _ hg, heap_setCell_other _ _ _ _ hg]
  exact h
theorem Has.store (h : Has w b z) : Has ((((w.setCell ⟨b, 0, none⟩ (.int .u8 (f 0 : Int))).setCell ⟨b, 1, none⟩ (.int .u8 (f 1 : Int))).setCell ⟨b, 2, none⟩ (.int .u8 (f 2 : Int))).setCell ⟨b, 3, none⟩ (.int .u8 (f 3 : Int))) b f :=
  heap_setCell_same _ _ _ _ _ _ (heap_setCell_same _ _ _ _ _ _ (heap_setCell_same _ _ _ _ _ _ (heap_setCell_same _ _ _ _ _ _ h)))
theorem below4 {B : Nat} (h : Below B w w') (hg : B ≤ g) (v0 v1 v2 v3 : Value) : Below B w ((((w'.setCell ⟨g, 0, none⟩ v0).setCell ⟨g, 1, none⟩ v1).setCell ⟨g, 2, none⟩ v2).setCell ⟨g, 3, none⟩ v3) :=
  (((h.setCell (by exact hg) _).setCell (by exact hg) _).setCell (by exact hg) _).setCell (by exact hg) _
end
/-- What held four bytes holds them. -/
def Goes (w w' : World) : Prop := ∀ b f, Has w b f → Has w' b f
theorem Goes.of {w w' : World} (hb : Below w.heap.size w w') : Goes w w' := fun _ _ h => h.call hb
theorem Goes.to {w w' : World} {b : Nat} {f : Nat → Nat} (h : Goes w w') (hh : Has w b f) : Has w' b f := h b f hh
theorem bcell {W w1 : World} (hb : Below W.heap.size W w1) : (∀ b o, b < W.heap.size → w1.cell? ⟨b, o, none⟩ = W.cell? ⟨b, o, none⟩) ∧ (∀ b o, b < W.heap.size → w1.frozen? ⟨b, o, none⟩ = W.frozen? ⟨b, o, none⟩) :=
  ⟨fun b o h => hb.cell (p := ⟨b, o, none⟩) h, fun b o h => hb.frozen (p := ⟨b, o, none⟩) h⟩

theorem bsize {W w1 : World} (hb : Below W.heap.size W w1) : ∀ b, b < W.heap.size → b < w1.heap.size := by
  have := hb.size
  exact fun b h => by omega
theorem bnew {W w0 w1 : World} (h0 : Below w0.heap.size w0 W) (hb : Below W.heap.size W w1) (hp : 0 < w0.heap.size) : ¬ w1.heap.size = W.heap.size - 1 ∧ ¬ W.heap.size - 1 = w1.heap.size := by
  have := hb.size
  have := h0.size
  omega
/-- What a region that reads two blocks is held to. -/
theorem held8 {w0 w' : World} {b d : Nat} {f g : Nat → Nat} (hb : Hid (Has w0 b f)) (hd : Hid (Has w0 d g)) (h : Below w0.heap.size w0 w') :
    w'.cell? ⟨b, 0, none⟩ = some (.int .u8 (f 0 : Int)) ∧ w'.cell? ⟨b, 1, none⟩ = some (.int .u8 (f 1 : Int)) ∧ w'.cell? ⟨b, 2, none⟩ = some (.int .u8 (f 2 : Int)) ∧ w'.cell? ⟨b, 3, none⟩ = some (.int .u8 (f 3 : Int)) ∧
    w'.cell? ⟨d, 0, none⟩ = some (.int .u8 (g 0 : Int)) ∧ w'.cell? ⟨d, 1, none⟩ = some (.int .u8 (g 1 : Int)) ∧ w'.cell? ⟨d, 2, none⟩ = some (.int .u8 (g 2 : Int)) ∧ w'.cell? ⟨d, 3, none⟩ = some (.int .u8 (g 3 : Int)) ∧ Below w0.heap.size w0 w' := by
  have h1 := hb.out.below h hb.out.lt
  have h2 := hd.out.below h hd.out.lt
  exact ⟨h1.cell 0 (by omega), h1.cell 1 (by omega), h1.cell 2 (by omega), h1.cell 3 (by omega), h2.cell 0 (by omega), h2.cell 1 (by omega), h2.cell 2 (by omega), h2.cell 3 (by omega), h⟩
theorem held12 {w0 w' : World} {b d e : Nat} {f g h : Nat → Nat} (hb : Hid (Has w0 b f)) (hd : Hid (Has w0 d g)) (he : Hid (Has w0 e h)) (hw : Below w0.heap.size w0 w') :
    w'.cell? ⟨b, 0, none⟩ = some (.int .u8 (f 0 : Int)) ∧ w'.cell? ⟨b, 1, none⟩ = some (.int .u8 (f 1 : Int)) ∧ w'.cell? ⟨b, 2, none⟩ = some (.int .u8 (f 2 : Int)) ∧ w'.cell? ⟨b, 3, none⟩ = some (.int .u8 (f 3 : Int)) ∧
    w'.cell? ⟨d, 0, none⟩ = some (.int .u8 (g 0 : Int)) ∧ w'.cell? ⟨d, 1, none⟩ = some (.int .u8 (g 1 : Int)) ∧ w'.cell? ⟨d, 2, none⟩ = some (.int .u8 (g 2 : Int)) ∧ w'.cell? ⟨d, 3, none⟩ = some (.int .u8 (g 3 : Int)) ∧
    w'.cell? ⟨e, 0, none⟩ = some (.int .u8 (h 0 : Int)) ∧ w'.cell? ⟨e, 1, none⟩ = some (.int .u8 (h 1 : Int)) ∧ w'.cell? ⟨e, 2, none⟩ = some (.int .u8 (h 2 : Int)) ∧ w'.cell? ⟨e, 3, none⟩ = some (.int .u8 (h 3 : Int)) ∧ Below w0.heap.size w0 w' := by
  have h1 := hb.out.below hw hb.out.lt
  have h2 := hd.out.below hw hd.out.lt
  have h3 := he.out.below hw he.out.lt
  exact ⟨h1.cell 0 (by omega), h1.cell 1 (by omega), h1.cell 2 (by omega), h1.cell 3 (by omega), h2.cell 0 (by omega), h2.cell 1 (by omega), h2.cell 2 (by omega), h2.cell 3 (by omega), h3.cell 0 (by omega), h3.cell 1 (by omega), h3.cell 2 (by omega), h3.cell 3 (by omega), hw⟩
end Go.Proofs.Ytfgigoheaoanpaa
