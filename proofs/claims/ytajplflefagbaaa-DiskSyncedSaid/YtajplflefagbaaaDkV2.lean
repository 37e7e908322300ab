/-
  Arrays of eight slices of bytes in a law's own memory (layer 8).
-/
import Derived.Test.YtajplflefagbaaaDkSy
namespace Go.Proofs.Ytajplflefagbaaa
open Go Go.RowKit
set_option linter.unusedVariables false
set_option linter.unusedSimpArgs false

/-- An array of eight slices, of which m are blocks of one byte each; none of the device's blocks L, all below Z. -/
structure FAs (w : World) (b9 m : Nat) (L : Nat → Prop) (Z : Nat) (f : Nat → UInt8) (cur : Array Value) (g c : Nat → Nat) : Prop where
  hp : w.heap[b9]? = some (.cells cur 55 (0, 0))
  sz : cur.size = 8
  nb : ¬ L b9 ∧ b9 < Z
  at_ : ∀ i, i < m → cur[i]? = some (.slice (some ⟨g i, 0, none⟩) 256 (c i))
  lt : ∀ i, i < m → ¬ L (g i) ∧ g i < Z ∧ g i ≠ b9
  row : ∀ i, i < m → Row w (g i) (fullB (f i))
def FA (w : World) (b9 m : Nat) (L : Nat → Prop) (Z : Nat) (f : Nat → UInt8) : Prop := ∃ cur g c, FAs w b9 m L Z f cur g c
section
variable {w w' : World} {b9 m Z : Nat} {L : Nat → Prop} {f : Nat → UInt8}
theorem FA.keep {L' : Nat → Prop} {Z' : Nat} (h : FA w b9 m L Z f) (hk : ∀ b, ¬ L b → b < Z → b < w.heap.size → w'.heap[b]? = w.heap[b]?) (hL : ∀ b, L' b → b < w.heap.size → L b) (hZ : Z ≤ Z') : FA w' b9 m L' Z' f := by
  obtain ⟨cur, g, c, h⟩ := h
  have hb9 : b9 < w.heap.size := (Array.getElem?_eq_some_iff.1 h.hp).1
  exact ⟨cur, g, c, (hk b9 h.nb.1 h.nb.2 hb9).trans h.hp, h.sz, ⟨fun hl => h.nb.1 (hL b9 hl hb9), Nat.lt_of_lt_of_le h.nb.2 hZ⟩, h.at_,
    fun i hi => ⟨fun hl => (h.lt i hi).1 (hL _ hl (h.row i hi).lt), Nat.lt_of_lt_of_le (h.lt i hi).2.1 hZ, (h.lt i hi).2.2⟩, fun i hi => (h.row i hi).keep (hk _ (h.lt i hi).1 (h.lt i hi).2.1 (h.row i hi).lt)⟩
theorem FA.call (h : FA w b9 m L Z f) (hb : Below w.heap.size w w') : FA w' b9 m L Z f := h.keep (fun b _ _ hs => hb.block b hs) (fun b hl _ => hl) (Nat.le_refl _)
theorem FA.dev (h : FA w b9 m L Z f) (hk : Keep L w w') : FA w' b9 m (ext L w w') Z f := h.keep (fun b hn _ hs => hk.block b hs hn) (fun b hl hs => hl.elim id fun h => by omega) (Nat.le_refl _)
theorem FA.tight (h : FA w b9 m L Z f) : FA w b9 m L w.heap.size f := by
  obtain ⟨cur, g, c, h⟩ := h
  exact ⟨cur, g, c, h.hp, h.sz, ⟨h.nb.1, (Array.getElem?_eq_some_iff.1 h.hp).1⟩, h.at_, fun i hi => ⟨(h.lt i hi).1, (h.row i hi).lt, (h.lt i hi).2.2⟩, h.row⟩
theorem FA.cellAt (h : FA w b9 m L Z f) (k : Nat) (hk : k < 8) : ∃ v, w.cell? ⟨b9, k, none⟩ = some v ∧ w.frozen? ⟨b9, k, none⟩ = false := by
  obtain ⟨cur, g, c, h⟩ := h
  have : k < cur.size := by rw [h.sz]; exact hk
  exact ⟨cur[k], by rw [cell_of_row _ _ _ _ _ _ h.hp, Array.getElem?_eq_getElem this], frozen_of_row _ _ _ _ _ h.hp⟩
/-- A block more, or another one. -/
theorem FA.put {Z' k q cq : Nat} {x : UInt8} (h : FA w b9 m L Z f) (hk : k < 8) (hm : k ≤ m) (hr : Row w q (fullB x)) (hq : ¬ L q ∧ q < Z' ∧ q ≠ b9) (hZ : Z ≤ Z') :
    FA (w.setCell ⟨b9, k, none⟩ (.slice (some ⟨q, 0, none⟩) 256 cq)) b9 (max m (k + 1)) L Z' (updB f k x) := by
  obtain ⟨cur, g, c, h⟩ := h
  have hks : k < cur.size := by rw [h.sz]; exact hk
  have ho : ∀ b, b ≠ b9 → (w.setCell ⟨b9, k, none⟩ (.slice (some ⟨q, 0, none⟩) 256 cq)).heap[b]? = w.heap[b]? := fun b hb => heap_setCell_other _ _ _ _ hb
  refine ⟨cur.setIfInBounds k (.slice (some ⟨q, 0, none⟩) 256 cq), upd g k q, upd c k cq, heap_setCell_same _ _ _ _ _ _ h.hp, by simp [h.sz], ⟨h.nb.1, Nat.lt_of_lt_of_le h.nb.2 hZ⟩, ?_, ?_, ?_⟩
  · intro i hi
    rw [Array.getElem?_setIfInBounds]
    unfold upd
    by_cases e : k = i
    · subst e; rw [if_pos rfl, if_pos hks, if_pos rfl, if_pos rfl]
    · rw [if_neg e, if_neg (fun h => e h.symm), if_neg (fun h => e h.symm)]; exact h.at_ i (by omega)
  · intro i hi
    unfold upd
    by_cases e : i = k
    · rw [if_pos e]; exact hq
    · rw [if_neg e]; exact ⟨(h.lt i (by omega)).1, Nat.lt_of_lt_of_le (h.lt i (by omega)).2.1 hZ, (h.lt i (by omega)).2.2⟩
  · intro i hi
    unfold upd updB
    by_cases e : i = k
    · rw [if_pos e, if_pos e]; exact hr.keep (ho _ hq.2.2)
    · rw [if_neg e, if_neg e]; exact (h.row i (by omega)).keep (ho _ (h.lt i (by omega)).2.2)
end
/-- An array of eight rows of one's own: since. -/
structure SA (w : World) (b13 : Nat) (L : Nat → Prop) (V : Nat → Value) (l : Nat → List UInt8) : Prop where
  hp : ∃ cur : Array Value, w.heap[b13]? = some (.cells cur 55 (0, 0)) ∧ cur.size = 8 ∧ ∀ i, i < 8 → cur[i]? = some (V i)
  nb : ¬ L b13
  own : ∀ i, i < 8 → w.ownsRow (b13 + 1) 5 1 (V i) (l i).length (vb (l i))
  nl : ∀ i, i < 8 → ∀ b, (V i).ownBlock = some b → ¬ L b
  dis : ∀ i k, i < 8 → k < 8 → ∀ b, (V i).ownBlock = some b → (V k).ownBlock = some b → i = k
section
variable {w w' : World} {b13 : Nat} {L : Nat → Prop} {V : Nat → Value} {l : Nat → List UInt8}
theorem SA.lt (h : SA w b13 L V l) : b13 < w.heap.size := by obtain ⟨cur, h1, _⟩ := h.hp; exact (Array.getElem?_eq_some_iff.1 h1).1
theorem SA.keep {L' : Nat → Prop} (h : SA w b13 L V l) (hk : ∀ b, ¬ L b → b < w.heap.size → w'.heap[b]? = w.heap[b]?) (hL : ∀ b, L' b → b < w.heap.size → L b) : SA w' b13 L' V l := by
  have hlt := h.lt
  obtain ⟨cur, h1, h2, h3⟩ := h.hp
  exact ⟨⟨cur, (hk b13 h.nb hlt).trans h1, h2, h3⟩, fun hl => h.nb (hL _ hl hlt), fun i hi => own_same (h.own i hi) fun b hb => hk b (h.nl i hi b hb) ((h.own i hi).lt b hb).2, fun i hi b hb hl => h.nl i hi b hb (hL _ hl ((h.own i hi).lt b hb).2), h.dis⟩
theorem SA.call (h : SA w b13 L V l) (hb : Below w.heap.size w w') : SA w' b13 L V l := h.keep (fun b _ hs => hb.block b hs) (fun b hl _ => hl)
theorem SA.dev (h : SA w b13 L V l) (hk : Keep L w w') : SA w' b13 (ext L w w') V l := h.keep (fun b hn hs => hk.block b hs hn) (fun b hl hs => hl.elim id fun h => by omega)
theorem SA.cellAt (h : SA w b13 L V l) (k : Nat) (hk : k < 8) : w.cell? ⟨b13, k, none⟩ = some (V k) ∧ w.frozen? ⟨b13, k, none⟩ = false := by
  obtain ⟨cur, h1, h2, h3⟩ := h.hp
  exact ⟨by rw [cell_of_row _ _ _ _ _ _ h1]; exact h3 k hk, frozen_of_row _ _ _ _ _ h1⟩
/-- A byte more in one of them. -/
theorem SA.app {k g2 cap : Nat} {x : UInt8} (h : SA w b13 L V l) (hk : k < 8) (hg : w.grownBy w' (V k).ownBlock) (hw : w'.ownsRow (b13 + 1) 5 1 (.slice (some ⟨g2, 0, none⟩) ((l k).length + 1) cap) ((l k).length + 1) (vb (l k) ++ [.int .u8 (x.toNat : Int)])) (hat : (V k).ownBlock = some g2 ∨ w.heap.size ≤ g2) (hL : ∀ b, L b → b < w.heap.size) :
    SA (w'.setCell ⟨b13, k, none⟩ (.slice (some ⟨g2, 0, none⟩) ((l k).length + 1) cap)) b13 L (fun i => if i = k then .slice (some ⟨g2, 0, none⟩) ((l k).length + 1) cap else V i) (fun i => if i = k then l k ++ [x] else l i) := by
  have hlt := h.lt
  obtain ⟨cur, h1, h2, h3⟩ := h.hp
  have hkb : ∀ b, (V k).ownBlock = some b → b13 + 1 ≤ b := fun b hb => ((h.own k hk).lt b hb).1
  have hb13 : w'.heap[b13]? = some (.cells cur 55 (0, 0)) := (hg.block b13 hlt (fun e => by have := hkb b13 e.symm; omega)).trans h1
  have hg2 : b13 < g2 := by
    rcases hat with ha | ha
    · have := hkb g2 ha; omega
    · omega
  have ho : ∀ b, b ≠ b13 → (w'.setCell ⟨b13, k, none⟩ (.slice (some ⟨g2, 0, none⟩) ((l k).length + 1) cap)).heap[b]? = w'.heap[b]? := fun b hb => heap_setCell_other _ _ _ _ hb
  have other : ∀ i, i < 8 → i ≠ k → ∀ b, (V i).ownBlock = some b → b ≠ g2 ∧ some b ≠ (V k).ownBlock := fun i hi hik b hb => by
    refine ⟨fun e => ?_, fun e => hik (h.dis i k hi hk b hb e.symm)⟩
    rcases hat with ha | ha
    · exact hik (h.dis i k hi hk b hb (by rw [e]; exact ha))
    · have := ((h.own i hi).lt b hb).2; omega
  refine ⟨⟨cur.setIfInBounds k (.slice (some ⟨g2, 0, none⟩) ((l k).length + 1) cap), heap_setCell_same _ _ _ _ _ _ hb13, by simp [h2], fun i hi => ?_⟩, h.nb, fun i hi => ?_, fun i hi b hb => ?_, fun i j hi hj b hbi hbj => ?_⟩
  · rw [Array.getElem?_setIfInBounds]
    by_cases e : k = i
    · subst e; rw [if_pos rfl, if_pos (by rw [h2]; exact hk), if_pos rfl]
    · rw [if_neg e, if_neg (fun h => e h.symm)]; exact h3 i hi
  · by_cases e : i = k
    · subst e
      show World.ownsRow _ _ _ _ (if i = i then _ else _) (if i = i then _ else _ : List UInt8).length (vb (if i = i then _ else _))
      rw [if_pos rfl, if_pos rfl, List.length_append, List.length_singleton]
      have e2 : vb (l i ++ [x]) = vb (l i) ++ [.int .u8 (x.toNat : Int)] := by simp [vb]
      rw [e2]
      exact own_same hw fun b hb => ho b (fun e => by have : g2 = b := by simpa [Value.ownBlock] using hb
                                                      omega)
    · show World.ownsRow _ _ _ _ (if i = k then _ else _) (if i = k then _ else _ : List UInt8).length (vb (if i = k then _ else _))
      rw [if_neg e, if_neg e]
      refine own_same (h.own i hi) fun b hb => (ho b ?_).trans (hg.block b ((h.own i hi).lt b hb).2 (other i hi e b hb).2)
      have := ((h.own i hi).lt b hb).1
      omega
  · have hb : (if i = k then (Value.slice (some ⟨g2, 0, none⟩) ((l k).length + 1) cap) else V i).ownBlock = some b := hb
    by_cases e : i = k
    · rw [if_pos e] at hb
      have hb2 : g2 = b := by simpa [Value.ownBlock] using hb
      subst hb2
      rcases hat with ha | ha
      · exact h.nl k hk g2 ha
      · exact fun hl => by have := hL g2 hl; omega
    · rw [if_neg e] at hb
      exact h.nl i hi b hb
  · have hbi : (if i = k then (Value.slice (some ⟨g2, 0, none⟩) ((l k).length + 1) cap) else V i).ownBlock = some b := hbi
    have hbj : (if j = k then (Value.slice (some ⟨g2, 0, none⟩) ((l k).length + 1) cap) else V j).ownBlock = some b := hbj
    by_cases e1 : i = k
    · by_cases e2 : j = k
      · omega
      · rw [if_pos e1] at hbi
        rw [if_neg e2] at hbj
        have hb2 : g2 = b := by simpa [Value.ownBlock] using hbi
        exact absurd hb2.symm (other j hj e2 b hbj).1
    · by_cases e2 : j = k
      · rw [if_pos e2] at hbj
        rw [if_neg e1] at hbi
        have hb2 : g2 = b := by simpa [Value.ownBlock] using hbj
        exact absurd hb2.symm (other i hi e1 b hbi).1
      · rw [if_neg e1] at hbi
        rw [if_neg e2] at hbj
        exact h.dis i j hi hj b hbi hbj
end
end Go.Proofs.Ytajplflefagbaaa
