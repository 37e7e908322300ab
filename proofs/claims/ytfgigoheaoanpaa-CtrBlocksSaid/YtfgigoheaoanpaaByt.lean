/-
  Bytes of blocks: a piece of a block as bytes, a number's bytes. No function of any package.
-/
import Derived.Test.YtfgigoheaoanpaaRow
import Derived.Test.YtfgigoheaoanpaaOctC
namespace Go.Proofs.Ytfgigoheaoanpaa
open Go Go.RowKit
set_option linter.unusedVariables false
set_option linter.unusedSimpArgs false

/-- Bytes o .. o + n of a function, as bytes. -/
def byF (f : Nat → Nat) (o n : Nat) : List UInt8 := (List.range n).map fun i => UInt8.ofNat (f (o + i))
theorem byF_len (f : Nat → Nat) (o n : Nat) : (byF f o n).length = n := by simp [byF]
theorem byF_succ (f : Nat → Nat) (o n : Nat) : byF f o (n + 1) = byF f o n ++ [UInt8.ofNat (f (o + n))] := by simp [byF, List.range_succ]
theorem byF_at (f : Nat → Nat) (o n k : Nat) (hk : k < n) (h : f (o + k) < 256) : (vb (byF f o n))[k]? = some (.int .u8 (f (o + k) : Int)) := by
  simp [vb, byF, hk]
  omega
theorem H16.rd {w : World} {b : Nat} {f : Nat → Nat} (h : H16 w b f) (hf : B16 f) (o n : Nat) (ho : o + n ≤ 16) : Rd w w.heap.size (some ⟨b, o, none⟩) (vb (byF f o n)) := by
  intro h0
  refine ⟨⟨b, o, none⟩, rfl, h.lt, ?_⟩
  intro j u hj
  have hl : j < n := by have := (List.getElem?_eq_some_iff.1 hj).1; simpa [byF_len] using this
  rw [byF_at f o n j hl (hf _ (by omega))] at hj
  have e : (⟨b, o, none⟩ : Addr).add j = ⟨b, o + j, none⟩ := by unfold Addr.add; split <;> simp_all
  rw [e, h.cell (o + j) (by omega), ← hj]

theorem be_map (n m : Nat) : be n m = (List.range m).map fun i => UInt8.ofNat (n / 256 ^ (m - 1 - i)) := by
  induction m with
  | zero => rfl
  | succ m ih =>
    rw [be, ih, List.range_succ_eq_map, List.map_cons, List.map_map]
    congr 1
    apply List.map_congr_left
    intro i hi
    have := List.mem_range.mp hi
    simp only [Function.comp]
    rw [show m + 1 - 1 - (i + 1) = m - 1 - i from by omega]
end Go.Proofs.Ytfgigoheaoanpaa
