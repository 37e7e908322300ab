/-
  Rows of bytes in memory: sixteen bytes as a function, arrays by value, a block that holds one. No function of any package.
-/
import Derived.Test.YtbepibkbghmkkaaProg
import Derived.Test.YtbepibkbghmkkaaBase
import Derived.Laws.CopyOwn
import Derived.Deep.MidRow
namespace Go.Proofs.Ytbepibkbghmkkaa
open Go Go.RowKit
set_option linter.unusedVariables false
set_option linter.unusedSimpArgs false

/-- The same sixteen bytes. -/
def E16 (f g : Nat → Nat) : Prop := ∀ i, i < 16 → f i = g i
def B16 (f : Nat → Nat) : Prop := ∀ i, i < 16 → f i < 256
theorem E16.refl (f : Nat → Nat) : E16 f f := fun _ _ => rfl
theorem E16.symm {f g : Nat → Nat} (h : E16 f g) : E16 g f := fun i hi => (h i hi).symm
theorem E16.trans {f g h : Nat → Nat} (a : E16 f g) (b : E16 g h) : E16 f h := fun i hi => (a i hi).trans (b i hi)
theorem B16.of {f g : Nat → Nat} (h : B16 f) (e : E16 f g) : B16 g := fun i hi => by rw [← e i hi]; exact h i hi

/-- n bytes of an array. -/
def aN (n : Nat) (f : Nat → Nat) : Array Value := ((List.range n).map fun i => Value.int .u8 (f i : Int)).toArray
theorem aN_size (n : Nat) (f : Nat → Nat) : (aN n f).size = n := by simp [aN]
theorem aN_get (n : Nat) (f : Nat → Nat) (k : Nat) (hk : k < n) : (aN n f)[k]? = some (.int .u8 (f k : Int)) := by
  simp [aN, hk]
theorem aN_congr {n : Nat} {f g : Nat → Nat} (h : ∀ i, i < n → f i = g i) : aN n f = aN n g := by
  unfold aN
  congr 1
  apply List.map_congr_left
  intro i hi
  rw [h i (List.mem_range.mp hi)]
theorem aN_set (n : Nat) (f g : Nat → Nat) (k v : Nat) (hk : k < n) (hv : g k = v) (ho : ∀ j, j < n → j ≠ k → g j = f j) : (aN n f).setIfInBounds k (.int .u8 (v : Int)) = aN n g := by
  subst hv
  apply Array.ext_getElem?
  intro i
  rw [Array.getElem?_setIfInBounds, aN_size]
  by_cases h : k = i
  · subst h
    rw [if_pos rfl, if_pos hk, aN_get n g k hk]
  · rw [if_neg h]
    by_cases hi : i < n
    · rw [aN_get n f i hi, aN_get n g i hi, ho i hi (fun e => h e.symm)]
    · rw [Array.getElem?_eq_none (by rw [aN_size]; omega), Array.getElem?_eq_none (by rw [aN_size]; omega)]
theorem aN_one (n : Nat) (f : Nat → Nat) : (aN n f).all (·.oneCell') = true := by
  simp [aN, Value.oneCell']

/-- Bytes as values. -/
def vn (l : List Nat) : List Value := l.map fun (n : Nat) => Value.int .u8 (n : Int)
theorem vn_len (l : List Nat) : (vn l).length = l.length := by simp [vn]
theorem Rd.num {w : World} {B : Nat} {A : Option Addr} {l : List Nat} (h : Rd w B A (vn l)) {k : Nat} (hk : k < l.length) :
    ∃ ad, A = some ad ∧ ad.block < B ∧ w.cell? (ad.add k) = some (.int .u8 (l.getD k 0 : Int)) := by
  obtain ⟨ad, rfl, hb, hc⟩ := h.at_ (k := k) (by rw [vn_len]; exact hk)
  refine ⟨ad, rfl, hb, hc.trans ?_⟩
  simp [vn, List.getD, hk]

section
variable {w w' : World} {b g : Nat} {f z : Nat → Nat}
end
theorem zero16 : (#[.int .u8 0, .int .u8 0, .int .u8 0, .int .u8 0, .int .u8 0, .int .u8 0, .int .u8 0, .int .u8 0, .int .u8 0, .int .u8 0, .int .u8 0, .int .u8 0, .int .u8 0, .int .u8 0, .int .u8 0, .int .u8 0] : Array Value) = aN 16 fun _ => 0 := rfl

/-- n bytes as a list of values. -/
def vl (n : Nat) (f : Nat → Nat) : List Value := (List.range n).map fun i => Value.int .u8 (f i : Int)
theorem aN_vl (n : Nat) (f : Nat → Nat) : aN n f = (vl n f).toArray := rfl
theorem vl_len (n : Nat) (f : Nat → Nat) : (vl n f).length = n := by simp [vl]
theorem vl_get (n : Nat) (f : Nat → Nat) (k : Nat) (hk : k < n) : (vl n f)[k]? = some (.int .u8 (f k : Int)) := by simp [vl, hk]
theorem vl_one (n : Nat) (f : Nat → Nat) : ∀ v ∈ vl n f, v.oneCell' = true := by
  intro v hv
  simp only [vl, List.mem_map] at hv
  obtain ⟨b, _, rfl⟩ := hv
  rfl
theorem vl_congr {n : Nat} {f g : Nat → Nat} (h : ∀ i, i < n → f i = g i) : vl n f = vl n g := by
  unfold vl
  apply List.map_congr_left
  intro i hi
  rw [h i (List.mem_range.mp hi)]
theorem cell_kept {W w1 : World} {p : Addr} {v : Value} (hb : Below W.heap.size W w1) (h : W.cell? p = some v) : w1.cell? p = some v := (hb.cell (block_lt_of_cell h)).trans h
theorem range_kept {W w1 : World} {b o : Nat} {cs : List Value} (hb : Below W.heap.size W w1) (h : W.rangeAt b o cs) : w1.rangeAt b o cs := fun j v hj => cell_kept hb (h j v hj)
/-- The first k bytes added. -/
def addK (f g : Nat → Nat) (k i : Nat) : Nat := if i < k then f i ^^^ g i else f i
theorem addK_full (f g : Nat → Nat) : E16 (addK f g 16) (fun i => f i ^^^ g i) := fun i hi => by simp [addK, hi]
/-- Bytes added bit by bit. -/
theorem xor_u8 (a b : Nat) (ha : a < 256) (hb : b < 256) : bits .xor .u8 (a : Int) (b : Int) = ((a ^^^ b : Nat) : Int) := by
  have h : bits .xor .u8 (a : Int) (b : Int) = IntKind.u8.wrap (((BitVec.ofInt 8 (a : Int) ^^^ BitVec.ofInt 8 (b : Int)).toNat : Nat) : Int) := rfl
  rw [h, BitVec.toNat_xor, bv_nat 8 a ha, bv_nat 8 b hb]
  exact IntWalk.u8_in _ (by have : a ^^^ b < 2 ^ 8 := Nat.xor_lt_two_pow ha hb; omega)
theorem below_row {B : Nat} {w w' : World} (h : Below B w w') (g : Nat) (hg : B ≤ g) (cs : Array Value) : Below B w (w'.setRow g cs) := Go.below_setRow h hg cs
end Go.Proofs.Ytbepibkbghmkkaa
