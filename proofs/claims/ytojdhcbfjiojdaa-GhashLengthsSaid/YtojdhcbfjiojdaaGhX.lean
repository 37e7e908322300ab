/-
  Sums of texts, and what their differences come to: plain, for the laws of layer 4.
-/
import Derived.Test.YtojdhcbfjiojdaaGhL
import Derived.StillTailTactics
import Derived.WalkLawsBesides
namespace Go.Proofs.Ytojdhcbfjiojdaa
open Go Go.RowKit
set_option linter.unusedVariables false
set_option linter.unusedSimpArgs false

def xorL (a b : List UInt8) : List UInt8 := List.zipWith (· ^^^ ·) a b
theorem xorL_snoc (a b : List UInt8) (n k : Nat) (ha : a.length = n) (hb : b.length = n) (h : k < n) :
    xorL (a.take (k + 1)) (b.take (k + 1)) = xorL (a.take k) (b.take k) ++ [a[k]'(by omega) ^^^ b[k]'(by omega)] := by
  unfold xorL
  rw [take_snoc a k (by omega), take_snoc b k (by omega), List.zipWith_append (by simp; omega)]
  rfl
theorem xorL_len (a b : List UInt8) (n : Nat) (ha : a.length = n) (hb : b.length = n) : (xorL a b).length = n := by simp [xorL, ha, hb]
/-- A text's numbers. -/
abbrev nm (l : List UInt8) : List Nat := l.map UInt8.toNat
theorem gblk_xorL (a b : List UInt8) (h : a.length = b.length) (j k : Nat) : gblk (nm (xorL a b)) j k = gblk (nm a) j k ^^^ gblk (nm b) j k := by
  unfold gblk
  rw [List.getD_eq_getElem?_getD, List.getD_eq_getElem?_getD, List.getD_eq_getElem?_getD, List.getElem?_map, List.getElem?_map, List.getElem?_map]
  by_cases hi : 16 * j + k < a.length
  · have hj : 16 * j + k < b.length := by omega
    simp [xorL, List.getElem?_zipWith, List.getElem?_eq_getElem hi, List.getElem?_eq_getElem hj, UInt8.toNat_xor]
  · have e : (xorL a b).length = a.length := xorL_len a b a.length rfl h.symm
    rw [List.getElem?_eq_none (l := a) (by omega), List.getElem?_eq_none (l := b) (by omega), List.getElem?_eq_none (l := xorL a b) (by omega)]
    rfl
theorem gS_nil (K : Nat) (t : List Nat) : gS K [] t = hm (gsum K t ((t.length + 15) / 16) ^^^ gLen 0 t.length) K := by
  rw [gS, show (([] : List Nat).length + 15) / 16 = 0 from rfl, gfrom_zero, gfrom_gsum]
  rfl
theorem xl (u v L : Nat) : (u ^^^ L) ^^^ (v ^^^ L) = u ^^^ v := by rw [xor4, Nat.xor_self, Nat.xor_zero]
theorem gblk_zero (n j k : Nat) : gblk (List.replicate n 0) j k = 0 := by
  unfold gblk
  rw [List.getD_eq_getElem?_getD]
  cases hx : (List.replicate n 0)[16 * j + k]? with
  | none => rfl
  | some x =>
    have := List.mem_of_getElem? hx
    rw [List.mem_replicate] at this
    rw [this.2]; rfl
theorem adds_eq (K : Nat) (a b : List UInt8) (n : Nat) (ha : a.length = n) (hb : b.length = n) : gS K [] (nm a) ^^^ gS K [] (nm b) = gS K [] (nm (xorL a b)) ^^^ gS K [] (List.replicate n 0) := by
  have e1 : (nm a).length = n := by simp [ha]
  have e2 : (nm b).length = n := by simp [hb]
  have e3 : (nm (xorL a b)).length = n := by simp [xorL_len a b n ha hb]
  have e4 : (List.replicate n (0 : Nat)).length = n := List.length_replicate
  rw [gS_nil, gS_nil, gS_nil, gS_nil, e1, e2, e3, e4, gsum_nought K (List.replicate n 0) _ (fun j k _ _ => gblk_zero n j k),
    gsum_add K (nm a) (nm b) (nm (xorL a b)) _ (vb_lt a) (vb_lt b) (fun j k _ _ => gblk_xorL a b (by omega) j k)]
  rw [← hm_add_l, ← hm_add_l, xl, xl, Nat.xor_zero]
theorem hby_xor (a b i : Nat) : hby (a ^^^ b) i = hby a i ^^^ hby b i := by
  unfold hby
  rw [show (256 : Nat) = 2 ^ 8 from rfl, ← Nat.pow_mul, ← Nat.shiftRight_eq_div_pow, ← Nat.shiftRight_eq_div_pow, ← Nat.shiftRight_eq_div_pow, Nat.shiftRight_xor_distrib, Nat.xor_mod_two_pow]
/-- A row of noughts, as make lays it. -/
def zrow (n : Nat) : Array Value := (List.replicate n (.int .u8 0)).toArray
theorem zrow_make (n : Nat) (hn : n ≤ 100000) (w : World) : (Instr.makeSlice 26 (.int .i64 (n : Int)) (.int .i64 (n : Int))).run Try.prog w = .ok (.slice (some ⟨w.heap.size, 0, none⟩) n n) (w.alloc (.cells (zrow n) 5)) := by
  obtain ⟨i, hi, hz0, hz1, hz2⟩ := info_parts info_b
  have := run_make (P := Try.prog) w 26 5 i _ Try.underlying26 hi hz0 .i64 .i64 (n : Int) (n : Int) (by omega) (by omega) (by rw [hz2]; omega) (by omega)
  rw [this]
  simp only [Int.toNat_natCast, hz1, Nat.mul_one]
  have e : madeCells (Value.int .u8 0).cells n = zrow n := by
    have := toList_madeCells_one (.int .u8 0) n
    unfold zrow
    rw [← this]
    simp [Value.cells]
  rw [e]
theorem zrow_rd (n : Nat) (w : World) : Rd (w.alloc (.cells (zrow n) 5)) (w.alloc (.cells (zrow n) 5)).heap.size (some ⟨w.heap.size, 0, none⟩) (vn (List.replicate n 0)) := fun _ => ⟨_, rfl, by simp, fun j u hj => by
  rw [head_add, cell_of_row _ _ _ _ _ _ (heap_alloc_new w _)]
  unfold zrow
  rw [List.getElem?_toArray]
  simpa [vn] using hj⟩
end Go.Proofs.Ytojdhcbfjiojdaa
