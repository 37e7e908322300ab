/-
  octet: Put, and the document's Of and Put.
-/
import Derived.Test.YtfgigoheaoanpaaProg
import Derived.Test.YtfgigoheaoanpaaBase
namespace Go.Proofs.Ytfgigoheaoanpaa
open Go Go.RowKit
set_option linter.unusedVariables false
set_option linter.unusedSimpArgs false

theorem info_u8 : (Try.prog.info? 5).map (fun i => (i.zero, i.size, i.bytes)) = some (some (.int .u8 0), 1, 1) := by kernel_rfl
/-- The last m bytes of a number. -/
def be (n : Nat) : Nat → List UInt8
  | 0 => []
  | m + 1 => UInt8.ofNat (n / 256 ^ m) :: be n m
theorem be_len (n m : Nat) : (be n m).length = m := by induction m with | zero => rfl | succ m ih => simp [be, ih]
def bePart (n size m : Nat) : List UInt8 := List.replicate (size - m) 0 ++ be n m
theorem bePart_len (n size m : Nat) (h : m ≤ size) : (bePart n size m).length = size := by simp [bePart, be_len]; omega
theorem bePart_set (n size m : Nat) (h : m < size) : (vb (bePart n size m)).set (size - 1 - m) (.int .u8 ((UInt8.ofNat (n / 256 ^ m)).toNat : Int)) = vb (bePart n size (m + 1)) := by
  obtain ⟨k, rfl⟩ : ∃ k, size = m + 1 + k := ⟨size - (m + 1), by omega⟩
  simp only [bePart, vb, be]
  rw [show m + 1 + k - m = k + 1 from by omega, show m + 1 + k - 1 - m = k from by omega, show m + 1 + k - (m + 1) = k from by omega, List.replicate_succ']
  rw [← List.map_set]
  simp

theorem be_byte (n m : Nat) : (n : Int) / 256 ^ m % 256 = ((UInt8.ofNat (n / 256 ^ m)).toNat : Int) := by
  have : (n : Int) / 256 ^ m % 256 = ((n / 256 ^ m % 256 : Nat) : Int) := by simp
  rw [this]; simp

set_option maxHeartbeats 400000 in
set_option maxRecDepth 100000 in
theorem put_any (n size : Nat) (w : World) (h64 : n < 18446744073709551616) (hn : n < 256 ^ size) (h1 : 1 ≤ size) (h8 : size ≤ 8) :
    Calls Try.prog 18 #[.int .u64 n, .int .i64 size] w fun e w' => ∃ v, e = .returned (.tuple #[v, .int .i64 0]) ∧ w'.ownsRow w.heap.size 5 1 v size (vb (be n size)) ∧ Below w.heap.size w w' := by
  obtain ⟨i0, hi, hz0, hz1, hz2⟩ := info_parts info_u8
  have hx : (((n : Int)) / 2 ^ (8 * size) != 0) = false := by
    rw [bne_eq_false_iff_eq]
    have : n / 2 ^ (8 * size) = 0 := Nat.div_eq_of_lt (by rw [Nat.pow_mul]; exact hn)
    exact_mod_cast this
  clear hn
  have HX := hx
  go_enter Try.func18, Try.ntmps18
  go_wp2_with (at_make; refine wpList_make_full _ rfl _ _ 22 rfl w.heap.size 5 i0 (.int .u8 0) 1 Try.underlying22 hi hz0 hz1 .i64 .i64 _ _ size rfl rfl rfl rfl (by rw [hz2]; omega) (by unfold maxLen; omega) (Nat.le_refl _) ?_; intro w0 hown0 hgrow0)
  clear HX hx
  have hown1 : w0.ownsRow w.heap.size 5 1 (.slice (some ⟨w.heap.size, 0, none⟩) size size) size (vb (bePart n size 0)) := by
    have e : (madeCells (Value.int .u8 0).cells (size * 1)).toList = vb (bePart n size 0) := by
      simp [bePart, be, Value.cells, toList_madeCells_one]
    rw [← e]; exact hown0
  have hb0 : Below w.heap.size w w0 := (Below.refl _ _).grown hgrow0 (Nat.le_refl _) (by simp)
  clear hown0 hgrow0
  go_loopw [0, 7] (fun s i wr => ∃ m : Nat, m ≤ size ∧ i = .int .i64 ((size : Int) - 1 - m) ∧ s = .int .u64 ((n / 256 ^ m : Nat) : Int) ∧
      wr.ownsRow w.heap.size 5 1 (.slice (some ⟨w.heap.size, 0, none⟩) size size) size (vb (bePart n size m)) ∧ Below w.heap.size w wr) (fun _ i _ => (intOf i + 1).toNat)
  case atStart => exact ⟨0, Nat.zero_le _, by simp, by simp, hown1, hb0⟩
  case round =>
    rename_i wr _ _
    obtain ⟨m, hm, rfl, rfl, hown, hb⟩ := hrel
    by_cases hlt : m < size
    · have hfz := hown.frozenAt (size - 1 - m)
      have hce := (hown.cellAt (size - 1 - m) (by omega)).trans (List.getElem?_eq_getElem (by simp [bePart_len n size m hm]; omega))
      have hst := hown.stored (size - 1 - m) (.int .u8 ((UInt8.ofNat (n / 256 ^ m)).toNat : Int))
      rw [bePart_set n size m hlt] at hst
      have HST := Lib.hid hst; clear hst
      have HV := Lib.hid (be_byte n m)
      go_wp2
      go_roundw
      case rel =>
        rw [HV.out]
        exact ⟨m + 1, by omega, val_int (by omega), val_int (by rw [Nat.pow_succ, ← Nat.div_div_eq_div_mul]; simp), HST.out.1, hb.grown HST.out.2 hb.size (by simp)⟩
      case measure => simp [intOf]; omega
    · obtain rfl : m = size := by omega
      go_wp2
      go_ret2
      exact ⟨_, rfl, by simpa [bePart] using hown, hb⟩

set_option maxRecDepth 100000 in
theorem put_arg (n : Nat) (size : Int) (w : World) (hx : size < 1 ∨ 8 < size) :
    Calls Try.prog 18 #[.int .u64 n, .int .i64 size] w fun e w' => e = .returned (.tuple #[.slice none 0 0, .int .i64 2]) ∧ w' = w := by
  rcases hx with hx | hx <;>
  · go_enter Try.func18, Try.ntmps18
    go_wp2
    go_ret2
    exact ⟨rfl, rfl⟩

set_option maxRecDepth 100000 in
theorem put_range (n size : Nat) (w : World) (h64 : n < 18446744073709551616) (hn : 256 ^ size ≤ n) (h1 : 1 ≤ size) (h8 : size ≤ 8) :
    Calls Try.prog 18 #[.int .u64 n, .int .i64 size] w fun e w' => e = .returned (.tuple #[.slice none 0 0, .int .i64 6]) ∧ w' = w := by
  have hx : (((n : Int)) / 2 ^ (8 * size) != 0) = true := by
    rw [bne_iff_ne]
    have : 0 < n / 2 ^ (8 * size) := Nat.div_pos (by rw [Nat.pow_mul]; exact hn) (Nat.pow_pos (by omega))
    intro e
    have e' : ((n / 2 ^ (8 * size) : Nat) : Int) = 0 := by simpa using e
    omega
  clear hn
  go_enter Try.func18, Try.ntmps18
  go_wp2
  go_ret2
  exact ⟨rfl, rfl⟩

set_option maxHeartbeats 400000 in
set_option maxRecDepth 100000 in
theorem rof_any (n size : Nat) (w : World) (h64 : n < 18446744073709551616) (h1 : 1 ≤ size) (h8 : size ≤ 8) :
    Calls Try.prog 20 #[.int .u64 n, .int .i64 size] w fun e w' => ∃ v, e = .returned (.tuple #[v, .bool (n / 256 ^ size == 0)]) ∧ w'.ownsRow w.heap.size 5 1 v size (vb (be n size)) ∧ Below w.heap.size w w' := by
  obtain ⟨i0, hi, hz0, hz1, hz2⟩ := info_parts info_u8
  go_enter Try.func20, Try.ntmps20
  go_wp2_with (at_make; refine wpList_make_full _ rfl _ _ 22 rfl w.heap.size 5 i0 (.int .u8 0) 1 Try.underlying22 hi hz0 hz1 .i64 .i64 _ _ size rfl rfl rfl rfl (by rw [hz2]; omega) (by unfold maxLen; omega) (Nat.le_refl _) ?_; intro w0 hown0 hgrow0)
  have hown1 : w0.ownsRow w.heap.size 5 1 (.slice (some ⟨w.heap.size, 0, none⟩) size size) size (vb (bePart n size 0)) := by
    have e : (madeCells (Value.int .u8 0).cells (size * 1)).toList = vb (bePart n size 0) := by
      simp [bePart, be, Value.cells, toList_madeCells_one]
    rw [← e]; exact hown0
  have hb0 : Below w.heap.size w w0 := (Below.refl _ _).grown hgrow0 (Nat.le_refl _) (by simp)
  clear hown0 hgrow0
  go_loopw [0, 7] (fun s i wr => ∃ m : Nat, m ≤ size ∧ i = .int .i64 m ∧ s = .int .u64 ((n / 256 ^ m : Nat) : Int) ∧
      wr.ownsRow w.heap.size 5 1 (.slice (some ⟨w.heap.size, 0, none⟩) size size) size (vb (bePart n size m)) ∧ Below w.heap.size w wr) (fun _ i _ => size - (intOf i).toNat)
  case atStart => exact ⟨0, Nat.zero_le _, by simp, by simp, hown1, hb0⟩
  case round =>
    rename_i wr _ _
    obtain ⟨m, hm, rfl, rfl, hown, hb⟩ := hrel
    obtain ⟨q, hq⟩ : ∃ q, n / 256 ^ m = q := ⟨_, rfl⟩
    have hq64 : q < 18446744073709551616 := by have := Nat.div_le_self n (256 ^ m); omega
    rw [hq]
    have HQ := Lib.hid hq
    by_cases hlt : m < size
    · have hfz := hown.frozenAt (size - 1 - m)
      have hce := (hown.cellAt (size - 1 - m) (by omega)).trans (List.getElem?_eq_getElem (by simp [bePart_len n size m hm]; omega))
      have hst := hown.stored (size - 1 - m) (.int .u8 ((UInt8.ofNat (n / 256 ^ m)).toNat : Int))
      rw [bePart_set n size m hlt, hq] at hst
      have HST := Lib.hid hst; clear hst hq
      have hv : ((q : Int) % 256) = ((UInt8.ofNat q).toNat : Int) := by
        rw [UInt8.toNat_ofNat']; omega
      have HV := Lib.hid hv; clear hv
      go_wp2
      go_roundw
      case rel =>
        rw [HV.out]
        exact ⟨m + 1, by omega, val_int (by omega), val_int (by rw [Nat.pow_succ, ← Nat.div_div_eq_div_mul, HQ.out]; omega), HST.out.1, hb.grown HST.out.2 hb.size (by simp)⟩
      case measure => simp [intOf]; omega
    · obtain rfl : m = size := by omega
      clear hq
      go_wp2
      go_ret2
      refine ⟨_, ret_two rfl (congrArg Value.bool ?_), by simpa [bePart] using hown, hb⟩
      rw [HQ.out, Bool.eq_iff_iff, beq_iff_eq, beq_iff_eq]
      omega

end Go.Proofs.Ytfgigoheaoanpaa
