/-
  octet: the document's Copy, Bits, Xor, and Xor.
-/
import Derived.Test.YtfgigoheaoanpaaProg
import Derived.Test.YtfgigoheaoanpaaBase
import Derived.Test.YtfgigoheaoanpaaOctA
import Derived.Test.YtfgigoheaoanpaaOctC
import Derived.Laws.CopyOwn
namespace Go.Proofs.Ytfgigoheaoanpaa
open Go Go.RowKit
set_option linter.unusedVariables false
set_option linter.unusedSimpArgs false

theorem vb_one (l : List UInt8) : ∀ v ∈ vb l, v.oneCell' = true := by
  intro v hv
  simp only [vb, List.mem_map] at hv
  obtain ⟨b, _, rfl⟩ := hv
  rfl

set_option maxHeartbeats 400000 in
theorem copy_any (A : Option Addr) (l : List UInt8) (n cap : Nat) (hn : l.length = n) (w : World) (hl : n ≤ 140737488351232) (h : Rd w w.heap.size A (vb l)) :
    Calls Try.prog 8 #[.slice A n cap] w fun e w' => ∃ v, e = .returned v ∧ w'.ownsRow w.heap.size 5 1 v n (vb l) ∧ Below w.heap.size w w' := by
  obtain ⟨i0, hi, hz0, hz1, hz2⟩ := info_parts info_u8
  have hsz : (Try.prog.info? 5).map (·.size) = some 1 := by rw [hi]; simp [hz1]
  have HN := Lib.hid hn; clear hn
  obtain ⟨cs, hcs⟩ : ∃ cs, cs = vb l := ⟨_, rfl⟩
  have hone : ∀ v ∈ cs, v.oneCell' = true := by rw [hcs]; exact vb_one l
  have hlen : cs.length = n := by rw [hcs, ← HN.out]; simp
  rw [← hcs] at h ⊢
  have HL := Lib.hid hlen
  have HONE := Lib.hid hone
  clear hcs hlen hone
  go_enter Try.func8, Try.ntmps8
  go_wp2_with (first
    | (at_make; refine wpList_make_blk _ rfl _ _ 22 rfl 5 i0 (.int .u8 0) Try.underlying22 hi hz0 hz1 rfl .i64 .i64 _ _ n (n + 3) rfl rfl rfl (by omega) (by omega) (by rw [hz2]; omega) (by unfold maxLen; omega) ?_; intro w0 hblk0 hb0 hsize0)
    | ((with_reducible show wpList _ _ _ _ _ _); refine wpList_copy_splice (o := ⟨some 12, _, _, _, _, _⟩) rfl (.tmp 10) (.tmp 11) 22 22 rfl 5 Try.underlying22 hsz (some ⟨w.heap.size, 0, none⟩) A n (n + 3) n cap rfl rfl w.heap.size 0 (List.replicate (n + 3) (.int .u8 0)) 5 hblk0.out cs (by have := HL.out; simp [this]) ?_ (by have := HL.out; simp; omega) HONE.out w.heap.size w hb0 (Nat.le_refl _) ?_))
  · intro h0
    obtain ⟨ad, rfl, hb, hc⟩ := h h0
    exact ⟨ad, rfl, fun j v hv => (hb0.cell (by rw [add_block]; exact hb)).trans (hc j v hv)⟩
  · intro w1 hblk1 hb1
    go_wp2
    go_ret
    refine ⟨_, rfl, ?_, hb1⟩
    have := own_of_blk (n := n) (cap := n + 3) hblk1.out (Nat.le_refl _) (by omega) (by unfold maxLen; omega) (by have := HL.out; simp [splice]; omega)
    have hsp : (List.take n (splice (List.replicate (n + 3) (Value.int .u8 0)) 0 cs)) = cs := by
      simp only [splice, List.take_zero, List.nil_append]
      rw [List.take_append_of_le_length (by have := HL.out; omega), List.take_of_length_le (by have := HL.out; omega)]
    simp only [hsp] at this
    exact this

/-- Of n bytes the first m are done. -/
def xPart (a b : List UInt8) (n m : Nat) : List UInt8 := orX (a.take m) (b.take m) ++ List.replicate (n - m) 0
theorem xPart_len (a b : List UInt8) (n m : Nat) (ha : a.length = n) (hb : b.length = n) (h : m ≤ n) : (xPart a b n m).length = n := by simp [xPart, orX, ha, hb]; omega
theorem xPart_set (a b : List UInt8) (n m : Nat) (ha : a.length = n) (hb : b.length = n) (h : m < n) (x : UInt8) (hx : x = a[m]'(by omega) ^^^ b[m]'(by omega)) :
    (vb (xPart a b n m)).set m (.int .u8 (x.toNat : Int)) = vb (xPart a b n (m + 1)) := by
  have h1 : (orX (a.take m) (b.take m)).length = m := by simp [orX, ha, hb]; omega
  have h2 : List.replicate (n - m) (0 : UInt8) = 0 :: List.replicate (n - (m + 1)) 0 := by
    rw [show n - m = (n - (m + 1)) + 1 from by omega, List.replicate_succ]
  have key : (xPart a b n m).set m x = xPart a b n (m + 1) := by
    unfold xPart
    rw [take_snoc a m (by omega), take_snoc b m (by omega), orX_snoc _ _ _ _ (by simp; omega), h2, List.set_append_right _ _ (by omega), h1, hx]
    simp
  rw [← key]
  simp only [vb, List.map_set]

set_option maxHeartbeats 1000000 in
theorem xor_any (A B : Option Addr) (a b : List UInt8) (n ca cb : Nat) (hn : a.length = n) (hm : b.length = n) (w : World) (hl : n ≤ 140737488351232)
    (h : Rd w w.heap.size A (vb a)) (h' : Rd w w.heap.size B (vb b)) :
    Calls Try.prog 24 #[.slice A n ca, .slice B n cb] w fun e w' => ∃ v, e = .returned (.tuple #[v, .int .i64 0]) ∧ w'.ownsRow w.heap.size 5 1 v n (vb (orX a b)) ∧ Below w.heap.size w w' := by
  obtain ⟨i0, hi, hz0, hz1, hz2⟩ := info_parts info_u8
  have HN := Lib.hid hn; clear hn
  have HM := Lib.hid hm; clear hm
  go_enter Try.func24, Try.ntmps24
  go_wp2_with (at_make; refine wpList_make_full _ rfl _ _ 22 rfl w.heap.size 5 i0 (.int .u8 0) 1 Try.underlying22 hi hz0 hz1 .i64 .i64 _ _ n rfl rfl rfl rfl (by rw [hz2]; omega) (by unfold maxLen; omega) (Nat.le_refl _) ?_; intro w0 hown0 hgrow0)
  have hown1 : w0.ownsRow w.heap.size 5 1 (.slice (some ⟨w.heap.size, 0, none⟩) n n) n (vb (xPart a b n 0)) := by
    have e : (madeCells (Value.int .u8 0).cells (n * 1)).toList = vb (xPart a b n 0) := by
      simp [xPart, orX, Value.cells, toList_madeCells_one]
    rw [← e]; exact hown0
  have hb0 : Below w.heap.size w w0 := (Below.refl _ _).grown hgrow0 (Nat.le_refl _) (by simp)
  clear hown0 hgrow0
  go_loopw [18] (fun i wr => ∃ m : Nat, m ≤ n ∧ i = .int .i64 m ∧
      wr.ownsRow w.heap.size 5 1 (.slice (some ⟨w.heap.size, 0, none⟩) n n) n (vb (xPart a b n m)) ∧ Below w.heap.size w wr) (fun i _ => n - (intOf i).toNat)
  case atStart => exact ⟨0, Nat.zero_le _, rfl, hown1, hb0⟩
  case round =>
    rename_i wr _ _
    obtain ⟨m, hm, rfl, hown, hb⟩ := hrel
    by_cases hlt : m < n
    · have ha : m < a.length := by have := HN.out; omega
      have hbl : m < b.length := by have := HM.out; omega
      obtain ⟨ad, rfl, hbd, hck⟩ := (h.below hb).byte ha
      obtain ⟨bd, rfl, hbd', hck'⟩ := (h'.below hb).byte hbl
      have hfz := hown.frozenAt m
      have hce := (hown.cellAt m (by omega)).trans (List.getElem?_eq_getElem (by simp [xPart_len a b n m HN.out HM.out hm]; omega))
      have hst := hown.stored m (.int .u8 ((a[m] ^^^ b[m]).toNat : Int))
      rw [xPart_set a b n m HN.out HM.out hlt _ rfl] at hst
      have HST := Lib.hid hst; clear hst
      go_wp2
      go_region
      go_wp2
      go_roundw
      case rel =>
        rw [bits_xor]
        exact ⟨m + 1, by omega, by go_num, HST.out.1, (hb.grown HST.out.2 hb.size (by simp)).drew⟩
      case measure => simp [intOf]; omega
    · obtain rfl : m = n := by omega
      go_wp2
      go_ret2
      refine ⟨_, rfl, ?_, hb⟩
      have e : xPart a b m m = orX a b := by
        simp only [xPart, Nat.sub_self, List.replicate_zero, List.append_nil]
        rw [List.take_of_length_le (by have := HN.out; omega), List.take_of_length_le (by have := HM.out; omega)]
      rw [← e]
      exact hown

theorem xor_err (A B : Option Addr) (n m ca cb : Nat) (w : World) (hx : n ≠ m) (hl : n ≤ 140737488351232) (hl' : m ≤ 140737488351232) :
    Calls Try.prog 24 #[.slice A n ca, .slice B m cb] w fun e w' => e = .returned (.tuple #[.slice none 0 0, .int .i64 2]) ∧ w' = w := by
  have hx : (((n : Int)) != (m : Int)) = true := by rw [bne_iff_ne]; omega
  go_enter Try.func24, Try.ntmps24
  go_wp2
  go_ret2
  exact ⟨rfl, rfl⟩
end Go.Proofs.Ytfgigoheaoanpaa
