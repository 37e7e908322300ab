/-
  galois: columns mixed and unmixed, the code's and the document's.
-/
import Derived.Test.YtkfmgjipocmkjaaFoldB
import Derived.StillTailTactics
import Derived.Outline
namespace Go.Proofs.Ytkfmgjipocmkjaa
open Go Go.RowKit
set_option linter.unusedVariables false
set_option linter.unusedSimpArgs false

/-- The sum of products, of the q first ones. -/
def dotp (f g : Nat → Nat) : Nat → Nat
  | 0 => 0
  | q + 1 => dotp f g q ^^^ gm (f q) (g q)
theorem dotp_lt (f g : Nat → Nat) (hg : ∀ q, q < 4 → g q < 256) (q : Nat) (hq : q ≤ 4) : dotp f g q < 256 := by
  induction q with
  | zero => exact Nat.zero_lt_succ _
  | succ q ih => exact Nat.xor_lt_two_pow (n := 8) (ih (by omega)) (gm_lt _ _ (hg q (by omega)))
theorem dotp_congr (f f' g : Nat → Nat) (n : Nat) (h : ∀ q, q < n → f q = f' q) : dotp f g n = dotp f' g n := by
  induction n with
  | zero => rfl
  | succ n ih => rw [dotp, dotp, ih fun q hq => h q (by omega), h n (by omega)]

/-- A column of products with rows. -/
def mixd (m c : Nat → Nat) (j : Nat) : Nat := dotp (fun q => m (4 * j + q)) c 4

abbrev nb (n : Nat) : Value := .int .u8 (n : Int)
/-- Four bytes. -/
abbrev arr4 (c : Nat → Nat) : Array Value := #[.int .u8 (c 0 : Int), .int .u8 (c 1 : Int), .int .u8 (c 2 : Int), .int .u8 (c 3 : Int)]
abbrev arr16 (m : Nat → Nat) : Array Value := #[.int .u8 (m 0 : Int), .int .u8 (m 1 : Int), .int .u8 (m 2 : Int), .int .u8 (m 3 : Int), .int .u8 (m 4 : Int), .int .u8 (m 5 : Int), .int .u8 (m 6 : Int), .int .u8 (m 7 : Int),
  .int .u8 (m 8 : Int), .int .u8 (m 9 : Int), .int .u8 (m 10 : Int), .int .u8 (m 11 : Int), .int .u8 (m 12 : Int), .int .u8 (m 13 : Int), .int .u8 (m 14 : Int), .int .u8 (m 15 : Int)]
/-- The column when the rows below k are done, and q products of row k. -/
def colD (m c : Nat → Nat) (k q j : Nat) : Nat := if j < k then dotp (fun q => m (4 * j + q)) c 4 else if j = k then dotp (fun q => m (4 * j + q)) c q else 0

theorem set4 (f g : Nat → Nat) (k : Nat) (v : Nat) (hk : k < 4) (hv : g k = v) (ho : ∀ j, j ≠ k → g j = f j) : (arr4 f).setIfInBounds k (.int .u8 (v : Int)) = arr4 g := by
  subst hv
  rcases k with _ | _ | _ | _ | k
  · simp [arr4, ho 1, ho 2, ho 3]
  · simp [arr4, ho 0, ho 2, ho 3]
  · simp [arr4, ho 0, ho 1, ho 3]
  · simp [arr4, ho 0, ho 1, ho 2]
  · omega
theorem get4 (f : Nat → Nat) (k : Nat) (hk : k < 4) : (arr4 f)[k]? = some (.int .u8 (f k : Int)) := by
  rcases k with _ | _ | _ | _ | k
  · rfl
  · rfl
  · rfl
  · rfl
  · omega

theorem idx4 (c : Nat → Nat) (k : Nat) (hk : k < 4) (w : World) : (Instr.index 65 (.agg (arr4 c)) (.int .i64 (k : Int))).run Try.prog w = .ok (.int .u8 (c k : Int)) w := by
  rcases k with _ | _ | _ | _ | k
  · kernel_rfl
  · kernel_rfl
  · kernel_rfl
  · kernel_rfl
  · omega
theorem idx16 (m : Nat → Nat) (k : Nat) (hk : k < 4) (w : World) : (Instr.index 92 (.agg (arr16 m)) (.int .i64 (k : Int))).run Try.prog w = .ok (.agg (arr4 fun q => m (4 * k + q))) w := by
  rcases k with _ | _ | _ | _ | k
  · kernel_rfl
  · kernel_rfl
  · kernel_rfl
  · kernel_rfl
  · omega

theorem colD_next (m c : Nat → Nat) (k q : Nat) : colD m c k (q + 1) k = colD m c k q k ^^^ gm (m (4 * k + q)) (c q) := by
  simp [colD, dotp]
theorem colD_far (m c : Nat → Nat) (k q q' j : Nat) (h : j ≠ k) : colD m c k q j = colD m c k q' j := by
  simp [colD, h]
theorem colD_row (m c : Nat → Nat) (k j : Nat) : colD m c k 4 j = colD m c (k + 1) 0 j := by
  unfold colD
  by_cases h : j < k
  · rw [if_pos h, if_pos (by omega)]
  · by_cases h' : j = k
    · rw [if_neg h, if_pos h', if_pos (by omega)]
    · rw [if_neg h, if_neg h', if_neg (by omega)]
      split <;> rfl
theorem colD_lt (m c : Nat → Nat) (hc : ∀ q, q < 4 → c q < 256) (k q j : Nat) (hq : q ≤ 4) : colD m c k q j < 256 := by
  unfold colD
  split
  · exact dotp_lt _ _ hc 4 (by omega)
  · split
    · exact dotp_lt _ _ hc q hq
    · omega
theorem colD_start (m c : Nat → Nat) (j : Nat) : colD m c 0 0 j = 0 := by
  unfold colD
  simp [dotp]
theorem colD_end (m c : Nat → Nat) (j : Nat) (h : j < 4) : colD m c 4 0 j = mixd m c j := by
  simp [colD, h, mixd]
theorem arr4_congr (f g : Nat → Nat) (h : ∀ j, j < 4 → f j = g j) : arr4 f = arr4 g := by
  simp [arr4, h]

theorem below_setRow {B : Nat} {w w' : World} (h : Below B w w') (g : Nat) (hg : B ≤ g) (cs : Array Value) : Below B w (w'.setRow g cs) :=
  ⟨h.os, h.tape, h.output, by simpa using h.size, fun i hi => (setRow_other w' g i cs (by omega)).trans (h.block i hi)⟩

set_option maxRecDepth 100000 in
set_option maxHeartbeats 1000000 in
theorem times_any (m c : Nat → Nat) (w : World) (hm : ∀ q, q < 16 → m q < 256) (hc : ∀ q, q < 4 → c q < 256) :
    Calls Try.prog 66 #[.agg (arr16 m), .agg (arr4 c)] w fun e w' => e = .returned (.agg (arr4 (mixd m c))) ∧ Below w.heap.size w w' := by
  have HI := Lib.hid (idx16 m)
  have HM := Lib.hid hm; clear hm
  have HC := Lib.hid hc; clear hc
  go_enter Try.func66, Try.ntmps66
  go_wp2
  go_loopw [11] (fun i wr => ∃ k : Nat, k ≤ 4 ∧ i = .int .i64 k ∧ Hid (wr.heap[w.heap.size + 1]? = some (.cells (arr4 c) 65 (0, 0))) ∧ Hid (wr.heap[w.heap.size + 1 + 1]? = some (.cells (arr4 fun _ => 0) 65 (0, 0))) ∧ Hid (wr.heap[w.heap.size + 1 + 1 + 1]? = some (.cells (arr4 (colD m c k 0)) 65 (0, 0))) ∧ Hid (Below w.heap.size w wr) ∧ w.heap.size + 3 < wr.heap.size) (fun i _ => 4 - (intOf i).toNat)
  case atStart =>
    refine ⟨0, by omega, rfl, Lib.hid ?_, Lib.hid ?_, Lib.hid ?_, Lib.hid ((((Below.refl _ _).alloc (by simp) _).alloc (by simp) _).alloc (by simp; omega) _ |>.alloc (by simp; omega) _), by simp⟩
    · rw [heap_alloc_old _ _ (by simp), heap_alloc_old _ _ (by simp)]
      have := heap_alloc_new (w.alloc (.cells (arr16 m) 92)) (.cells (arr4 c) 65)
      simpa using this
    · rw [heap_alloc_old _ _ (by simp)]
      have h := heap_alloc_new ((w.alloc (.cells (arr16 m) 92)).alloc (.cells (arr4 c) 65)) (.cells (arr4 fun _ => 0) 65)
      rw [World.size_alloc, World.size_alloc] at h
      exact h
    · rw [arr4_congr _ _ fun j _ => colD_start m c j]
      have h := (heap_alloc_new (((w.alloc (.cells (arr16 m) 92)).alloc (.cells (arr4 c) 65)).alloc (.cells (arr4 fun _ => 0) 65)) (.cells (arr4 fun _ => 0) 65))
      rw [World.size_alloc, World.size_alloc, World.size_alloc] at h
      exact h
  case round =>
    obtain ⟨k, hk, rfl, h1, h2, h3, HB, hs⟩ := hrel
    by_cases hlt : k < 4
    · have i1 := HI.out k hlt
      have ht : decide ((k : Int) < 4) = true := decide_eq_true (by omega)
      go_wp2
      clear i1 ht
      obtain ⟨wo, rfl⟩ : ∃ wo : World, wo = wr := ⟨_, rfl⟩
      go_loopw [16] (fun i wq => ∃ q : Nat, q ≤ 4 ∧ i = .int .i64 q ∧ Hid (wq.heap[w.heap.size + 1]? = some (.cells (arr4 c) 65 (0, 0))) ∧ Hid (wq.heap[w.heap.size + 1 + 1]? = some (.cells (arr4 fun _ => 0) 65 (0, 0))) ∧ Hid (wq.heap[w.heap.size + 1 + 1 + 1]? = some (.cells (arr4 (colD m c k q)) 65 (0, 0))) ∧ Hid (Below w.heap.size w wq) ∧ w.heap.size + 3 < wq.heap.size) (fun i _ => 4 - (intOf i).toNat)
      case atStart =>
        refine ⟨0, by omega, rfl, Lib.hid ?_, Lib.hid ?_, Lib.hid ?_, Lib.hid (HB.out.alloc (by omega) _), by simp; omega⟩
        · rw [heap_alloc_old _ _ (by omega)]; exact h1.out
        · rw [heap_alloc_old _ _ (by omega)]; exact h2.out
        · rw [heap_alloc_old _ _ (by omega)]; exact h3.out
      case round =>
        clear h1 h2 h3 HB hs
        obtain ⟨q, hq, rfl, h1, h2, h3, HB, hs⟩ := hrel
        by_cases hlq : q < 4
        · have i2 := idx4 (fun q => m (4 * k + q)) q hlq
          have hk4 : (k : Int) < 4 := by omega
          have c1 : wr.cell? ⟨w.heap.size + 1, q, none⟩ = some (.int .u8 (c q : Int)) := by rw [cell_of_row _ _ _ _ _ _ h1.out]; exact get4 c q hlq
          have c3 : wr.cell? ⟨w.heap.size + 1 + 1 + 1, k, none⟩ = some (.int .u8 (colD m c k q k : Int)) := by rw [cell_of_row _ _ _ _ _ _ h3.out]; exact get4 _ k hlt
          have f3 : wr.frozen? ⟨w.heap.size + 1 + 1 + 1, k, none⟩ = false := frozen_of_row _ _ _ _ _ h3.out
          have lm : m (4 * k + q) < 256 := HM.out _ (by omega)
          have lc : c q < 256 := HC.out _ hlq
          have ld : colD m c k q k < 256 := colD_lt m c HC.out k q k hq
          simp only [arr4, Nat.add_zero] at i2
          go_wp2
          go_still_tail 10, (by kernel_rfl)
          still_call (mul_any _ _ _ lm lc)
          repeat still_step
          refine wpStill_nil ?_
          change wpList _ _ _ _ _ wr.drew
          have h1' : Hid (wr.drew.heap[w.heap.size + 1]? = some (.cells (arr4 c) 65 (0, 0))) := Lib.hid h1.out
          have h2' : Hid (wr.drew.heap[w.heap.size + 1 + 1]? = some (.cells (arr4 fun _ => 0) 65 (0, 0))) := Lib.hid h2.out
          have h3' : Hid (wr.drew.heap[w.heap.size + 1 + 1 + 1]? = some (.cells (arr4 (colD m c k q)) 65 (0, 0))) := Lib.hid h3.out
          have HB' : Hid (Below w.heap.size w wr.drew) := Lib.hid HB.out.drew
          have hs' : w.heap.size + 3 < wr.drew.heap.size := hs
          have c3' : wr.drew.cell? ⟨w.heap.size + 1 + 1 + 1, k, none⟩ = some (.int .u8 (colD m c k q k : Int)) := c3
          have f3' : wr.drew.frozen? ⟨w.heap.size + 1 + 1 + 1, k, none⟩ = false := f3
          have hx : bits .xor .u8 (colD m c k q k : Int) (gm (m (4 * k + q)) (c q) : Int) = ((colD m c k (q + 1) k : Nat) : Int) := by
            rw [nbits_xor _ _ ld (gm_lt _ _ lc), colD_next]
          clear h1 h2 h3 HB hs c1 c3 f3 i2
          generalize wr.drew = w2 at *
          go_wp2
          go_roundw
          case rel =>
            refine ⟨q + 1, by omega, by go_num, Lib.hid ?_, Lib.hid ?_, Lib.hid ?_, Lib.hid ?_, ?_⟩
            · rw [heap_setCell_other _ _ _ _ (by simp)]; exact h1'.out
            · rw [heap_setCell_other _ _ _ _ (by simp)]; exact h2'.out
            · rw [heap_setCell_same _ _ _ _ _ _ h3'.out, set4 _ (colD m c k (q + 1)) k _ hlt rfl fun j hj => colD_far m c k _ _ j hj]
            · exact HB'.out.setCell (by simp; omega) _
            · simpa using hs'
          case measure => simp [intOf]; omega
        · obtain rfl : q = 4 := by omega
          go_wp2
          go_roundw
          case rel => exact ⟨k + 1, by omega, by go_num, h1, h2, Lib.hid (by rw [h3.out, arr4_congr _ _ fun j _ => colD_row m c k j]), HB, hs⟩
          case measure => simp [intOf]; omega
    · obtain rfl : k = 4 := by omega
      have d3 := h3.out
      rw [arr4_congr _ (mixd m c) fun j hj => colD_end m c j hj] at d3
      have D2 := h2.out
      clear h3 h2
      go_wp2_with (first
        | (refine wpList_load_row rfl 65 (.tmp 5) rfl (w.heap.size + 1 + 1 + 1) rfl 65 (arr4 (mixd m c)) (0, 0) (.array 4 5) d3 Try.underlying65 rfl (by kernel_rfl) ?_)
        | (refine wpList_store_row rfl 65 (.tmp 4) (.tmp 32) rfl (w.heap.size + 1 + 1) (arr4 (mixd m c)) rfl rfl 65 (arr4 fun _ => 0) D2 (by kernel_rfl) rfl (by kernel_rfl) ?_))
      refine bodyPost_ret (v := .agg (arr4 (mixd m c))) (results_cell_row (p := 4) (ty := 65) (by kernel_rfl) _ _ (w.heap.size + 1 + 1) 65 (arr4 (mixd m c)) (0, 0) (.array 4 5) rfl ?_ Try.underlying65 rfl (by kernel_rfl)) rfl ⟨rfl, ?_⟩
      · exact setRow_heap _ _ _ _ _ _ D2
      · exact below_setRow HB.out _ (by omega) _
end Go.Proofs.Ytkfmgjipocmkjaa
