/-
  galois: columns mixed and unmixed by the document.
-/
import Derived.Test.YtkfmgjipocmkjaaGalD
namespace Go.Proofs.Ytkfmgjipocmkjaa
open Go Go.RowKit
set_option linter.unusedVariables false
set_option linter.unusedSimpArgs false

/-- The rows that the first one makes, turned on. -/
def turned (f : Nat → Nat) (n : Nat) : Nat := f ((n % 4 + 4 - n / 4) % 4)
theorem turned_at (f : Nat → Nat) (k q : Nat) (hk : k < 4) (hq : q < 4) : turned f (4 * k + q) = f ((q + 4 - k) % 4) := by
  unfold turned
  rw [show (4 * k + q) % 4 = q from by omega, show (4 * k + q) / 4 = k from by omega]

set_option maxRecDepth 100000 in
set_option maxHeartbeats 1000000 in
theorem rrows_any (f c : Nat → Nat) (w : World) (hm : ∀ q, q < 4 → f q < 256) (hc : ∀ q, q < 4 → c q < 256) :
    Calls Try.prog 72 #[.agg (arr4 f), .agg (arr4 c)] w fun e w' => e = .returned (.agg (arr4 (mixd (turned f) c))) ∧ Below w.heap.size w w' := by
  have HM := Lib.hid hm; clear hm
  have HC := Lib.hid hc; clear hc
  go_enter Try.func72, Try.ntmps72
  go_wp2
  go_loopw [6] (fun i wr => ∃ k : Nat, k ≤ 4 ∧ i = .int .i64 k ∧ Hid (wr.heap[w.heap.size]? = some (.cells (arr4 f) 65 (0, 0))) ∧ Hid (wr.heap[w.heap.size + 1]? = some (.cells (arr4 c) 65 (0, 0))) ∧ Hid (wr.heap[w.heap.size + 1 + 1]? = some (.cells (arr4 fun _ => 0) 65 (0, 0))) ∧ Hid (wr.heap[w.heap.size + 1 + 1 + 1]? = some (.cells (arr4 (colD (turned f) c k 0)) 65 (0, 0))) ∧ Hid (Below w.heap.size w wr) ∧ w.heap.size + 3 < wr.heap.size) (fun i _ => 4 - (intOf i).toNat)
  case atStart =>
    refine ⟨0, by omega, rfl, Lib.hid ?_, Lib.hid ?_, Lib.hid ?_, Lib.hid ?_, Lib.hid ((((Below.refl _ _).alloc (by simp) _).alloc (by simp) _).alloc (by simp; omega) _ |>.alloc (by simp; omega) _), by simp⟩
    · rw [heap_alloc_old _ _ (by simp; omega), heap_alloc_old _ _ (by simp; omega), heap_alloc_old _ _ (by simp)]
      exact heap_alloc_new w (.cells (arr4 f) 65)
    · rw [heap_alloc_old _ _ (by simp), heap_alloc_old _ _ (by simp)]
      have := heap_alloc_new (w.alloc (.cells (arr4 f) 65)) (.cells (arr4 c) 65)
      rw [World.size_alloc] at this
      exact this
    · rw [heap_alloc_old _ _ (by simp)]
      have h := heap_alloc_new ((w.alloc (.cells (arr4 f) 65)).alloc (.cells (arr4 c) 65)) (.cells (arr4 fun _ => 0) 65)
      rw [World.size_alloc, World.size_alloc] at h
      exact h
    · rw [arr4_congr _ _ fun j _ => colD_start (turned f) c j]
      have h := (heap_alloc_new (((w.alloc (.cells (arr4 f) 65)).alloc (.cells (arr4 c) 65)).alloc (.cells (arr4 fun _ => 0) 65)) (.cells (arr4 fun _ => 0) 65))
      rw [World.size_alloc, World.size_alloc, World.size_alloc] at h
      exact h
  case round =>
    obtain ⟨k, hk, rfl, h0, h1, h2, h3, HB, hs⟩ := hrel
    by_cases hlt : k < 4
    · have ht : decide ((k : Int) < 4) = true := decide_eq_true (by omega)
      go_wp2
      clear ht
      obtain ⟨wo, rfl⟩ : ∃ wo : World, wo = wr := ⟨_, rfl⟩
      go_loopw [7] (fun i wq => ∃ q : Nat, q ≤ 4 ∧ i = .int .i64 q ∧ Hid (wq.heap[w.heap.size]? = some (.cells (arr4 f) 65 (0, 0))) ∧ Hid (wq.heap[w.heap.size + 1]? = some (.cells (arr4 c) 65 (0, 0))) ∧ Hid (wq.heap[w.heap.size + 1 + 1]? = some (.cells (arr4 fun _ => 0) 65 (0, 0))) ∧ Hid (wq.heap[w.heap.size + 1 + 1 + 1]? = some (.cells (arr4 (colD (turned f) c k q)) 65 (0, 0))) ∧ Hid (Below w.heap.size w wq) ∧ w.heap.size + 3 < wq.heap.size) (fun i _ => 4 - (intOf i).toNat)
      case atStart => exact ⟨0, by omega, rfl, h0, h1, h2, h3, HB, hs⟩
      case round =>
        clear h0 h1 h2 h3 HB hs
        obtain ⟨q, hq, rfl, h0, h1, h2, h3, HB, hs⟩ := hrel
        by_cases hlq : q < 4
        · have hk4 : (k : Int) < 4 := by omega
          obtain ⟨r, hr⟩ : ∃ r, r = (q + 4 - k) % 4 := ⟨_, rfl⟩
          have hr4 : r < 4 := by omega
          have hrI : (r : Int) < 4 := by omega
          have e1 : IntKind.i64.wrap ((q : Int) - (k : Int)) = (q : Int) - (k : Int) := IntWalk.i64_in _ (by omega)
          have e2 : IntKind.i64.wrap ((q : Int) - (k : Int) + 4) = (q : Int) - (k : Int) + 4 := IntWalk.i64_in _ (by omega)
          have e3 : ((q : Int) - (k : Int) + 4).tmod 4 = (r : Int) := by rw [Int.tmod_eq_emod_of_nonneg (by omega)]; omega
          have ef : turned f (4 * k + q) = f r := by rw [turned_at f k q hlt hlq, ← hr]
          have EF := Lib.hid ef; clear ef hr
          have c0 : wr.cell? ⟨w.heap.size, r, none⟩ = some (.int .u8 (f r : Int)) := by rw [cell_of_row _ _ _ _ _ _ h0.out]; exact get4 f r hr4
          have c1 : wr.cell? ⟨w.heap.size + 1, q, none⟩ = some (.int .u8 (c q : Int)) := by rw [cell_of_row _ _ _ _ _ _ h1.out]; exact get4 c q hlq
          have c3 : wr.cell? ⟨w.heap.size + 1 + 1 + 1, k, none⟩ = some (.int .u8 (colD (turned f) c k q k : Int)) := by rw [cell_of_row _ _ _ _ _ _ h3.out]; exact get4 _ k hlt
          have f3 : wr.frozen? ⟨w.heap.size + 1 + 1 + 1, k, none⟩ = false := frozen_of_row _ _ _ _ _ h3.out
          have lm : f r < 256 := HM.out _ hr4
          have lc : c q < 256 := HC.out _ hlq
          have ld : colD (turned f) c k q k < 256 := colD_lt (turned f) c HC.out k q k hq
          go_wp2
          go_still_tail 17, (by kernel_rfl)
          still_call (rmul_any _ _ _ lm lc)
          repeat still_step
          refine wpStill_nil ?_
          change wpList _ _ _ _ _ wr.drew
          have h0' : Hid (wr.drew.heap[w.heap.size]? = some (.cells (arr4 f) 65 (0, 0))) := Lib.hid h0.out
          have h1' : Hid (wr.drew.heap[w.heap.size + 1]? = some (.cells (arr4 c) 65 (0, 0))) := Lib.hid h1.out
          have h2' : Hid (wr.drew.heap[w.heap.size + 1 + 1]? = some (.cells (arr4 fun _ => 0) 65 (0, 0))) := Lib.hid h2.out
          have h3' : Hid (wr.drew.heap[w.heap.size + 1 + 1 + 1]? = some (.cells (arr4 (colD (turned f) c k q)) 65 (0, 0))) := Lib.hid h3.out
          have HB' : Hid (Below w.heap.size w wr.drew) := Lib.hid HB.out.drew
          have hs' : w.heap.size + 3 < wr.drew.heap.size := hs
          have c3' : wr.drew.cell? ⟨w.heap.size + 1 + 1 + 1, k, none⟩ = some (.int .u8 (colD (turned f) c k q k : Int)) := c3
          have f3' : wr.drew.frozen? ⟨w.heap.size + 1 + 1 + 1, k, none⟩ = false := f3
          have hx : bits .xor .u8 (colD (turned f) c k q k : Int) (gm (f r) (c q) : Int) = ((colD (turned f) c k (q + 1) k : Nat) : Int) := by
            rw [nbits_xor _ _ ld (gm_lt _ _ lc), colD_next, EF.out]
          clear h0 h1 h2 h3 HB hs c0 c1 c3 f3 e1 e2 e3
          generalize wr.drew = w2 at *
          go_wp2
          go_roundw
          case rel =>
            refine ⟨q + 1, by omega, by go_num, Lib.hid ?_, Lib.hid ?_, Lib.hid ?_, Lib.hid ?_, Lib.hid ?_, ?_⟩
            · rw [heap_setCell_other _ _ _ _ (by simp; omega)]; exact h0'.out
            · rw [heap_setCell_other _ _ _ _ (by simp)]; exact h1'.out
            · rw [heap_setCell_other _ _ _ _ (by simp)]; exact h2'.out
            · rw [heap_setCell_same _ _ _ _ _ _ h3'.out, set4 _ (colD (turned f) c k (q + 1)) k _ hlt rfl fun j hj => colD_far (turned f) c k _ _ j hj]
            · exact HB'.out.setCell (by simp; omega) _
            · simpa using hs'
          case measure => simp [intOf]; omega
        · obtain rfl : q = 4 := by omega
          go_wp2
          go_roundw
          case rel => exact ⟨k + 1, by omega, by go_num, h0, h1, h2, Lib.hid (by rw [h3.out, arr4_congr _ _ fun j _ => colD_row (turned f) c k j]), HB, hs⟩
          case measure => simp [intOf]; omega
    · obtain rfl : k = 4 := by omega
      have d3 := h3.out
      rw [arr4_congr _ (mixd (turned f) c) fun j hj => colD_end (turned f) c j hj] at d3
      have D2 := h2.out
      clear h3 h2
      go_wp2_with (first
        | (refine wpList_load_row rfl 65 (.tmp 5) rfl (w.heap.size + 1 + 1 + 1) rfl 65 (arr4 (mixd (turned f) c)) (0, 0) (.array 4 5) d3 Try.underlying65 rfl (by kernel_rfl) ?_)
        | (refine wpList_store_row rfl 65 (.tmp 4) (.tmp 33) rfl (w.heap.size + 1 + 1) (arr4 (mixd (turned f) c)) rfl rfl 65 (arr4 fun _ => 0) D2 (by kernel_rfl) rfl (by kernel_rfl) ?_))
      refine bodyPost_ret (v := .agg (arr4 (mixd (turned f) c))) (results_cell_row (p := 4) (ty := 65) (by kernel_rfl) _ _ (w.heap.size + 1 + 1) 65 (arr4 (mixd (turned f) c)) (0, 0) (.array 4 5) rfl ?_ Try.underlying65 rfl (by kernel_rfl)) rfl ⟨rfl, ?_⟩
      · exact setRow_heap _ _ _ _ _ _ D2
      · exact below_setRow HB.out _ (by omega) _

/-- The rows of Mix and of Unmix. -/
def mixR (n : Nat) : Nat := [2, 3, 1, 1, 1, 2, 3, 1, 1, 1, 2, 3, 3, 1, 1, 2].getD n 0
def unmixR (n : Nat) : Nat := [14, 11, 13, 9, 9, 14, 11, 13, 13, 9, 14, 11, 11, 13, 9, 14].getD n 0
def mixF (n : Nat) : Nat := [2, 3, 1, 1].getD n 0
def unmixF (n : Nat) : Nat := [14, 11, 13, 9].getD n 0
theorem turned_mix (n : Nat) (h : n < 16) : turned mixF n = mixR n := by
  have : ∀ n : Fin 16, turned mixF n = mixR n := by decide +kernel
  exact this ⟨n, h⟩
theorem turned_unmix (n : Nat) (h : n < 16) : turned unmixF n = unmixR n := by
  have : ∀ n : Fin 16, turned unmixF n = unmixR n := by decide +kernel
  exact this ⟨n, h⟩
theorem mixd_rows (m m' c : Nat → Nat) (h : ∀ n, n < 16 → m n = m' n) : arr4 (mixd m c) = arr4 (mixd m' c) :=
  arr4_congr _ _ fun j hj => dotp_congr _ _ _ _ fun q hq => h _ (by omega)
theorem mixd_lt (m c : Nat → Nat) (hc : ∀ q, q < 4 → c q < 256) (j : Nat) : mixd m c j < 256 := dotp_lt _ _ hc 4 (by omega)
theorem mixR_lt (n : Nat) (h : n < 16) : mixR n < 256 := by
  have : ∀ n : Fin 16, mixR n < 256 := by decide +kernel
  exact this ⟨n, h⟩
theorem unmixR_lt (n : Nat) (h : n < 16) : unmixR n < 256 := by
  have : ∀ n : Fin 16, unmixR n < 256 := by decide +kernel
  exact this ⟨n, h⟩
theorem mixF_lt (n : Nat) (h : n < 4) : mixF n < 256 := by
  have : ∀ n : Fin 4, mixF n < 256 := by decide +kernel
  exact this ⟨n, h⟩
theorem unmixF_lt (n : Nat) (h : n < 4) : unmixF n < 256 := by
  have : ∀ n : Fin 4, unmixF n < 256 := by decide +kernel
  exact this ⟨n, h⟩

set_option maxRecDepth 100000 in
set_option maxHeartbeats 1000000 in
theorem mix_any (c : Nat → Nat) (w : World) (hc : ∀ q, q < 4 → c q < 256) :
    Calls Try.prog 43 #[.agg (arr4 c)] w fun e w' => e = .returned (.agg (arr4 (mixd mixR c))) ∧ Below w.heap.size w w' := by
  have ht := times_any mixR c ((w.alloc (.cells (arr4 c) 65)).alloc (.cells (arr4 fun _ => 0) 65)) mixR_lt hc
  have HT := Lib.hid ht
  clear hc ht
  go_enter Try.func43, Try.ntmps43
  go_wp2_with fail
  refine HT.out.mono ?_
  rintro e w' ⟨rfl, hb⟩
  have D := (hb.block (w.heap.size + 1) (by simp)).trans (heap_alloc2_new w (.cells (arr4 c) 65) (.cells (arr4 fun _ => 0) 65))
  have HB := Lib.hid ((((Below.refl w.heap.size w).alloc (by simp) (.cells (arr4 c) 65)).alloc (by simp) (.cells (arr4 fun _ => 0) 65)).trans (hb.mono (by simp; omega)))
  clear hb HT
  go_wp2_with (first
    | (refine wpList_store_row rfl 65 (.tmp 2) (.tmp 9) rfl (w.heap.size + 1) (arr4 (mixd mixR c)) rfl rfl 65 (arr4 fun _ => 0) D (by kernel_rfl) rfl (by kernel_rfl) ?_))
  refine bodyPost_ret (v := .agg (arr4 (mixd mixR c))) (results_cell_row (p := 2) (ty := 65) (by kernel_rfl) _ _ (w.heap.size + 1) 65 (arr4 (mixd mixR c)) (0, 0) (.array 4 5) rfl ?_ Try.underlying65 rfl (by kernel_rfl)) rfl ⟨rfl, ?_⟩
  · exact setRow_heap _ _ _ _ _ _ D
  · exact below_setRow HB.out _ (by omega) _

set_option maxRecDepth 100000 in
set_option maxHeartbeats 1000000 in
theorem rmix_any (c : Nat → Nat) (w : World) (hc : ∀ q, q < 4 → c q < 256) :
    Calls Try.prog 58 #[.agg (arr4 c)] w fun e w' => e = .returned (.agg (arr4 (mixd mixR c))) ∧ Below w.heap.size w w' := by
  have ht := rrows_any mixF c ((w.alloc (.cells (arr4 c) 65)).alloc (.cells (arr4 fun _ => 0) 65)) mixF_lt hc
  rw [mixd_rows _ mixR c turned_mix] at ht
  have HT := Lib.hid ht
  clear hc ht
  go_enter Try.func58, Try.ntmps58
  go_wp2_with fail
  refine HT.out.mono ?_
  rintro e w' ⟨rfl, hb⟩
  have D := (hb.block (w.heap.size + 1) (by simp)).trans (heap_alloc2_new w (.cells (arr4 c) 65) (.cells (arr4 fun _ => 0) 65))
  have HB := Lib.hid ((((Below.refl w.heap.size w).alloc (by simp) (.cells (arr4 c) 65)).alloc (by simp) (.cells (arr4 fun _ => 0) 65)).trans (hb.mono (by simp; omega)))
  clear hb HT
  go_wp2_with (first
    | (refine wpList_store_row rfl 65 (.tmp 2) (.tmp 5) rfl (w.heap.size + 1) (arr4 (mixd mixR c)) rfl rfl 65 (arr4 fun _ => 0) D (by kernel_rfl) rfl (by kernel_rfl) ?_))
  refine bodyPost_ret (v := .agg (arr4 (mixd mixR c))) (results_cell_row (p := 2) (ty := 65) (by kernel_rfl) _ _ (w.heap.size + 1) 65 (arr4 (mixd mixR c)) (0, 0) (.array 4 5) rfl ?_ Try.underlying65 rfl (by kernel_rfl)) rfl ⟨rfl, ?_⟩
  · exact setRow_heap _ _ _ _ _ _ D
  · exact below_setRow HB.out _ (by omega) _

end Go.Proofs.Ytkfmgjipocmkjaa
