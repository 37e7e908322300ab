/-
  The document's rows moved, and a column taken.
-/
import Derived.Test.YtkfmgjipocmkjaaFoldD
import Derived.BigRegion
namespace Go.Proofs.Ytkfmgjipocmkjaa
open Go Go.RowKit
set_option linter.unusedVariables false
set_option linter.unusedSimpArgs false

abbrev ints4 (y : Nat → Nat) : Array Value := #[.int .i64 (y 0 : Int), .int .i64 (y 1 : Int), .int .i64 (y 2 : Int), .int .i64 (y 3 : Int)]
theorem ints4_get (y : Nat → Nat) (k : Nat) (hk : k < 4) : (ints4 y)[k]? = some (.int .i64 (y k : Int)) := by
  rcases k with _ | _ | _ | _ | k
  · rfl
  · rfl
  · rfl
  · rfl
  · omega
/-- The rows below p moved, and q bytes of row p. -/
def movK (y f : Nat → Nat) (p q i : Nat) : Nat := if i % 4 < p ∨ i % 4 = p ∧ i / 4 < q then sMov y f i else 0
theorem movK_next (y f : Nat → Nat) (p q : Nat) (hp : p < 4) : movK y f p (q + 1) (4 * q + p) = sMov y f (4 * q + p) := by
  unfold movK; rw [if_pos (by omega)]
theorem movK_far (y f : Nat → Nat) (p q i : Nat) (hp : p < 4) (h : i ≠ 4 * q + p) : movK y f p (q + 1) i = movK y f p q i := by
  unfold movK
  by_cases h1 : i % 4 < p ∨ i % 4 = p ∧ i / 4 < q
  · rw [if_pos h1, if_pos (by omega)]
  · rw [if_neg h1, if_neg (by omega)]
theorem movK_row (y f : Nat → Nat) (p : Nat) : E16 (movK y f p 4) (movK y f (p + 1) 0) := fun i hi => by
  unfold movK
  by_cases h1 : i % 4 < p ∨ i % 4 = p ∧ i / 4 < 4
  · rw [if_pos h1, if_pos (by omega)]
  · rw [if_neg h1, if_neg (by omega)]
theorem movK_end (y f : Nat → Nat) : E16 (movK y f 4 0) (sMov y f) := fun i hi => by
  unfold movK; rw [if_pos (by omega)]

set_option maxRecDepth 100000 in
set_option maxHeartbeats 2000000 in
theorem rmoved_any (f y : Nat → Nat) (w : World) (hy : ∀ p, y p < 4) :
    Calls Try.prog 57 #[.agg (aN 16 f), .agg (ints4 y)] w fun e w' => e = .returned (.agg (aN 16 (sMov y f))) ∧ Below w.heap.size w w' := by
  have HY := Lib.hid hy; clear hy
  go_enter Try.func57, Try.ntmps57
  go_wp2_with fail
  go_loopw [6] (fun i wr => ∃ p : Nat, p ≤ 4 ∧ i = .int .i64 p ∧ Hid (H16 wr w.heap.size f) ∧ Hid (wr.heap[w.heap.size + 1]? = some (.cells (ints4 y) 86 (0, 0))) ∧ Hid (H16 wr (w.heap.size + 1 + 1) fun _ => 0) ∧ Hid (H16 wr (w.heap.size + 1 + 1 + 1) (movK y f p 0)) ∧ Hid (Below w.heap.size w wr)) (fun i _ => 4 - (intOf i).toNat)
  case atStart =>
    refine ⟨0, by omega, rfl, Lib.hid ?_, Lib.hid ?_, Lib.hid ?_, Lib.hid ?_, Lib.hid ((((Below.refl _ _).alloc (Nat.le_refl _) _).alloc (by simp) _).alloc (by simp; omega) _ |>.alloc (by simp; omega) _)⟩
    · exact H16.alloc _ (H16.alloc _ (H16.alloc _ (H16.newAt rfl)))
    · rw [heap_alloc_old _ _ (by simp), heap_alloc_old _ _ (by simp)]
      have := heap_alloc_new (w.alloc (.cells (aN 16 f) 35)) (.cells (ints4 y) 86)
      rw [World.size_alloc] at this
      exact this
    · refine H16.alloc _ ?_
      exact H16.newAt (w := (w.alloc (.cells (aN 16 f) 35)).alloc (.cells (ints4 y) 86)) (b := w.heap.size + 1 + 1) (f := fun _ => 0) (by rw [World.size_alloc, World.size_alloc])
    · refine H16.congr (f := fun _ => 0) ?_ (fun i _ => by simp [movK])
      exact H16.newAt (w := ((w.alloc (.cells (aN 16 f) 35)).alloc (.cells (ints4 y) 86)).alloc (.cells (aN 16 fun _ => 0) 35)) (b := w.heap.size + 1 + 1 + 1) (f := fun _ => 0) (by rw [World.size_alloc, World.size_alloc, World.size_alloc])
  case round =>
    obtain ⟨p, hp, rfl, H0, H1, H2, H3, HB⟩ := hrel
    by_cases hlt : p < 4
    · have ht : decide ((p : Int) < 4) = true := decide_eq_true (by omega)
      go_wp2_with fail
      clear ht
      obtain ⟨wo, rfl⟩ : ∃ wo : World, wo = wr := ⟨_, rfl⟩
      go_loopw [7] (fun i wq => ∃ q : Nat, q ≤ 4 ∧ i = .int .i64 q ∧ Hid (H16 wq w.heap.size f) ∧ Hid (wq.heap[w.heap.size + 1]? = some (.cells (ints4 y) 86 (0, 0))) ∧ Hid (H16 wq (w.heap.size + 1 + 1) fun _ => 0) ∧ Hid (H16 wq (w.heap.size + 1 + 1 + 1) (movK y f p q)) ∧ Hid (Below w.heap.size w wq)) (fun i _ => 4 - (intOf i).toNat)
      case atStart => exact ⟨0, by omega, rfl, H0, H1, H2, H3, HB⟩
      case round =>
        clear H0 H1 H2 H3 HB
        obtain ⟨q, hq, rfl, H0, H1, H2, H3, HB⟩ := hrel
        by_cases hlq : q < 4
        · have hp4 : (p : Int) < 4 := by omega
          have hq4 : (q : Int) < 4 := by omega
          obtain ⟨yp, hyp⟩ : ∃ yp, yp = y p := ⟨_, rfl⟩
          have hy4 : yp < 4 := by rw [hyp]; exact HY.out p
          have c1 : wr.cell? ⟨w.heap.size + 1, p, none⟩ = some (.int .i64 (yp : Int)) := by rw [cell_of_row _ _ _ _ _ _ H1.out, hyp]; exact ints4_get y p hlt
          have HYP := Lib.hid hyp; clear hyp
          have hg16 : 4 * ((q + yp) % 4) + p < 16 := by omega
          have hd16 : 4 * q + p < 16 := by omega
          have c0 := H0.out.cell _ hg16
          have c3 := H3.out.cell _ hd16
          have f3 := H3.out.free (4 * q + p)
          have hv : movK y f p (q + 1) (4 * q + p) = f (4 * ((q + yp) % 4) + p) := by
            rw [movK_next y f p q hlt, sMov, show (4 * q + p) / 4 = q from by omega, show (4 * q + p) % 4 = p from by omega, ← HYP.out]
          have HV := Lib.hid hv; clear hv
          go_wp2_with fail
          go_roundw
          case rel =>
            refine ⟨q + 1, by omega, by go_num, Lib.hid (H0.out.other _ (by simp; omega) _), Lib.hid ((heap_setCell_other _ _ _ _ (by simp)).trans H1.out), Lib.hid (H2.out.other _ (by simp) _), Lib.hid ?_, Lib.hid (HB.out.setCell (by simp; omega) _)⟩
            exact H3.out.set _ _ hd16 HV.out fun i hi hik => movK_far y f p q i hlt hik
          case measure => simp [intOf]; omega
        · obtain rfl : q = 4 := by omega
          go_wp2_with fail
          go_roundw
          case rel => exact ⟨p + 1, by omega, by go_num, H0, H1, H2, Lib.hid (H3.out.congr (movK_row y f p)), HB⟩
          case measure => simp [intOf]; omega
    · obtain rfl : p = 4 := by omega
      have d3 : wr.heap[w.heap.size + 1 + 1 + 1]? = some (.cells (aN 16 (sMov y f)) 35 (0, 0)) := H3.out.congr (movK_end y f)
      have d2 : wr.heap[w.heap.size + 1 + 1]? = some (.cells (aN 16 fun _ => 0) 35 (0, 0)) := H2.out
      go_wp2_with (first
        | (refine wpList_load_row rfl 35 (.tmp 5) rfl (w.heap.size + 1 + 1 + 1) rfl 35 _ (0, 0) (.array 16 5) d3 Try.underlying35 rfl (by rw [aN_size]; kernel_rfl) ?_)
        | (refine wpList_store_row rfl 35 (.tmp 4) (.tmp 32) rfl (w.heap.size + 1 + 1) (aN 16 (sMov y f)) rfl rfl 35 _ d2 (by rw [aN_size]; kernel_rfl) (by rw [aN_size, aN_size]) (aN_one _ _) ?_))
      refine bodyPost_ret (v := .agg (aN 16 (sMov y f))) (results_cell_row (p := 4) (ty := 35) (by kernel_rfl) _ _ (w.heap.size + 1 + 1) 35 (aN 16 (sMov y f)) (0, 0) (.array 16 5) rfl ?_ Try.underlying35 rfl (by rw [aN_size]; kernel_rfl)) rfl ⟨rfl, ?_⟩
      · exact setRow_heap _ _ _ _ _ _ d2
      · exact below_setRow HB.out _ (by omega) _

theorem build4 (a b c d : Int) (w : World) : (Instr.build 65 #[(0, .int .u8 a), (1, .int .u8 b), (2, .int .u8 c), (3, .int .u8 d)]).run Try.prog w = .ok (.agg #[.int .u8 a, .int .u8 b, .int .u8 c, .int .u8 d]) w :=
  run_build w _ _ _ (by kernel_rfl)

set_option maxRecDepth 100000 in
set_option maxHeartbeats 2000000 in
theorem rcolumn_any (f : Nat → Nat) (q : Nat) (w : World) (hq : q < 4) :
    Calls Try.prog 59 #[.agg (aN 16 f), .int .i64 (q : Int)] w fun e w' => e = .returned (.agg (arr4 fun j => f (4 * q + j))) ∧ Below w.heap.size w w' := by
  have hq4 : (q : Int) < 4 := by omega
  have h0 : H16 ((w.alloc (.cells (aN 16 f) 35)).alloc (.cells (arr4 fun _ => 0) 65)) w.heap.size f := H16.alloc _ (H16.newAt rfl)
  have c0 := h0.cell (4 * q) (by omega)
  have c1 := h0.cell (4 * q + 1) (by omega)
  have c2 := h0.cell (4 * q + 2) (by omega)
  have c3 := h0.cell (4 * q + 3) (by omega)
  have H0 := Lib.hid h0; clear h0
  have hb4 := build4
  go_enter Try.func59, Try.ntmps59
  go_wp2_with fail
  generalize hW : (w.alloc (.cells (aN 16 f) 35)).alloc (.cells (arr4 fun _ => 0) 65) = w1 at *
  have d1 : w1.heap[w.heap.size + 1]? = some (.cells (arr4 fun _ => 0) 65 (0, 0)) := by rw [← hW]; exact heap_alloc2_new _ _ _
  have HB : Hid (Below w.heap.size w w1) := Lib.hid (by rw [← hW]; exact ((Below.refl _ _).alloc (Nat.le_refl _) _).alloc (by simp) _)
  clear hW
  have s0 : IntKind.i64.wrap (4 * (q : Int)) = 4 * (q : Int) := IntWalk.i64_in _ (by omega)
  have t0 : (4 * (q : Int)).toNat = 4 * q := by omega
  have u0 : 4 * (q : Int) < 16 := by omega
  have v0 : (0 : Int) ≤ 4 * (q : Int) := by omega
  have s1 : IntKind.i64.wrap (4 * (q : Int) + 1) = 4 * (q : Int) + 1 := IntWalk.i64_in _ (by omega)
  have t1 : (4 * (q : Int) + 1).toNat = 4 * q + 1 := by omega
  have u1 : 4 * (q : Int) + 1 < 16 := by omega
  have v1 : (0 : Int) ≤ 4 * (q : Int) + 1 := by omega
  have s2 : IntKind.i64.wrap (4 * (q : Int) + 2) = 4 * (q : Int) + 2 := IntWalk.i64_in _ (by omega)
  have t2 : (4 * (q : Int) + 2).toNat = 4 * q + 2 := by omega
  have u2 : 4 * (q : Int) + 2 < 16 := by omega
  have v2 : (0 : Int) ≤ 4 * (q : Int) + 2 := by omega
  have s3 : IntKind.i64.wrap (4 * (q : Int) + 3) = 4 * (q : Int) + 3 := IntWalk.i64_in _ (by omega)
  have t3 : (4 * (q : Int) + 3).toNat = 4 * q + 3 := by omega
  have u3 : 4 * (q : Int) + 3 < 16 := by omega
  have v3 : (0 : Int) ≤ 4 * (q : Int) + 3 := by omega
  go_still_tail 20, (by kernel_rfl)
  change wpList _ _ _ _ _ w1.drew
  have d1' : w1.drew.heap[w.heap.size + 1]? = some (.cells (arr4 fun _ => 0) 65 (0, 0)) := d1
  have HB' : Hid (Below w.heap.size w w1.drew) := Lib.hid HB.out.drew
  clear HB H0 c0 c1 c2 c3 d1 hb4 s0 t0 u0 v0 s1 t1 u1 v1 s2 t2 u2 v2 s3 t3 u3 v3
  generalize w1.drew = w2 at *
  go_wp2_with (refine wpList_store_row rfl 65 (.tmp 4) (.tmp 24) rfl (w.heap.size + 1) (arr4 fun j => f (4 * q + j)) rfl rfl 65 (arr4 fun _ => 0) d1' (by kernel_rfl) rfl (by kernel_rfl) ?_)
  refine bodyPost_ret (v := .agg (arr4 fun j => f (4 * q + j))) (results_cell_row (p := 4) (ty := 65) (by kernel_rfl) _ _ (w.heap.size + 1) 65 (arr4 fun j => f (4 * q + j)) (0, 0) (.array 4 5) rfl ?_ Try.underlying65 rfl (by kernel_rfl)) rfl ⟨rfl, ?_⟩
  · exact setRow_heap _ _ _ _ _ _ d1'
  · exact below_setRow HB'.out _ (by omega) _
end Go.Proofs.Ytkfmgjipocmkjaa
