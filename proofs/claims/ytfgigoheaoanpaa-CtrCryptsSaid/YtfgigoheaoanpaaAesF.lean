/-
  The code's rows moved, by one and by three columns times the row's number. (Printed by wip/gen/aesmoved.py.)
-/
import Derived.Test.YtfgigoheaoanpaaAesE
import Derived.Test.YtfgigoheaoanpaaAesC
namespace Go.Proofs.Ytfgigoheaoanpaa
open Go Go.RowKit
set_option linter.unusedVariables false
set_option linter.unusedSimpArgs false

def y1 (p : Nat) : Nat := p
def y3 (p : Nat) : Nat := 3 * p
theorem y1_up (f : Nat → Nat) : E16 (sMov y1 f) (sMov up f) := fun i hi => rfl
theorem y3_dn (f : Nat → Nat) : E16 (sMov y3 f) (sMov dn f) := fun i hi => by
  unfold sMov y3 dn
  congr 1
  omega

set_option maxRecDepth 100000 in
set_option maxHeartbeats 2000000 in
theorem moved1_any (f : Nat → Nat) (w : World) :
    Calls Try.prog 43 #[.agg (aN 16 f), .int .i64 1] w fun e w' => e = .returned (.agg (aN 16 (sMov y1 f))) ∧ Below w.heap.size w w' := by
  go_enter Try.func43, Try.ntmps43
  go_wp2_with fail
  go_loopw [8] (fun i wr => ∃ p : Nat, p ≤ 4 ∧ i = .int .i64 p ∧ Hid (HT 66 wr w.heap.size f) ∧ Hid (HT 66 wr (w.heap.size + 1) fun _ => 0) ∧ Hid (HT 66 wr (w.heap.size + 1 + 1) (movK y1 f p 0)) ∧ Hid (Below w.heap.size w wr)) (fun i _ => 4 - (intOf i).toNat)
  case atStart =>
    refine ⟨0, by omega, rfl, Lib.hid ?_, Lib.hid ?_, Lib.hid ?_, Lib.hid ((((Below.refl _ _).alloc (Nat.le_refl _) _).alloc (by simp) _).alloc (by simp; omega) _)⟩
    · exact HT.alloc _ (HT.alloc _ (HT.newAt rfl))
    · refine HT.alloc _ ?_
      exact HT.newAt (w := w.alloc (.cells (aN 16 f) 66)) (b := w.heap.size + 1) (f := fun _ => 0) (by rw [World.size_alloc])
    · refine HT.congr (f := fun _ => 0) ?_ (fun i _ => by simp [movK])
      exact HT.newAt (w := (w.alloc (.cells (aN 16 f) 66)).alloc (.cells (aN 16 fun _ => 0) 66)) (b := w.heap.size + 1 + 1) (f := fun _ => 0) (by rw [World.size_alloc, World.size_alloc])
  case round =>
    obtain ⟨p, hp, rfl, H0, H1, H2, HB⟩ := hrel
    by_cases hlt : p < 4
    · have ht : decide ((p : Int) < 4) = true := decide_eq_true (by omega)
      go_wp2_with fail
      clear ht
      obtain ⟨wo, rfl⟩ : ∃ wo : World, wo = wr := ⟨_, rfl⟩
      go_loopw [11] (fun i wq => ∃ q : Nat, q ≤ 4 ∧ i = .int .i64 q ∧ Hid (HT 66 wq w.heap.size f) ∧ Hid (HT 66 wq (w.heap.size + 1) fun _ => 0) ∧ Hid (HT 66 wq (w.heap.size + 1 + 1) (movK y1 f p q)) ∧ Hid (Below w.heap.size w wq)) (fun i _ => 4 - (intOf i).toNat)
      case atStart => exact ⟨0, by omega, rfl, H0, H1, H2, HB⟩
      case round =>
        clear H0 H1 H2 HB
        obtain ⟨q, hq, rfl, H0, H1, H2, HB⟩ := hrel
        by_cases hlq : q < 4
        · have hp4 : (p : Int) < 4 := by omega
          have hq4 : (q : Int) < 4 := by omega
          have hg16 : 4 * ((q + p) % 4) + p < 16 := by omega
          have hd16 : 4 * q + p < 16 := by omega
          have c0 := H0.out.cell _ hg16
          have c3 := H2.out.cell _ hd16
          have f3 := H2.out.free (4 * q + p)
          have hv : movK y1 f p (q + 1) (4 * q + p) = f (4 * ((q + p) % 4) + p) := by
            rw [movK_next y1 f p q hlt, sMov, show (4 * q + p) / 4 = q from by omega, show (4 * q + p) % 4 = p from by omega]; rfl
          have HV := Lib.hid hv; clear hv
          go_wp2_with fail
          go_roundw
          case rel =>
            refine ⟨q + 1, by omega, by go_num, Lib.hid (H0.out.other _ (by simp; omega) _), Lib.hid (H1.out.other _ (by simp) _), Lib.hid ?_, Lib.hid (HB.out.setCell (by simp; omega) _)⟩
            exact H2.out.set _ _ hd16 HV.out fun i hi hik => movK_far y1 f p q i hlt hik
          case measure => simp [intOf]; omega
        · obtain rfl : q = 4 := by omega
          go_wp2_with fail
          go_roundw
          case rel => exact ⟨p + 1, by omega, by go_num, H0, H1, Lib.hid (H2.out.congr (movK_row y1 f p)), HB⟩
          case measure => simp [intOf]; omega
    · obtain rfl : p = 4 := by omega
      have d3 : wr.heap[w.heap.size + 1 + 1]? = some (.cells (aN 16 (sMov y1 f)) 66 (0, 0)) := H2.out.congr (movK_end y1 f)
      have d2 : wr.heap[w.heap.size + 1]? = some (.cells (aN 16 fun _ => 0) 66 (0, 0)) := H1.out
      go_wp2_with (first
        | (refine wpList_load_row rfl 66 (.tmp 5) rfl (w.heap.size + 1 + 1) rfl 66 _ (0, 0) (.array 16 5) d3 Try.underlying66 rfl (by rw [aN_size]; kernel_rfl) ?_)
        | (refine wpList_store_row rfl 66 (.tmp 4) (.tmp 32) rfl (w.heap.size + 1) (aN 16 (sMov y1 f)) rfl rfl 66 _ d2 (by rw [aN_size]; kernel_rfl) (by rw [aN_size, aN_size]) (aN_one _ _) ?_))
      refine bodyPost_ret (v := .agg (aN 16 (sMov y1 f))) (results_cell_row (p := 4) (ty := 66) (by kernel_rfl) _ _ (w.heap.size + 1) 66 (aN 16 (sMov y1 f)) (0, 0) (.array 16 5) rfl ?_ Try.underlying66 rfl (by rw [aN_size]; kernel_rfl)) rfl ⟨rfl, ?_⟩
      · exact setRow_heap _ _ _ _ _ _ d2
      · exact below_setRow HB.out _ (by omega) _

set_option maxRecDepth 100000 in
set_option maxHeartbeats 2000000 in
theorem moved3_any (f : Nat → Nat) (w : World) :
    Calls Try.prog 43 #[.agg (aN 16 f), .int .i64 3] w fun e w' => e = .returned (.agg (aN 16 (sMov y3 f))) ∧ Below w.heap.size w w' := by
  go_enter Try.func43, Try.ntmps43
  go_wp2_with fail
  go_loopw [8] (fun i wr => ∃ p : Nat, p ≤ 4 ∧ i = .int .i64 p ∧ Hid (HT 66 wr w.heap.size f) ∧ Hid (HT 66 wr (w.heap.size + 1) fun _ => 0) ∧ Hid (HT 66 wr (w.heap.size + 1 + 1) (movK y3 f p 0)) ∧ Hid (Below w.heap.size w wr)) (fun i _ => 4 - (intOf i).toNat)
  case atStart =>
    refine ⟨0, by omega, rfl, Lib.hid ?_, Lib.hid ?_, Lib.hid ?_, Lib.hid ((((Below.refl _ _).alloc (Nat.le_refl _) _).alloc (by simp) _).alloc (by simp; omega) _)⟩
    · exact HT.alloc _ (HT.alloc _ (HT.newAt rfl))
    · refine HT.alloc _ ?_
      exact HT.newAt (w := w.alloc (.cells (aN 16 f) 66)) (b := w.heap.size + 1) (f := fun _ => 0) (by rw [World.size_alloc])
    · refine HT.congr (f := fun _ => 0) ?_ (fun i _ => by simp [movK])
      exact HT.newAt (w := (w.alloc (.cells (aN 16 f) 66)).alloc (.cells (aN 16 fun _ => 0) 66)) (b := w.heap.size + 1 + 1) (f := fun _ => 0) (by rw [World.size_alloc, World.size_alloc])
  case round =>
    obtain ⟨p, hp, rfl, H0, H1, H2, HB⟩ := hrel
    by_cases hlt : p < 4
    · have ht : decide ((p : Int) < 4) = true := decide_eq_true (by omega)
      go_wp2_with fail
      clear ht
      obtain ⟨wo, rfl⟩ : ∃ wo : World, wo = wr := ⟨_, rfl⟩
      go_loopw [11] (fun i wq => ∃ q : Nat, q ≤ 4 ∧ i = .int .i64 q ∧ Hid (HT 66 wq w.heap.size f) ∧ Hid (HT 66 wq (w.heap.size + 1) fun _ => 0) ∧ Hid (HT 66 wq (w.heap.size + 1 + 1) (movK y3 f p q)) ∧ Hid (Below w.heap.size w wq)) (fun i _ => 4 - (intOf i).toNat)
      case atStart => exact ⟨0, by omega, rfl, H0, H1, H2, HB⟩
      case round =>
        clear H0 H1 H2 HB
        obtain ⟨q, hq, rfl, H0, H1, H2, HB⟩ := hrel
        by_cases hlq : q < 4
        · have hp4 : (p : Int) < 4 := by omega
          have hq4 : (q : Int) < 4 := by omega
          have hg16 : 4 * ((q + 3 * p) % 4) + p < 16 := by omega
          have hd16 : 4 * q + p < 16 := by omega
          have c0 := H0.out.cell _ hg16
          have c3 := H2.out.cell _ hd16
          have f3 := H2.out.free (4 * q + p)
          have hv : movK y3 f p (q + 1) (4 * q + p) = f (4 * ((q + 3 * p) % 4) + p) := by
            rw [movK_next y3 f p q hlt, sMov, show (4 * q + p) / 4 = q from by omega, show (4 * q + p) % 4 = p from by omega]; rfl
          have HV := Lib.hid hv; clear hv
          go_wp2_with fail
          go_roundw
          case rel =>
            refine ⟨q + 1, by omega, by go_num, Lib.hid (H0.out.other _ (by simp; omega) _), Lib.hid (H1.out.other _ (by simp) _), Lib.hid ?_, Lib.hid (HB.out.setCell (by simp; omega) _)⟩
            exact H2.out.set _ _ hd16 HV.out fun i hi hik => movK_far y3 f p q i hlt hik
          case measure => simp [intOf]; omega
        · obtain rfl : q = 4 := by omega
          go_wp2_with fail
          go_roundw
          case rel => exact ⟨p + 1, by omega, by go_num, H0, H1, Lib.hid (H2.out.congr (movK_row y3 f p)), HB⟩
          case measure => simp [intOf]; omega
    · obtain rfl : p = 4 := by omega
      have d3 : wr.heap[w.heap.size + 1 + 1]? = some (.cells (aN 16 (sMov y3 f)) 66 (0, 0)) := H2.out.congr (movK_end y3 f)
      have d2 : wr.heap[w.heap.size + 1]? = some (.cells (aN 16 fun _ => 0) 66 (0, 0)) := H1.out
      go_wp2_with (first
        | (refine wpList_load_row rfl 66 (.tmp 5) rfl (w.heap.size + 1 + 1) rfl 66 _ (0, 0) (.array 16 5) d3 Try.underlying66 rfl (by rw [aN_size]; kernel_rfl) ?_)
        | (refine wpList_store_row rfl 66 (.tmp 4) (.tmp 32) rfl (w.heap.size + 1) (aN 16 (sMov y3 f)) rfl rfl 66 _ d2 (by rw [aN_size]; kernel_rfl) (by rw [aN_size, aN_size]) (aN_one _ _) ?_))
      refine bodyPost_ret (v := .agg (aN 16 (sMov y3 f))) (results_cell_row (p := 4) (ty := 66) (by kernel_rfl) _ _ (w.heap.size + 1) 66 (aN 16 (sMov y3 f)) (0, 0) (.array 16 5) rfl ?_ Try.underlying66 rfl (by rw [aN_size]; kernel_rfl)) rfl ⟨rfl, ?_⟩
      · exact setRow_heap _ _ _ _ _ _ d2
      · exact below_setRow HB.out _ (by omega) _
end Go.Proofs.Ytfgigoheaoanpaa
