/-
  The code's words: substituted, added, and the word ahead as it is added. (Printed by wip/gen/aeschanged.py.)
-/
import Derived.Test.YtkfmgjipocmkjaaAesG
namespace Go.Proofs.Ytkfmgjipocmkjaa
open Go Go.RowKit
set_option linter.unusedVariables false
set_option linter.unusedSimpArgs false

theorem Has.setOne {w : World} {b k v : Nat} {f z : Nat → Nat} (h : Has w b f) (hk : k < 4) (hv : z k = v) (ho : ∀ j, j ≠ k → z j = f j) : Has (w.setCell ⟨b, k, none⟩ (.int .u8 (v : Int))) b z := by
  unfold Has
  rw [heap_setCell_same _ _ _ _ _ _ h, set4 f z k v hk hv ho]
theorem Has.congr {w : World} {b : Nat} {f z : Nat → Nat} (h : Has w b f) (e : ∀ j, j < 4 → f j = z j) : Has w b z := by
  unfold Has at *
  rw [h, arr4_congr _ _ e]
theorem Has.otherCell {w : World} {b : Nat} {f : Nat → Nat} (h : Has w b f) (a : Addr) (hg : b ≠ a.block) (v : Value) : Has (w.setCell a v) b f := (heap_setCell_other _ _ _ _ hg).trans h
theorem Has.free {w : World} {b : Nat} {f : Nat → Nat} (h : Has w b f) (k : Nat) : w.frozen? ⟨b, k, none⟩ = false := frozen_of_row _ _ _ _ _ h
theorem Has.setRow {w : World} {b : Nat} {f z : Nat → Nat} (h : Has w b f) : Has (w.setRow b (arr4 z)) b z := setRow_heap _ _ _ _ _ _ h
theorem Has.rowOther {w : World} {b g : Nat} {f : Nat → Nat} (h : Has w b f) (hg : b ≠ g) (cs : Array Value) : Has (w.setRow g cs) b f := (setRow_other _ _ _ _ hg).trans h
theorem mapK_far (t f : Nat → Nat) (k j : Nat) (h : j ≠ k) : mapK t f (k + 1) j = mapK t f k j := by
  unfold mapK
  by_cases h1 : j < k
  · rw [if_pos h1, if_pos (by omega)]
  · rw [if_neg h1, if_neg (by omega)]
theorem addK_far (f g : Nat → Nat) (k j : Nat) (h : j ≠ k) : addK f g (k + 1) j = addK f g k j := by
  unfold addK
  by_cases h1 : j < k
  · rw [if_pos h1, if_pos (by omega)]
  · rw [if_neg h1, if_neg (by omega)]
theorem set4_arr (c d : Nat → Nat) (h : ∀ j, j < 4 → c j = d j) : Ending.returned (.agg (arr4 c)) = .returned (.agg (arr4 d)) := by rw [arr4_congr _ _ h]

set_option maxRecDepth 100000 in
set_option maxHeartbeats 1000000 in
theorem substituted_any (c : Nat → Nat) (w : World) (hc : ∀ j, j < 4 → c j < 256) :
    Calls Try.prog 74 #[.agg (arr4 c)] w fun e w' => e = .returned (.agg (arr4 fun p => gs (c p))) ∧ Below w.heap.size w w' := by
  have HC := Lib.hid hc; clear hc
  go_enter Try.func74, Try.ntmps74
  go_wp2_with fail
  go_loopw [4] (fun i wr => ∃ k : Nat, k ≤ 4 ∧ i = .int .i64 k ∧ Hid (Has wr w.heap.size (mapK gs c k)) ∧ Hid (Has wr (w.heap.size + 1) fun _ => 0) ∧ Hid (Below w.heap.size w wr)) (fun i _ => 4 - (intOf i).toNat)
  case atStart =>
    refine ⟨0, by omega, rfl, Lib.hid ?_, Lib.hid ?_, Lib.hid (((Below.refl _ _).alloc (Nat.le_refl _) _).alloc (by simp) _)⟩
    · exact Has.alloc _ (Has.new.congr fun i _ => by simp [mapK])
    · exact Has.zeroAt (w := w.alloc (.cells (arr4 c) 65)) (by rw [World.size_alloc])
  case round =>
    obtain ⟨k, hk, rfl, H0, H1, HB⟩ := hrel
    by_cases hlt : k < 4
    · have hk16 : (k : Int) < 4 := by omega
      have c0 := H0.out.cell k hlt
      have f0 := H0.out.free k
      have e0 : mapK gs c k k = c k := by simp [mapK]
      rw [e0] at c0
      clear e0
      have la := HC.out k hlt
      have hx : ((gs (c k) : Nat) : Int) = ((mapK gs c (k + 1) k : Nat) : Int) := by simp [mapK]
      have HX := Lib.hid hx; clear hx
      go_wp2_with fail
      refine (sub_any (c k) _ la).mono ?_
      rintro e w2 ⟨rfl, rfl⟩
      rw [HX.out]
      go_wp2_with fail
      go_roundw
      case rel =>
        refine ⟨k + 1, by omega, by go_num, Lib.hid ?_, Lib.hid (H1.out.otherCell _ (by simp) _), Lib.hid (HB.out.setCell (by simp) _)⟩
        exact H0.out.setOne hlt rfl fun i hi => mapK_far _ _ _ _ hi
      case measure => simp [intOf]; omega
    · obtain rfl : k = 4 := by omega
      have d0 : wr.heap[w.heap.size]? = some (.cells (arr4 fun p => gs (c p)) 65 (0, 0)) := H0.out.congr fun j hj => by simp [mapK, hj]
      have d1 : wr.heap[w.heap.size + 1]? = some (.cells (arr4 fun _ => 0) 65 (0, 0)) := H1.out
      go_wp2_with (first
        | (refine wpList_load_row rfl 65 (.tmp 1) rfl w.heap.size rfl 65 (arr4 fun p => gs (c p)) (0, 0) (.array 4 5) d0 Try.underlying65 rfl (by kernel_rfl) ?_)
        | (refine wpList_store_row rfl 65 (.tmp 2) (.tmp 14) rfl (w.heap.size + 1) (arr4 fun p => gs (c p)) rfl rfl 65 (arr4 fun _ => 0) d1 (by kernel_rfl) rfl (by kernel_rfl) ?_))
      refine bodyPost_ret (v := .agg (arr4 fun p => gs (c p))) (results_cell_row (p := 2) (ty := 65) (by kernel_rfl) _ _ (w.heap.size + 1) 65 (arr4 fun p => gs (c p)) (0, 0) (.array 4 5) rfl ?_ Try.underlying65 rfl (by kernel_rfl)) rfl ⟨rfl, ?_⟩
      · exact setRow_heap _ _ _ _ _ _ d1
      · exact below_setRow HB.out _ (by omega) _

set_option maxRecDepth 100000 in
set_option maxHeartbeats 1000000 in
theorem sum_any (f g : Nat → Nat) (w : World) (hf : ∀ j, j < 4 → f j < 256) (hg : ∀ j, j < 4 → g j < 256) :
    Calls Try.prog 62 #[.agg (arr4 f), .agg (arr4 g)] w fun e w' => e = .returned (.agg (arr4 fun p => f p ^^^ g p)) ∧ Below w.heap.size w w' := by
  have HF := Lib.hid hf; clear hf
  have HG := Lib.hid hg; clear hg
  go_enter Try.func62, Try.ntmps62
  go_wp2_with fail
  go_loopw [6] (fun i wr => ∃ k : Nat, k ≤ 4 ∧ i = .int .i64 k ∧ Hid (Has wr w.heap.size (addK f g k)) ∧ Hid (Has wr (w.heap.size + 1) g) ∧ Hid (Has wr (w.heap.size + 1 + 1) fun _ => 0) ∧ Hid (Below w.heap.size w wr)) (fun i _ => 4 - (intOf i).toNat)
  case atStart =>
    refine ⟨0, by omega, rfl, Lib.hid ?_, Lib.hid ?_, Lib.hid ?_, Lib.hid ((((Below.refl _ _).alloc (Nat.le_refl _) _).alloc (by simp) _).alloc (by simp; omega) _)⟩
    · exact Has.alloc _ (Has.alloc _ (Has.new.congr fun i _ => by simp [addK]))
    · exact Has.alloc _ (Has.newAt (w := w.alloc (.cells (arr4 f) 65)) (by rw [World.size_alloc]))
    · exact Has.zeroAt (w := (w.alloc (.cells (arr4 f) 65)).alloc (.cells (arr4 g) 65)) (by rw [World.size_alloc, World.size_alloc])
  case round =>
    obtain ⟨k, hk, rfl, H0, H1, H2, HB⟩ := hrel
    by_cases hlt : k < 4
    · have hk16 : (k : Int) < 4 := by omega
      have c0 := H0.out.cell k hlt
      have f0 := H0.out.free k
      have c1 := H1.out.cell k hlt
      have e0 : addK f g k k = f k := by simp [addK]
      rw [e0] at c0
      clear e0
      have hx : bits .xor .u8 (f k : Int) (g k : Int) = ((addK f g (k + 1) k : Nat) : Int) := by
        rw [nbits_xor _ _ (HF.out k hlt) (HG.out k hlt)]; simp [addK]
      go_wp2_with fail
      go_still_tail 8, (by kernel_rfl)
      change wpList _ _ _ _ _ wr.drew
      have f0' : wr.drew.frozen? ⟨w.heap.size, k, none⟩ = false := f0
      have c0' : wr.drew.cell? ⟨w.heap.size, k, none⟩ = some (.int .u8 (f k : Int)) := c0
      have H0' : Hid (Has wr.drew w.heap.size (addK f g k)) := Lib.hid H0.out
      have H1' : Hid (Has wr.drew (w.heap.size + 1) g) := Lib.hid H1.out
      have H2' : Hid (Has wr.drew (w.heap.size + 1 + 1) fun _ => 0) := Lib.hid H2.out
      have HB' : Hid (Below w.heap.size w wr.drew) := Lib.hid HB.out.drew
      clear H0 H1 H2 HB c0 f0 c1
      generalize wr.drew = w2 at *
      go_wp2_with fail
      go_roundw
      case rel =>
        refine ⟨k + 1, by omega, by go_num, Lib.hid ?_, Lib.hid (H1'.out.otherCell _ (by simp) _), Lib.hid (H2'.out.otherCell _ (by simp; omega) _), Lib.hid (HB'.out.setCell (by simp) _)⟩
        exact H0'.out.setOne hlt rfl fun i hi => addK_far _ _ _ _ hi
      case measure => simp [intOf]; omega
    · obtain rfl : k = 4 := by omega
      have d0 : wr.heap[w.heap.size]? = some (.cells (arr4 fun p => f p ^^^ g p) 65 (0, 0)) := H0.out.congr fun j hj => by simp [addK, hj]
      have d1 : wr.heap[w.heap.size + 1 + 1]? = some (.cells (arr4 fun _ => 0) 65 (0, 0)) := H2.out
      go_wp2_with (first
        | (refine wpList_load_row rfl 65 (.tmp 2) rfl w.heap.size rfl 65 (arr4 fun p => f p ^^^ g p) (0, 0) (.array 4 5) d0 Try.underlying65 rfl (by kernel_rfl) ?_)
        | (refine wpList_store_row rfl 65 (.tmp 4) (.tmp 18) rfl (w.heap.size + 1 + 1) (arr4 fun p => f p ^^^ g p) rfl rfl 65 (arr4 fun _ => 0) d1 (by kernel_rfl) rfl (by kernel_rfl) ?_))
      refine bodyPost_ret (v := .agg (arr4 fun p => f p ^^^ g p)) (results_cell_row (p := 4) (ty := 65) (by kernel_rfl) _ _ (w.heap.size + 1 + 1) 65 (arr4 fun p => f p ^^^ g p) (0, 0) (.array 4 5) rfl ?_ Try.underlying65 rfl (by kernel_rfl)) rfl ⟨rfl, ?_⟩
      · exact setRow_heap _ _ _ _ _ _ d1
      · exact below_setRow HB.out _ (by omega) _

set_option maxRecDepth 100000 in
set_option maxHeartbeats 2000000 in
theorem changed4_any (c : Nat → Nat) (i : Nat) (w : World) (hc : ∀ j, j < 4 → c j < 256) (hi : 4 ≤ i) (hi' : i < 1000) :
    Calls Try.prog 63 #[.agg (arr4 c), .int .i64 (i : Int), .int .i64 4] w fun e w' => e = .returned (.agg (arr4 (kT 4 i c))) ∧ Below w.heap.size w w' := by
  have HC := Lib.hid hc; clear hc
  have hi0 : (0 : Int) ≤ (i : Int) := by omega
  have hi1 : (i : Int) < 1000 := by omega
  by_cases hd : i % 4 = 0
  · have hb : ((i : Int) % 4 == 0) = true := by rw [beq_iff_eq]; omega
    obtain ⟨d, hd'⟩ : ∃ d, d = i / 4 - 1 := ⟨_, rfl⟩
    have hdl : d < 1000 := by omega
    have hkT : ∀ p, kT 4 i c p = if p = 0 then gs (c ((p + 1) % 4)) ^^^ gp 2 (i / 4 - 1) else gs (c ((p + 1) % 4)) := fun p => by unfold kT; rw [if_pos hd]
    rw [← hd'] at hkT
    have e1 : IntKind.i64.wrap ((i : Int) / 4) = (i : Int) / 4 := IntWalk.i64_in _ (by omega)
    have e2 : IntKind.i64.wrap ((i : Int) / 4 - 1) = (d : Int) := (IntWalk.i64_in _ (by omega)).trans (by omega)
    have e3 : IntKind.u32.wrap (d : Int) = (d : Int) := IntWalk.u32_in _ (by omega)
    have HK := Lib.hid hkT; clear hkT
    have HD := Lib.hid hd; clear hd
    have HD' := Lib.hid hd'; clear hd'
    have E1 := Lib.hid e1; have E2 := Lib.hid e2; have E3 := Lib.hid e3
    clear e1 e2 e3
    have HP : Hid (∀ w : World, Calls Try.prog 75 #[.int .u8 2, .int .u32 (d : Int)] w fun e w' => e = .returned (.int .u8 ((gp 2 d : Nat) : Int)) ∧ w' = w) := Lib.hid fun w => power_any 2 d w (by omega) (by omega)
    have hb4 := build4
    have h0 : Has ((w.alloc (.cells (arr4 c) 65)).alloc (.cells (arr4 fun _ => 0) 65)) w.heap.size c := Has.alloc _ Has.new
    have h1 : Has ((w.alloc (.cells (arr4 c) 65)).alloc (.cells (arr4 fun _ => 0) 65)) (w.heap.size + 1) fun _ => 0 := Has.newAt (by rw [World.size_alloc])
    have hB : Below w.heap.size w ((w.alloc (.cells (arr4 c) 65)).alloc (.cells (arr4 fun _ => 0) 65)) := ((Below.refl _ _).alloc (Nat.le_refl _) _).alloc (by simp) _
    have c0 := h0.cell 0 (by omega)
    have c1 := h0.cell 1 (by omega)
    have c2 := h0.cell 2 (by omega)
    have c3 := h0.cell 3 (by omega)
    have H0 := Lib.hid h0; clear h0
    have H1 := Lib.hid h1; clear h1
    have HB := Lib.hid hB; clear hB
    go_enter Try.func63, Try.ntmps63
    go_wp2_with fail
    generalize (w.alloc (.cells (arr4 c) 65)).alloc (.cells (arr4 fun _ => 0) 65) = w0 at *
    refine (substituted_any (fun p => c ((p + 1) % 4)) _ (fun j hj => HC.out _ (by omega))).mono ?_
    rintro e w1 ⟨rfl, hb1⟩
    have D0 : w1.heap[w.heap.size]? = some (.cells (arr4 c) 65 (0, 0)) := H0.out.call hb1
    have H1' : Hid (Has w1 (w.heap.size + 1) fun _ => 0) := Lib.hid (H1.out.call hb1)
    have HB' : Hid (Below w.heap.size w w1) := Lib.hid (HB.out.trans (hb1.mono HB.out.size))
    clear H0 H1 HB c0 c1 c2 c3 hb1 hb4
    go_wp2_with (refine wpList_store_row rfl 65 (.tmp 3) (.tmp 21) rfl w.heap.size (arr4 fun p => gs (c ((p + 1) % 4))) rfl rfl 65 (arr4 c) D0 (by kernel_rfl) rfl (by kernel_rfl) ?_)
    have h0 : Has (w1.setRow w.heap.size (arr4 fun p => gs (c ((p + 1) % 4)))) w.heap.size fun p => gs (c ((p + 1) % 4)) := setRow_heap _ _ _ _ _ _ D0
    have h1 : Has (w1.setRow w.heap.size (arr4 fun p => gs (c ((p + 1) % 4)))) (w.heap.size + 1) fun _ => 0 := H1'.out.rowOther (by omega) _
    have hB : Below w.heap.size w (w1.setRow w.heap.size (arr4 fun p => gs (c ((p + 1) % 4)))) := below_setRow HB'.out _ (Nat.le_refl _) _
    clear D0 H1' HB'
    have H0 := Lib.hid h0; clear h0
    have H1 := Lib.hid h1; clear h1
    have HB := Lib.hid hB; clear hB
    generalize w1.setRow w.heap.size (arr4 fun p => gs (c ((p + 1) % 4))) = w2 at *
    have g0 : w2.cell? ⟨w.heap.size, 0, none⟩ = some (.int .u8 (gs (c 1) : Int)) := H0.out.cell 0 (by omega)
    have f0 := H0.out.free 0
    have lg := gs_lt _ (HC.out 1 (by omega))
    have lp := gp_lt 2 d (by omega)
    have e1 := E1.out; have e2 := E2.out; have e3 := E3.out
    go_still_tail 10, (by kernel_rfl)
    still_call (HP.out _)
    repeat still_step
    refine wpStill_nil ?_
    change wpList _ _ _ _ _ w2.drew
    have g0' : w2.drew.cell? ⟨w.heap.size, 0, none⟩ = some (.int .u8 (gs (c 1) : Int)) := g0
    have f0' : w2.drew.frozen? ⟨w.heap.size, 0, none⟩ = false := f0
    have H0' : Hid (Has w2.drew w.heap.size fun p => gs (c ((p + 1) % 4))) := Lib.hid H0.out
    have H1' : Hid (Has w2.drew (w.heap.size + 1) fun _ => 0) := Lib.hid H1.out
    have HB' : Hid (Below w.heap.size w w2.drew) := Lib.hid HB.out.drew
    have hx := nbits_xor _ _ lg lp
    clear H0 H1 HB g0 f0 e1 e2 e3
    generalize w2.drew = w3 at *
    have h0 : Has (w3.setCell ⟨w.heap.size, 0, none⟩ (.int .u8 ((gs (c 1) ^^^ gp 2 d : Nat) : Int))) w.heap.size (kT 4 i c) := H0'.out.setOne (by omega) (by rw [HK.out]; rfl) fun j hj => by rw [HK.out, if_neg hj]
    have h1 : Has (w3.setCell ⟨w.heap.size, 0, none⟩ (.int .u8 ((gs (c 1) ^^^ gp 2 d : Nat) : Int))) (w.heap.size + 1) fun _ => 0 := H1'.out.otherCell _ (by simp) _
    have hB : Below w.heap.size w (w3.setCell ⟨w.heap.size, 0, none⟩ (.int .u8 ((gs (c 1) ^^^ gp 2 d : Nat) : Int))) := HB'.out.setCell (by simp) _
    have H0 := Lib.hid h0; clear h0
    have H1 := Lib.hid h1; clear h1
    have HB := Lib.hid hB; clear hB
    go_upto_region 6 with fail
    generalize w3.setCell ⟨w.heap.size, 0, none⟩ (.int .u8 ((gs (c 1) ^^^ gp 2 d : Nat) : Int)) = w4 at *
    have d0 : w4.heap[w.heap.size]? = some (.cells (arr4 (kT 4 i c)) 65 (0, 0)) := H0.out
    have d1 : w4.heap[w.heap.size + 1]? = some (.cells (arr4 fun _ => 0) 65 (0, 0)) := H1.out
    clear H0 H1
    go_wp2_with (first
      | (refine wpList_load_row rfl 65 (.tmp 3) rfl w.heap.size rfl 65 (arr4 (kT 4 i c)) (0, 0) (.array 4 5) d0 Try.underlying65 rfl (by kernel_rfl) ?_)
      | (refine wpList_store_row rfl 65 (.tmp 6) (.tmp 43) rfl (w.heap.size + 1) (arr4 (kT 4 i c)) rfl rfl 65 (arr4 fun _ => 0) d1 (by kernel_rfl) rfl (by kernel_rfl) ?_))
    refine bodyPost_ret (v := .agg (arr4 (kT 4 i c))) (results_cell_row (p := 6) (ty := 65) (by kernel_rfl) _ _ (w.heap.size + 1) 65 (arr4 (kT 4 i c)) (0, 0) (.array 4 5) rfl ?_ Try.underlying65 rfl (by kernel_rfl)) rfl ⟨rfl, ?_⟩
    · exact setRow_heap _ _ _ _ _ _ d1
    · exact below_setRow HB.out _ (by omega) _
  · have hb : ((i : Int) % 4 == 0) = false := by rw [beq_eq_false_iff_ne]; omega
    have hkT : ∀ p, kT 4 i c p = c p := fun p => by unfold kT; rw [if_neg hd, if_neg (by omega)]
    have HK := Lib.hid hkT; clear hkT
    have HD := Lib.hid hd; clear hd
    have h0 : Has ((w.alloc (.cells (arr4 c) 65)).alloc (.cells (arr4 fun _ => 0) 65)) w.heap.size c := Has.alloc _ Has.new
    have h1 : Has ((w.alloc (.cells (arr4 c) 65)).alloc (.cells (arr4 fun _ => 0) 65)) (w.heap.size + 1) fun _ => 0 := Has.newAt (by rw [World.size_alloc])
    have hB : Below w.heap.size w ((w.alloc (.cells (arr4 c) 65)).alloc (.cells (arr4 fun _ => 0) 65)) := ((Below.refl _ _).alloc (Nat.le_refl _) _).alloc (by simp) _
    have c0 := h0.cell 0 (by omega)
    have c1 := h0.cell 1 (by omega)
    have c2 := h0.cell 2 (by omega)
    have c3 := h0.cell 3 (by omega)
    have H0 := Lib.hid h0; clear h0
    have H1 := Lib.hid h1; clear h1
    have HB := Lib.hid hB; clear hB
    clear c0 c1 c2 c3
    go_enter Try.func63, Try.ntmps63
    go_upto_region 6 with fail
    generalize (w.alloc (.cells (arr4 c) 65)).alloc (.cells (arr4 fun _ => 0) 65) = w0 at *
    have d0 : w0.heap[w.heap.size]? = some (.cells (arr4 (kT 4 i c)) 65 (0, 0)) := H0.out.congr fun j hj => by rw [HK.out]
    have d1 : w0.heap[w.heap.size + 1]? = some (.cells (arr4 fun _ => 0) 65 (0, 0)) := H1.out
    clear H0 H1
    go_wp2_with (first
      | (refine wpList_load_row rfl 65 (.tmp 3) rfl w.heap.size rfl 65 (arr4 (kT 4 i c)) (0, 0) (.array 4 5) d0 Try.underlying65 rfl (by kernel_rfl) ?_)
      | (refine wpList_store_row rfl 65 (.tmp 6) (.tmp 43) rfl (w.heap.size + 1) (arr4 (kT 4 i c)) rfl rfl 65 (arr4 fun _ => 0) d1 (by kernel_rfl) rfl (by kernel_rfl) ?_))
    refine bodyPost_ret (v := .agg (arr4 (kT 4 i c))) (results_cell_row (p := 6) (ty := 65) (by kernel_rfl) _ _ (w.heap.size + 1) 65 (arr4 (kT 4 i c)) (0, 0) (.array 4 5) rfl ?_ Try.underlying65 rfl (by kernel_rfl)) rfl ⟨rfl, ?_⟩
    · exact setRow_heap _ _ _ _ _ _ d1
    · exact below_setRow HB.out _ (by omega) _


set_option maxRecDepth 100000 in
set_option maxHeartbeats 2000000 in
theorem changed8_any (c : Nat → Nat) (i : Nat) (w : World) (hc : ∀ j, j < 4 → c j < 256) (hi : 8 ≤ i) (hi' : i < 1000) :
    Calls Try.prog 63 #[.agg (arr4 c), .int .i64 (i : Int), .int .i64 8] w fun e w' => e = .returned (.agg (arr4 (kT 8 i c))) ∧ Below w.heap.size w w' := by
  have HC := Lib.hid hc; clear hc
  have hi0 : (0 : Int) ≤ (i : Int) := by omega
  have hi1 : (i : Int) < 1000 := by omega
  by_cases hd : i % 8 = 0
  · have hb : ((i : Int) % 8 == 0) = true := by rw [beq_iff_eq]; omega
    obtain ⟨d, hd'⟩ : ∃ d, d = i / 8 - 1 := ⟨_, rfl⟩
    have hdl : d < 1000 := by omega
    have hkT : ∀ p, kT 8 i c p = if p = 0 then gs (c ((p + 1) % 4)) ^^^ gp 2 (i / 8 - 1) else gs (c ((p + 1) % 4)) := fun p => by unfold kT; rw [if_pos hd]
    rw [← hd'] at hkT
    have e1 : IntKind.i64.wrap ((i : Int) / 8) = (i : Int) / 8 := IntWalk.i64_in _ (by omega)
    have e2 : IntKind.i64.wrap ((i : Int) / 8 - 1) = (d : Int) := (IntWalk.i64_in _ (by omega)).trans (by omega)
    have e3 : IntKind.u32.wrap (d : Int) = (d : Int) := IntWalk.u32_in _ (by omega)
    have HK := Lib.hid hkT; clear hkT
    have HD := Lib.hid hd; clear hd
    have HD' := Lib.hid hd'; clear hd'
    have E1 := Lib.hid e1; have E2 := Lib.hid e2; have E3 := Lib.hid e3
    clear e1 e2 e3
    have HP : Hid (∀ w : World, Calls Try.prog 75 #[.int .u8 2, .int .u32 (d : Int)] w fun e w' => e = .returned (.int .u8 ((gp 2 d : Nat) : Int)) ∧ w' = w) := Lib.hid fun w => power_any 2 d w (by omega) (by omega)
    have hb4 := build4
    have h0 : Has ((w.alloc (.cells (arr4 c) 65)).alloc (.cells (arr4 fun _ => 0) 65)) w.heap.size c := Has.alloc _ Has.new
    have h1 : Has ((w.alloc (.cells (arr4 c) 65)).alloc (.cells (arr4 fun _ => 0) 65)) (w.heap.size + 1) fun _ => 0 := Has.newAt (by rw [World.size_alloc])
    have hB : Below w.heap.size w ((w.alloc (.cells (arr4 c) 65)).alloc (.cells (arr4 fun _ => 0) 65)) := ((Below.refl _ _).alloc (Nat.le_refl _) _).alloc (by simp) _
    have c0 := h0.cell 0 (by omega)
    have c1 := h0.cell 1 (by omega)
    have c2 := h0.cell 2 (by omega)
    have c3 := h0.cell 3 (by omega)
    have H0 := Lib.hid h0; clear h0
    have H1 := Lib.hid h1; clear h1
    have HB := Lib.hid hB; clear hB
    go_enter Try.func63, Try.ntmps63
    go_wp2_with fail
    generalize (w.alloc (.cells (arr4 c) 65)).alloc (.cells (arr4 fun _ => 0) 65) = w0 at *
    refine (substituted_any (fun p => c ((p + 1) % 4)) _ (fun j hj => HC.out _ (by omega))).mono ?_
    rintro e w1 ⟨rfl, hb1⟩
    have D0 : w1.heap[w.heap.size]? = some (.cells (arr4 c) 65 (0, 0)) := H0.out.call hb1
    have H1' : Hid (Has w1 (w.heap.size + 1) fun _ => 0) := Lib.hid (H1.out.call hb1)
    have HB' : Hid (Below w.heap.size w w1) := Lib.hid (HB.out.trans (hb1.mono HB.out.size))
    clear H0 H1 HB c0 c1 c2 c3 hb1 hb4
    go_wp2_with (refine wpList_store_row rfl 65 (.tmp 3) (.tmp 21) rfl w.heap.size (arr4 fun p => gs (c ((p + 1) % 4))) rfl rfl 65 (arr4 c) D0 (by kernel_rfl) rfl (by kernel_rfl) ?_)
    have h0 : Has (w1.setRow w.heap.size (arr4 fun p => gs (c ((p + 1) % 4)))) w.heap.size fun p => gs (c ((p + 1) % 4)) := setRow_heap _ _ _ _ _ _ D0
    have h1 : Has (w1.setRow w.heap.size (arr4 fun p => gs (c ((p + 1) % 4)))) (w.heap.size + 1) fun _ => 0 := H1'.out.rowOther (by omega) _
    have hB : Below w.heap.size w (w1.setRow w.heap.size (arr4 fun p => gs (c ((p + 1) % 4)))) := below_setRow HB'.out _ (Nat.le_refl _) _
    clear D0 H1' HB'
    have H0 := Lib.hid h0; clear h0
    have H1 := Lib.hid h1; clear h1
    have HB := Lib.hid hB; clear hB
    generalize w1.setRow w.heap.size (arr4 fun p => gs (c ((p + 1) % 4))) = w2 at *
    have g0 : w2.cell? ⟨w.heap.size, 0, none⟩ = some (.int .u8 (gs (c 1) : Int)) := H0.out.cell 0 (by omega)
    have f0 := H0.out.free 0
    have lg := gs_lt _ (HC.out 1 (by omega))
    have lp := gp_lt 2 d (by omega)
    have e1 := E1.out; have e2 := E2.out; have e3 := E3.out
    go_still_tail 10, (by kernel_rfl)
    still_call (HP.out _)
    repeat still_step
    refine wpStill_nil ?_
    change wpList _ _ _ _ _ w2.drew
    have g0' : w2.drew.cell? ⟨w.heap.size, 0, none⟩ = some (.int .u8 (gs (c 1) : Int)) := g0
    have f0' : w2.drew.frozen? ⟨w.heap.size, 0, none⟩ = false := f0
    have H0' : Hid (Has w2.drew w.heap.size fun p => gs (c ((p + 1) % 4))) := Lib.hid H0.out
    have H1' : Hid (Has w2.drew (w.heap.size + 1) fun _ => 0) := Lib.hid H1.out
    have HB' : Hid (Below w.heap.size w w2.drew) := Lib.hid HB.out.drew
    have hx := nbits_xor _ _ lg lp
    clear H0 H1 HB g0 f0 e1 e2 e3
    generalize w2.drew = w3 at *
    have h0 : Has (w3.setCell ⟨w.heap.size, 0, none⟩ (.int .u8 ((gs (c 1) ^^^ gp 2 d : Nat) : Int))) w.heap.size (kT 8 i c) := H0'.out.setOne (by omega) (by rw [HK.out]; rfl) fun j hj => by rw [HK.out, if_neg hj]
    have h1 : Has (w3.setCell ⟨w.heap.size, 0, none⟩ (.int .u8 ((gs (c 1) ^^^ gp 2 d : Nat) : Int))) (w.heap.size + 1) fun _ => 0 := H1'.out.otherCell _ (by simp) _
    have hB : Below w.heap.size w (w3.setCell ⟨w.heap.size, 0, none⟩ (.int .u8 ((gs (c 1) ^^^ gp 2 d : Nat) : Int))) := HB'.out.setCell (by simp) _
    have H0 := Lib.hid h0; clear h0
    have H1 := Lib.hid h1; clear h1
    have HB := Lib.hid hB; clear hB
    go_upto_region 6 with fail
    generalize w3.setCell ⟨w.heap.size, 0, none⟩ (.int .u8 ((gs (c 1) ^^^ gp 2 d : Nat) : Int)) = w4 at *
    have d0 : w4.heap[w.heap.size]? = some (.cells (arr4 (kT 8 i c)) 65 (0, 0)) := H0.out
    have d1 : w4.heap[w.heap.size + 1]? = some (.cells (arr4 fun _ => 0) 65 (0, 0)) := H1.out
    clear H0 H1
    go_wp2_with (first
      | (refine wpList_load_row rfl 65 (.tmp 3) rfl w.heap.size rfl 65 (arr4 (kT 8 i c)) (0, 0) (.array 4 5) d0 Try.underlying65 rfl (by kernel_rfl) ?_)
      | (refine wpList_store_row rfl 65 (.tmp 6) (.tmp 43) rfl (w.heap.size + 1) (arr4 (kT 8 i c)) rfl rfl 65 (arr4 fun _ => 0) d1 (by kernel_rfl) rfl (by kernel_rfl) ?_))
    refine bodyPost_ret (v := .agg (arr4 (kT 8 i c))) (results_cell_row (p := 6) (ty := 65) (by kernel_rfl) _ _ (w.heap.size + 1) 65 (arr4 (kT 8 i c)) (0, 0) (.array 4 5) rfl ?_ Try.underlying65 rfl (by kernel_rfl)) rfl ⟨rfl, ?_⟩
    · exact setRow_heap _ _ _ _ _ _ d1
    · exact below_setRow HB.out _ (by omega) _
  · have hb : ((i : Int) % 8 == 0) = false := by rw [beq_eq_false_iff_ne]; omega
    by_cases h4 : i % 8 = 4
    · have hb4 : ((i : Int) % 8 == 4) = true := by rw [beq_iff_eq]; omega
      have hkT : ∀ p, kT 8 i c p = gs (c p) := fun p => by unfold kT; rw [if_neg hd, if_pos ⟨rfl, h4⟩]
      have HK := Lib.hid hkT; clear hkT
      have HD := Lib.hid hd; clear hd
      have HE := Lib.hid h4; clear h4
      have h0 : Has ((w.alloc (.cells (arr4 c) 65)).alloc (.cells (arr4 fun _ => 0) 65)) w.heap.size c := Has.alloc _ Has.new
      have h1 : Has ((w.alloc (.cells (arr4 c) 65)).alloc (.cells (arr4 fun _ => 0) 65)) (w.heap.size + 1) fun _ => 0 := Has.newAt (by rw [World.size_alloc])
      have hB : Below w.heap.size w ((w.alloc (.cells (arr4 c) 65)).alloc (.cells (arr4 fun _ => 0) 65)) := ((Below.refl _ _).alloc (Nat.le_refl _) _).alloc (by simp) _
      have c0 := h0.cell 0 (by omega)
      have c1 := h0.cell 1 (by omega)
      have c2 := h0.cell 2 (by omega)
      have c3 := h0.cell 3 (by omega)
      have H0 := Lib.hid h0; clear h0
      have H1 := Lib.hid h1; clear h1
      have HB := Lib.hid hB; clear hB
      clear c0 c1 c2 c3
      go_enter Try.func63, Try.ntmps63
      go_upto_region 5 with fail
      generalize (w.alloc (.cells (arr4 c) 65)).alloc (.cells (arr4 fun _ => 0) 65) = w0 at *
      have C0 : w0.heap[w.heap.size]? = some (.cells (arr4 c) 65 (0, 0)) := H0.out
      go_wp2_with (refine wpList_load_row rfl 65 (.tmp 3) rfl w.heap.size rfl 65 (arr4 c) (0, 0) (.array 4 5) C0 Try.underlying65 rfl (by kernel_rfl) ?_)
      refine (substituted_any c _ HC.out).mono ?_
      rintro e w1 ⟨rfl, hb1⟩
      have D0 : w1.heap[w.heap.size]? = some (.cells (arr4 c) 65 (0, 0)) := H0.out.call hb1
      have H1' : Hid (Has w1 (w.heap.size + 1) fun _ => 0) := Lib.hid (H1.out.call hb1)
      have HB' : Hid (Below w.heap.size w w1) := Lib.hid (HB.out.trans (hb1.mono HB.out.size))
      clear H0 H1 HB C0 hb1
      have d0 : (w1.setRow w.heap.size (arr4 fun p => gs (c p))).heap[w.heap.size]? = some (.cells (arr4 (kT 8 i c)) 65 (0, 0)) := Has.congr (setRow_heap _ _ _ _ _ _ D0) fun j hj => by rw [HK.out]
      have d1 : (w1.setRow w.heap.size (arr4 fun p => gs (c p))).heap[w.heap.size + 1]? = some (.cells (arr4 fun _ => 0) 65 (0, 0)) := H1'.out.rowOther (by omega) _
      have hB : Below w.heap.size w (w1.setRow w.heap.size (arr4 fun p => gs (c p))) := below_setRow HB'.out _ (Nat.le_refl _) _
      have HB := Lib.hid hB; clear hB
      go_wp2_with (first
        | (refine wpList_store_row rfl 65 (.tmp 3) (.tmp 42) rfl w.heap.size (arr4 fun p => gs (c p)) rfl rfl 65 (arr4 c) D0 (by kernel_rfl) rfl (by kernel_rfl) ?_)
        | (refine wpList_load_row rfl 65 (.tmp 3) rfl w.heap.size rfl 65 (arr4 (kT 8 i c)) (0, 0) (.array 4 5) d0 Try.underlying65 rfl (by kernel_rfl) ?_)
        | (refine wpList_store_row rfl 65 (.tmp 6) (.tmp 43) rfl (w.heap.size + 1) (arr4 (kT 8 i c)) rfl rfl 65 (arr4 fun _ => 0) d1 (by kernel_rfl) rfl (by kernel_rfl) ?_))
      refine bodyPost_ret (v := .agg (arr4 (kT 8 i c))) (results_cell_row (p := 6) (ty := 65) (by kernel_rfl) _ _ (w.heap.size + 1) 65 (arr4 (kT 8 i c)) (0, 0) (.array 4 5) rfl ?_ Try.underlying65 rfl (by kernel_rfl)) rfl ⟨rfl, ?_⟩
      · exact setRow_heap _ _ _ _ _ _ d1
      · exact below_setRow HB.out _ (by omega) _
    · have hb4 : ((i : Int) % 8 == 4) = false := by rw [beq_eq_false_iff_ne]; omega
      have hkT : ∀ p, kT 8 i c p = c p := fun p => by unfold kT; rw [if_neg hd, if_neg (by omega)]
      have HK := Lib.hid hkT; clear hkT
      have HD := Lib.hid hd; clear hd
      have HE := Lib.hid h4; clear h4
      have h0 : Has ((w.alloc (.cells (arr4 c) 65)).alloc (.cells (arr4 fun _ => 0) 65)) w.heap.size c := Has.alloc _ Has.new
      have h1 : Has ((w.alloc (.cells (arr4 c) 65)).alloc (.cells (arr4 fun _ => 0) 65)) (w.heap.size + 1) fun _ => 0 := Has.newAt (by rw [World.size_alloc])
      have hB : Below w.heap.size w ((w.alloc (.cells (arr4 c) 65)).alloc (.cells (arr4 fun _ => 0) 65)) := ((Below.refl _ _).alloc (Nat.le_refl _) _).alloc (by simp) _
      have c0 := h0.cell 0 (by omega)
      have c1 := h0.cell 1 (by omega)
      have c2 := h0.cell 2 (by omega)
      have c3 := h0.cell 3 (by omega)
      have H0 := Lib.hid h0; clear h0
      have H1 := Lib.hid h1; clear h1
      have HB := Lib.hid hB; clear hB
      clear c0 c1 c2 c3
      go_enter Try.func63, Try.ntmps63
      go_upto_region 6 with fail
      generalize (w.alloc (.cells (arr4 c) 65)).alloc (.cells (arr4 fun _ => 0) 65) = w0 at *
      have d0 : w0.heap[w.heap.size]? = some (.cells (arr4 (kT 8 i c)) 65 (0, 0)) := H0.out.congr fun j hj => by rw [HK.out]
      have d1 : w0.heap[w.heap.size + 1]? = some (.cells (arr4 fun _ => 0) 65 (0, 0)) := H1.out
      clear H0 H1
      go_wp2_with (first
        | (refine wpList_load_row rfl 65 (.tmp 3) rfl w.heap.size rfl 65 (arr4 (kT 8 i c)) (0, 0) (.array 4 5) d0 Try.underlying65 rfl (by kernel_rfl) ?_)
        | (refine wpList_store_row rfl 65 (.tmp 6) (.tmp 43) rfl (w.heap.size + 1) (arr4 (kT 8 i c)) rfl rfl 65 (arr4 fun _ => 0) d1 (by kernel_rfl) rfl (by kernel_rfl) ?_))
      refine bodyPost_ret (v := .agg (arr4 (kT 8 i c))) (results_cell_row (p := 6) (ty := 65) (by kernel_rfl) _ _ (w.heap.size + 1) 65 (arr4 (kT 8 i c)) (0, 0) (.array 4 5) rfl ?_ Try.underlying65 rfl (by kernel_rfl)) rfl ⟨rfl, ?_⟩
      · exact setRow_heap _ _ _ _ _ _ d1
      · exact below_setRow HB.out _ (by omega) _

end Go.Proofs.Ytkfmgjipocmkjaa
