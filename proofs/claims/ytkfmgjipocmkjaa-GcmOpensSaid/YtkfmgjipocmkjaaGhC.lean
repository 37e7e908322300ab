/-
  The document's product of elements (layer 4). (Printed by wip/gen/ghmul.py.)
-/
import Derived.Test.YtkfmgjipocmkjaaFoldB
import Derived.Deep.DeepCutAuto
namespace Go.Proofs.Ytkfmgjipocmkjaa
open Go Go.RowKit
set_option linter.unusedVariables false
set_option linter.unusedSimpArgs false

theorem xor_one (b : Bool) : bits .xor .i64 (bn b : Int) 1 = ((bn (!b) : Nat) : Int) := by cases b <;> decide
theorem range_set {W : World} {b o gb k : Nat} {cs : List Value} {v : Value} (hne : b ≠ gb) (h : W.rangeAt b o cs) : (W.setCell ⟨gb, k, none⟩ v).rangeAt b o cs := fun j u hj => by
  rw [World.cell?_setCell_other _ _ _ _ (fun e => by injection e with e; exact hne e.symm)]
  exact h j u hj

set_option maxRecDepth 100000 in
set_option maxHeartbeats 4000000 in
theorem gmul_any (f g : Nat → Nat) (w : World) (hf : B16 f) (hg : B16 g) :
    Calls Try.prog 61 #[.agg (aN 16 f), .agg (aN 16 g)] w fun e w' => e = .returned (.agg (aN 16 (hby (hm (hof f) (hof g))))) ∧ Below w.heap.size w w' := by
  have HF := Lib.hid hf; clear hf
  have HG := Lib.hid hg; clear hg
  have hz := zero255
  have HYL : Hid (hof g < 2 ^ 128) := Lib.hid (hof_lt g HG.out)
  go_enter Try.func61, Try.ntmps61
  go_wp2_with fail
  clear hz
  go_loopw [6] (fun i wr => ∃ i' : Nat, i' ≤ 128 ∧ i = .int .i64 (i' : Int) ∧ Hid (H16 wr (w.heap.size) f) ∧ Hid (H16 wr (w.heap.size + 1) g) ∧ Hid (H16 wr (w.heap.size + 1 + 1) fun _ => 0) ∧ Hid (HI wr (w.heap.size + 1 + 1 + 1) fun n => bn ((hcv (hof f) (hof g) i').testBit (254 - n))) ∧ Hid (Below w.heap.size w wr)) (fun i _ => 128 - (intOf i).toNat)
  case atStart =>
    refine ⟨0, by omega, rfl, Lib.hid ?_, Lib.hid ?_, Lib.hid ?_, Lib.hid ?_, Lib.hid (((((Below.refl _ _).alloc (Nat.le_refl _) _).alloc (by simp) _).alloc (by simp; omega) _).alloc (by simp; omega) _)⟩
    · exact H16.alloc _ (H16.alloc _ (H16.alloc _ (H16.newAt rfl)))
    · refine H16.alloc _ (H16.alloc _ ?_)
      exact H16.newAt (w := w.alloc (.cells (aN 16 f) 35)) (by rw [World.size_alloc])
    · refine H16.alloc _ ?_
      exact H16.newAt (w := (w.alloc (.cells (aN 16 f) 35)).alloc (.cells (aN 16 g) 35)) (f := fun _ => 0) (by rw [World.size_alloc, World.size_alloc])
    · refine HI.congr (c := fun _ => 0) ?_ (fun n _ => by simp [hcv, bn])
      exact HI.newAt (by simp)
  case round =>
    obtain ⟨i, hi, rfl, H0, H1, H2, H3, HB⟩ := hrel
    by_cases hlt : i < 128
    · have hi1 : (i : Int) < 128 := by omega
      have hi0 : (0 : Int) ≤ (i : Int) := by omega
      have d0 : wr.heap[w.heap.size]? = some (.cells (aN 16 f) 35 (0, 0)) := H0.out
      cases hbit1 : hbit (hof f) i
      · have hc := gbit_any f i wr HF.out hlt
        rw [hbit1] at hc
        have HC := Lib.hid hc; clear hc
        have HBT := Lib.hid hbit1; clear hbit1
        go_wp2_with (refine wpList_load_row rfl 35 (.tmp 2) rfl (w.heap.size) rfl 35 (aN 16 f) (0, 0) (.array 16 5) d0 Try.underlying35 rfl (by rw [aN_size]; kernel_rfl) ?_)
        refine HC.out.mono ?_
        rintro e w5 ⟨rfl, hb5⟩
        have H0' := Lib.hid (H0.out.call hb5)
        have H1' := Lib.hid (H1.out.call hb5)
        have H2' := Lib.hid (H2.out.call hb5)
        have H3' := Lib.hid ((H3.out.call hb5).congr (z := fun n => bn ((hcv (hof f) (hof g) (i + 1)).testBit (254 - n))) fun n hn => by rw [cK_skip _ _ _ _ HYL.out hlt (by omega) HBT.out])
        have HB' := Lib.hid (HB.out.trans (hb5.mono HB.out.size))
        clear d0 hb5 H0 H1 H2 H3 HB
        rw [show ((bn false : Nat) : Int) = 0 from rfl]
        go_wp2_with fail
        go_roundw
        case rel => exact ⟨i + 1, by omega, by go_num, H0', H1', H2', H3', HB'⟩
        case measure => simp [intOf]; omega
      · have hc := gbit_any f i wr HF.out hlt
        rw [hbit1] at hc
        have HC := Lib.hid hc; clear hc
        have HBT := Lib.hid hbit1; clear hbit1
        go_wp2_with (refine wpList_load_row rfl 35 (.tmp 2) rfl (w.heap.size) rfl 35 (aN 16 f) (0, 0) (.array 16 5) d0 Try.underlying35 rfl (by rw [aN_size]; kernel_rfl) ?_)
        refine HC.out.mono ?_
        rintro e w5 ⟨rfl, hb5⟩
        have H0' := Lib.hid (H0.out.call hb5)
        have H1' := Lib.hid (H1.out.call hb5)
        have H2' := Lib.hid (H2.out.call hb5)
        have H3' := Lib.hid ((H3.out.call hb5).congr (z := fun n => bn (cK (hof f) (hof g) i 0 n)) fun n hn => by rw [cK_start])
        have HB' := Lib.hid (HB.out.trans (hb5.mono HB.out.size))
        clear d0 hb5 H0 H1 H2 H3 HB
        rw [show ((bn true : Nat) : Int) = 1 from rfl]
        go_wp2_with fail
        go_loopw [7] (fun k wq => ∃ m : Nat, m ≤ 128 ∧ k = .int .i64 (m : Int) ∧ Hid (H16 wq (w.heap.size) f) ∧ Hid (H16 wq (w.heap.size + 1) g) ∧ Hid (H16 wq (w.heap.size + 1 + 1) fun _ => 0) ∧ Hid (HI wq (w.heap.size + 1 + 1 + 1) fun n => bn (cK (hof f) (hof g) i m n)) ∧ Hid (Below w.heap.size w wq)) (fun k _ => 128 - (intOf k).toNat)
        case atStart => exact ⟨0, by omega, rfl, H0', H1', H2', H3', HB'⟩
        case round =>
          clear H0' H1' H2' H3' HB'
          obtain ⟨m, hm, rfl, H0, H1, H2, H3, HB⟩ := hrel
          by_cases hlm : m < 128
          · have hm1 : (m : Int) < 128 := by omega
            have hm0 : (0 : Int) ≤ (m : Int) := by omega
            have e1 : IntKind.i64.wrap ((i : Int) + (m : Int)) = (i : Int) + (m : Int) := IntWalk.i64_in _ (by omega)
            have e2 : ((i : Int) + (m : Int)).toNat = i + m := by omega
            have e3 : (i : Int) + (m : Int) < 255 := by omega
            have e4 : (0 : Int) ≤ (i : Int) + (m : Int) := by omega
            have c3 := H3.out.cell (i + m) (by omega)
            rw [cK_old] at c3
            have hx := xor_bn ((hcv (hof f) (hof g) i).testBit (254 - (i + m))) (hbit (hof g) m)
            go_upto_region 9 with fail
            refine wp_region_noPanic ?_
            refine wp_region_held_drew (S := (fun w' => w'.rangeAt (w.heap.size + 1) 0 (vl 16 g))) (by kernel_rfl) ?_ (fun hHeld => ?_)
            · exact row16_range (w := wr.drew) H1.out
            refine wpAnyH_take (i := 0) (v := ?_) rfl (by kernel_rfl) (by kernel_rfl) (by kernel_rfl) (fun _ _ _ h => h) (Or.inl ⟨by rfl, ?_⟩) hHeld ?_
            rotate_left
            · intro w' hSw
              (try dsimp only at hSw)
              go_simp
              try with_reducible rfl
            try simp only [Act.put, List.getElem_toArray, List.getElem_cons_zero, List.getElem_cons_succ, List.setIfInBounds_toArray, List.set_cons_zero, List.set_cons_succ]
            refine wpAnyH_take (i := 1) (v := ?_) rfl (by kernel_rfl) (by kernel_rfl) (by kernel_rfl) (fun _ _ _ h => h) (Or.inl ⟨by rfl, ?_⟩) hHeld ?_
            rotate_left
            · intro w' hSw
              (try dsimp only at hSw)
              go_simp
              try with_reducible rfl
            try simp only [Act.put, List.getElem_toArray, List.getElem_cons_zero, List.getElem_cons_succ, List.setIfInBounds_toArray, List.set_cons_zero, List.set_cons_succ]
            refine wpAnyH_take (i := 2) (v := ?_) rfl (by kernel_rfl) (by kernel_rfl) (by kernel_rfl) (fun _ _ _ h => h) (Or.inl ⟨by rfl, ?_⟩) hHeld ?_
            rotate_left
            · intro w' hSw
              (try dsimp only at hSw)
              go_simp
              try with_reducible rfl
            try simp only [Act.put, List.getElem_toArray, List.getElem_cons_zero, List.getElem_cons_succ, List.setIfInBounds_toArray, List.set_cons_zero, List.set_cons_succ]
            refine wpAnyH_take (i := 3) (v := ?_) rfl (by kernel_rfl) (by kernel_rfl) (by kernel_rfl) (fun _ _ _ h => h) (Or.inl ⟨by rfl, ?_⟩) hHeld ?_
            rotate_left
            · intro w' hSw
              (try dsimp only at hSw)
              go_simp
              try with_reducible rfl
            try simp only [Act.put, List.getElem_toArray, List.getElem_cons_zero, List.getElem_cons_succ, List.setIfInBounds_toArray, List.set_cons_zero, List.set_cons_succ]
            refine wpAnyH_take (i := 4) (v := ?_) rfl (by kernel_rfl) (by kernel_rfl) (by kernel_rfl) (fun _ _ _ h => h) (Or.inl ⟨by rfl, ?_⟩) hHeld ?_
            rotate_left
            · intro w' hSw
              (try dsimp only at hSw)
              go_simp
              try with_reducible rfl
            try simp only [Act.put, List.getElem_toArray, List.getElem_cons_zero, List.getElem_cons_succ, List.setIfInBounds_toArray, List.set_cons_zero, List.set_cons_succ]
            refine wpAnyH_take (i := 5) (v := ?_) rfl (by kernel_rfl) (by kernel_rfl) (by kernel_rfl) (fun _ _ _ h => h) (Or.inl ⟨by rfl, ?_⟩) hHeld ?_
            rotate_left
            · intro w' hSw
              (try dsimp only at hSw)
              go_simp
              try with_reducible rfl
            try simp only [Act.put, List.getElem_toArray, List.getElem_cons_zero, List.getElem_cons_succ, List.setIfInBounds_toArray, List.set_cons_zero, List.set_cons_succ]
            refine wpAnyH_take (i := 6) (v := ?_) rfl (by kernel_rfl) (by kernel_rfl) (by kernel_rfl) (fun _ _ _ h => h) (Or.inl ⟨by rfl, ?_⟩) hHeld ?_
            rotate_left
            · intro w' hSw
              (try dsimp only at hSw)
              go_simp
              try with_reducible rfl
            try simp only [Act.put, List.getElem_toArray, List.getElem_cons_zero, List.getElem_cons_succ, List.setIfInBounds_toArray, List.set_cons_zero, List.set_cons_succ]
            refine wpAnyH_take (i := 8) rfl (by kernel_rfl) (by kernel_rfl) (by kernel_rfl) (fun _ _ _ h => h) (yieldsIf_load_mid (by rfl) 35 (.tmp 3) rfl (w.heap.size + 1) (0) rfl (vl 16 g) (.array 16 5) (fun _ h => h) Try.underlying35 rfl (by rw [vl_len]; exact u8_size)) hHeld ?_
            try simp only [Act.put, List.getElem_toArray, List.getElem_cons_zero, List.getElem_cons_succ, List.setIfInBounds_toArray, List.set_cons_zero, List.set_cons_succ]
            refine wpAnyH_take (i := 9) (v := ?_) rfl (by kernel_rfl) (by kernel_rfl) (by kernel_rfl) (fun _ _ _ h => h) (Or.inl ⟨by rfl, ?_⟩) hHeld ?_
            rotate_left
            · intro w' hSw
              (try dsimp only at hSw)
              go_simp
              try with_reducible rfl
            try simp only [Act.put, List.getElem_toArray, List.getElem_cons_zero, List.getElem_cons_succ, List.setIfInBounds_toArray, List.set_cons_zero, List.set_cons_succ]
            refine wpAnyH_ready (rs := [7, 10]) (by kernel_rfl) (by simp) ?_
            refine AllReadyH.cons rfl (fun K hK => ?_) (AllReadyH.cons rfl (fun K hK => ?_) (AllReadyH.nil))
            · try simp only [List.getElem_toArray, List.getElem_cons_zero, List.getElem_cons_succ]
              go_simp
              refine hK.out _ _ ?_ (fun hHeld => ?_)
              · exact hHeld
              clear hK K
              try simp only [Act.put, List.getElem_toArray, List.getElem_cons_zero, List.getElem_cons_succ, List.setIfInBounds_toArray, List.set_cons_zero, List.set_cons_succ]
              refine wpAnyH_ready (rs := [10]) (by kernel_rfl) (by simp) ?_
              refine AllReadyH.cons rfl (fun K hK => ?_) (AllReadyH.nil)
              · try simp only [List.getElem_toArray, List.getElem_cons_zero, List.getElem_cons_succ]
                go_simp
                refine (gbit_any g m _ HG.out hlm).mono ?_
                rintro e w5 ⟨rfl, hb5⟩
                have hrow := H3.out.below (w' := w5) hb5 H3.out.lt
                have q0 := hrow.cell (i + m) (by omega)
                have q1 := hrow.free (i + m)
                rw [cK_old] at q0
                have HW5 : Hid (Below wr.heap.size wr w5) := Lib.hid ((Below.refl _ wr).drew.trans hb5)
                refine hK.out _ _ ?_ (fun hHeld => ?_)
                · exact range_kept hb5 hHeld
                clear hK K
                try simp only [Act.put, List.getElem_toArray, List.getElem_cons_zero, List.getElem_cons_succ, List.setIfInBounds_toArray, List.set_cons_zero, List.set_cons_succ]
                refine wpAnyH_take (i := 11) (v := ?_) rfl (by kernel_rfl) (by kernel_rfl) (by kernel_rfl) (fun _ _ _ h => h) (Or.inl ⟨by rfl, ?_⟩) hHeld ?_
                rotate_left
                · intro w' hSw
                  (try dsimp only at hSw)
                  go_simp
                  try with_reducible rfl
                try simp only [Act.put, List.getElem_toArray, List.getElem_cons_zero, List.getElem_cons_succ, List.setIfInBounds_toArray, List.set_cons_zero, List.set_cons_succ]
                refine wpAnyH_take (i := 12) (v := ?_) rfl (by kernel_rfl) (by kernel_rfl) (by kernel_rfl) (fun _ _ _ h => h) (Or.inl ⟨by rfl, ?_⟩) hHeld ?_
                rotate_left
                · intro w' hSw
                  (try dsimp only at hSw)
                  go_simp
                  try with_reducible rfl
                try simp only [Act.put, List.getElem_toArray, List.getElem_cons_zero, List.getElem_cons_succ, List.setIfInBounds_toArray, List.set_cons_zero, List.set_cons_succ]
                refine wpAnyH_ready (rs := [13]) (by kernel_rfl) (by simp) ?_
                refine AllReadyH.cons rfl (fun K hK => ?_) (AllReadyH.nil)
                · try simp only [List.getElem_toArray, List.getElem_cons_zero, List.getElem_cons_succ]
                  go_simp
                  refine hK.out _ _ ?_ (fun hHeld => ?_)
                  · exact range_set (by omega) hHeld
                  clear hK K
                  try simp only [Act.put, List.getElem_toArray, List.getElem_cons_zero, List.getElem_cons_succ, List.setIfInBounds_toArray, List.set_cons_zero, List.set_cons_succ]
                  refine wpAnyH_done (by kernel_rfl) ?_ _
                  refine NoPanic.normal ?_
                  have H0' := Lib.hid ((H0.out.below (w' := w5) HW5.out H0.out.lt).other ⟨w.heap.size + 1 + 1 + 1, i + m, none⟩ (by show (w.heap.size) ≠ (w.heap.size + 1 + 1 + 1); omega) (.int .i64 ((bn ((hcv (hof f) (hof g) i).testBit (254 - (i + m)) ^^ hbit (hof g) m) : Nat) : Int)))
                  have H1' := Lib.hid ((H1.out.below (w' := w5) HW5.out H1.out.lt).other ⟨w.heap.size + 1 + 1 + 1, i + m, none⟩ (by show (w.heap.size + 1) ≠ (w.heap.size + 1 + 1 + 1); omega) (.int .i64 ((bn ((hcv (hof f) (hof g) i).testBit (254 - (i + m)) ^^ hbit (hof g) m) : Nat) : Int)))
                  have H2' := Lib.hid ((H2.out.below (w' := w5) HW5.out H2.out.lt).other ⟨w.heap.size + 1 + 1 + 1, i + m, none⟩ (by show (w.heap.size + 1 + 1) ≠ (w.heap.size + 1 + 1 + 1); omega) (.int .i64 ((bn ((hcv (hof f) (hof g) i).testBit (254 - (i + m)) ^^ hbit (hof g) m) : Nat) : Int)))
                  have H3' := Lib.hid (HI.set (z := fun n => bn (cK (hof f) (hof g) i (m + 1) n)) (H3.out.below (w' := w5) HW5.out H3.out.lt) (i + m) _ (by omega) (congrArg bn (cK_next _ _ _ _)) (fun j _ hj => congrArg bn (cK_far _ _ _ _ _ hj)))
                  have HB' := Lib.hid ((HB.out.trans (Below.mono HW5.out HB.out.size)).setCell (p := ⟨w.heap.size + 1 + 1 + 1, i + m, none⟩) (by simp; omega) (.int .i64 ((bn ((hcv (hof f) (hof g) i).testBit (254 - (i + m)) ^^ hbit (hof g) m) : Nat) : Int)))
                  go_wp2_with fail
                  go_roundw
                  case rel => exact ⟨m + 1, by omega, by go_num, H0', H1', H2', H3', HB'⟩
                  case measure => simp [intOf]; omega
            · try simp only [List.getElem_toArray, List.getElem_cons_zero, List.getElem_cons_succ]
              go_simp
              refine (gbit_any g m _ HG.out hlm).mono ?_
              rintro e w5 ⟨rfl, hb5⟩
              have hrow := H3.out.below (w' := w5) hb5 H3.out.lt
              have q0 := hrow.cell (i + m) (by omega)
              have q1 := hrow.free (i + m)
              rw [cK_old] at q0
              have HW5 : Hid (Below wr.heap.size wr w5) := Lib.hid ((Below.refl _ wr).drew.trans hb5)
              refine hK.out _ _ ?_ (fun hHeld => ?_)
              · exact range_kept hb5 hHeld
              clear hK K
              try simp only [Act.put, List.getElem_toArray, List.getElem_cons_zero, List.getElem_cons_succ, List.setIfInBounds_toArray, List.set_cons_zero, List.set_cons_succ]
              refine wpAnyH_ready (rs := [7]) (by kernel_rfl) (by simp) ?_
              refine AllReadyH.cons rfl (fun K hK => ?_) (AllReadyH.nil)
              · try simp only [List.getElem_toArray, List.getElem_cons_zero, List.getElem_cons_succ]
                go_simp
                refine hK.out _ _ ?_ (fun hHeld => ?_)
                · exact hHeld
                clear hK K
                try simp only [Act.put, List.getElem_toArray, List.getElem_cons_zero, List.getElem_cons_succ, List.setIfInBounds_toArray, List.set_cons_zero, List.set_cons_succ]
                refine wpAnyH_take (i := 11) (v := ?_) rfl (by kernel_rfl) (by kernel_rfl) (by kernel_rfl) (fun _ _ _ h => h) (Or.inl ⟨by rfl, ?_⟩) hHeld ?_
                rotate_left
                · intro w' hSw
                  (try dsimp only at hSw)
                  go_simp
                  try with_reducible rfl
                try simp only [Act.put, List.getElem_toArray, List.getElem_cons_zero, List.getElem_cons_succ, List.setIfInBounds_toArray, List.set_cons_zero, List.set_cons_succ]
                refine wpAnyH_take (i := 12) (v := ?_) rfl (by kernel_rfl) (by kernel_rfl) (by kernel_rfl) (fun _ _ _ h => h) (Or.inl ⟨by rfl, ?_⟩) hHeld ?_
                rotate_left
                · intro w' hSw
                  (try dsimp only at hSw)
                  go_simp
                  try with_reducible rfl
                try simp only [Act.put, List.getElem_toArray, List.getElem_cons_zero, List.getElem_cons_succ, List.setIfInBounds_toArray, List.set_cons_zero, List.set_cons_succ]
                refine wpAnyH_ready (rs := [13]) (by kernel_rfl) (by simp) ?_
                refine AllReadyH.cons rfl (fun K hK => ?_) (AllReadyH.nil)
                · try simp only [List.getElem_toArray, List.getElem_cons_zero, List.getElem_cons_succ]
                  go_simp
                  refine hK.out _ _ ?_ (fun hHeld => ?_)
                  · exact range_set (by omega) hHeld
                  clear hK K
                  try simp only [Act.put, List.getElem_toArray, List.getElem_cons_zero, List.getElem_cons_succ, List.setIfInBounds_toArray, List.set_cons_zero, List.set_cons_succ]
                  refine wpAnyH_done (by kernel_rfl) ?_ _
                  refine NoPanic.normal ?_
                  have H0' := Lib.hid ((H0.out.below (w' := w5) HW5.out H0.out.lt).other ⟨w.heap.size + 1 + 1 + 1, i + m, none⟩ (by show (w.heap.size) ≠ (w.heap.size + 1 + 1 + 1); omega) (.int .i64 ((bn ((hcv (hof f) (hof g) i).testBit (254 - (i + m)) ^^ hbit (hof g) m) : Nat) : Int)))
                  have H1' := Lib.hid ((H1.out.below (w' := w5) HW5.out H1.out.lt).other ⟨w.heap.size + 1 + 1 + 1, i + m, none⟩ (by show (w.heap.size + 1) ≠ (w.heap.size + 1 + 1 + 1); omega) (.int .i64 ((bn ((hcv (hof f) (hof g) i).testBit (254 - (i + m)) ^^ hbit (hof g) m) : Nat) : Int)))
                  have H2' := Lib.hid ((H2.out.below (w' := w5) HW5.out H2.out.lt).other ⟨w.heap.size + 1 + 1 + 1, i + m, none⟩ (by show (w.heap.size + 1 + 1) ≠ (w.heap.size + 1 + 1 + 1); omega) (.int .i64 ((bn ((hcv (hof f) (hof g) i).testBit (254 - (i + m)) ^^ hbit (hof g) m) : Nat) : Int)))
                  have H3' := Lib.hid (HI.set (z := fun n => bn (cK (hof f) (hof g) i (m + 1) n)) (H3.out.below (w' := w5) HW5.out H3.out.lt) (i + m) _ (by omega) (congrArg bn (cK_next _ _ _ _)) (fun j _ hj => congrArg bn (cK_far _ _ _ _ _ hj)))
                  have HB' := Lib.hid ((HB.out.trans (Below.mono HW5.out HB.out.size)).setCell (p := ⟨w.heap.size + 1 + 1 + 1, i + m, none⟩) (by simp; omega) (.int .i64 ((bn ((hcv (hof f) (hof g) i).testBit (254 - (i + m)) ^^ hbit (hof g) m) : Nat) : Int)))
                  go_wp2_with fail
                  go_roundw
                  case rel => exact ⟨m + 1, by omega, by go_num, H0', H1', H2', H3', HB'⟩
                  case measure => simp [intOf]; omega
          · obtain rfl : m = 128 := by omega
            have H3' := Lib.hid (H3.out.congr (z := fun n => bn ((hcv (hof f) (hof g) (i + 1)).testBit (254 - n))) fun n hn => by rw [cK_end _ _ _ _ HYL.out hlt (by omega) HBT.out])
            clear H3
            go_wp2_with fail
            go_roundw
            case rel => exact ⟨i + 1, by omega, by go_num, H0, H1, H2, H3', HB⟩
            case measure => simp [intOf]; omega
    · obtain rfl : i = 128 := by omega
      obtain ⟨p, hp⟩ : ∃ p, p = hcv (hof f) (hof g) 128 := ⟨_, rfl⟩
      rw [← hp] at H3
      have HPP := Lib.hid hp; clear hp
      go_wp2_with fail
      go_loopw [8] (fun k wq => ∃ j i' : Nat, j ≤ 127 ∧ j + i' = 254 ∧ k = .int .i64 (i' : Int) ∧ Hid (H16 wq (w.heap.size) f) ∧ Hid (H16 wq (w.heap.size + 1) g) ∧ Hid (H16 wq (w.heap.size + 1 + 1) fun _ => 0) ∧ Hid (HI wq (w.heap.size + 1 + 1 + 1) fun n => bn ((hrd p j).testBit (254 - n))) ∧ Hid (Below w.heap.size w wq)) (fun k _ => (intOf k).toNat)
      case atStart => exact ⟨0, 254, by omega, by omega, rfl, H0, H1, H2, H3, HB⟩
      case round =>
        clear H0 H1 H2 H3 HB
        obtain ⟨j, i, hj, hji, rfl, H0, H1, H2, H3, HB⟩ := hrel
        by_cases hge : 128 ≤ i
        · have hi1 : (128 : Int) ≤ (i : Int) := by omega
          have hi2 : (i : Int) ≤ 254 := by omega
          have hi0 : (0 : Int) ≤ (i : Int) := by omega
          have hi3 : (i : Int) < 255 := by omega
          have c0 := H3.out.cell i (by omega)
          have f0 := H3.out.free i
          rw [show 254 - i = j from by omega] at c0
          have hd1 : IntKind.i64.wrap ((i : Int) - 1) = (i : Int) - 1 := IntWalk.i64_in _ (by omega)
          cases hb : (hrd p j).testBit j
          · rw [hb, show ((bn false : Nat) : Int) = 0 from rfl] at c0
            have H3' := Lib.hid (H3.out.congr (z := fun n => bn ((hrd p (j + 1)).testBit (254 - n))) fun n _ => by rw [hrd_skip p j hb])
            have HBT := Lib.hid hb; clear hb H3
            go_wp2_with fail
            go_roundw
            case rel => exact ⟨j + 1, i - 1, by omega, by omega, val_int (by omega), H0, H1, H2, H3', HB⟩
            case measure => simp [intOf]; omega
          · rw [hb, show ((bn true : Nat) : Int) = 1 from rfl] at c0
            have HBT := Lib.hid hb; clear hb
            go_upto_region 15 with fail
            have H0' := Lib.hid (H0.out.other ⟨w.heap.size + 1 + 1 + 1, i, none⟩ (by show (w.heap.size) ≠ (w.heap.size + 1 + 1 + 1); omega) (.int .i64 ((0 : Nat) : Int)))
            have H1' := Lib.hid (H1.out.other ⟨w.heap.size + 1 + 1 + 1, i, none⟩ (by show (w.heap.size + 1) ≠ (w.heap.size + 1 + 1 + 1); omega) (.int .i64 ((0 : Nat) : Int)))
            have H2' := Lib.hid (H2.out.other ⟨w.heap.size + 1 + 1 + 1, i, none⟩ (by show (w.heap.size + 1 + 1) ≠ (w.heap.size + 1 + 1 + 1); omega) (.int .i64 ((0 : Nat) : Int)))
            have H3' := Lib.hid (HI.set (w := wr) (z := fun n => bn ((hrd p j).testBit (254 - n) ^^ decide (n = i))) H3.out (i) 0 (by omega) (by rw [show 254 - i = j from by omega, HBT.out]; simp [bn]) (fun n _ hn => by rw [decide_eq_false hn, Bool.xor_false]))
            have HB' := Lib.hid (HB.out.setCell (p := ⟨w.heap.size + 1 + 1 + 1, i, none⟩) (by simp; omega) (.int .i64 ((0 : Nat) : Int)))
            clear H0 H1 H2 H3 HB c0 f0
            generalize wr.setCell ⟨w.heap.size + 1 + 1 + 1, i, none⟩ (.int .i64 ((0 : Nat) : Int)) = wa at *
            have H0 := H0'; have H1 := H1'; have H2 := H2'; have H3 := H3'; have HB := HB'
            clear H0' H1' H2' H3' HB'
            obtain ⟨o128, ho⟩ : ∃ o128, o128 + 128 = i := ⟨i - 128, by omega⟩
            have eo : (i : Int) - 128 = (o128 : Int) := by omega
            have eo1 : (o128 : Int) < 255 := by omega
            have eo2 : (0 : Int) ≤ (o128 : Int) := by omega
            have c0 := H3.out.cell o128 (by omega)
            have f0 := H3.out.free o128
            rw [show decide (o128 = i) = false from decide_eq_false (by omega), Bool.xor_false] at c0
            have hx := xor_one ((hrd p j).testBit (254 - o128))
            have HO128 := Lib.hid ho; clear ho
            go_upto_region 16 with fail
            have ho := HO128.out
            have H0' := Lib.hid (H0.out.other ⟨w.heap.size + 1 + 1 + 1, o128, none⟩ (by show (w.heap.size) ≠ (w.heap.size + 1 + 1 + 1); omega) (.int .i64 ((bn (!(hrd p j).testBit (254 - o128)) : Nat) : Int)))
            have H1' := Lib.hid (H1.out.other ⟨w.heap.size + 1 + 1 + 1, o128, none⟩ (by show (w.heap.size + 1) ≠ (w.heap.size + 1 + 1 + 1); omega) (.int .i64 ((bn (!(hrd p j).testBit (254 - o128)) : Nat) : Int)))
            have H2' := Lib.hid (H2.out.other ⟨w.heap.size + 1 + 1 + 1, o128, none⟩ (by show (w.heap.size + 1 + 1) ≠ (w.heap.size + 1 + 1 + 1); omega) (.int .i64 ((bn (!(hrd p j).testBit (254 - o128)) : Nat) : Int)))
            have H3' := Lib.hid (HI.set (w := wa) (z := fun n => bn ((hrd p j).testBit (254 - n) ^^ decide (n = i ∨ n + 128 = i))) H3.out (o128) (bn (!(hrd p j).testBit (254 - o128))) (by omega) (by rw [show decide (o128 = i ∨ o128 + 128 = i) = true from decide_eq_true (by omega), Bool.xor_true]) (fun n _ hn => by rw [show decide (n = i ∨ n + 128 = i) = decide (n = i) from by rw [decide_eq_decide]; omega]))
            have HB' := Lib.hid (HB.out.setCell (p := ⟨w.heap.size + 1 + 1 + 1, o128, none⟩) (by simp; omega) (.int .i64 ((bn (!(hrd p j).testBit (254 - o128)) : Nat) : Int)))
            clear H0 H1 H2 H3 HB c0 f0
            generalize wa.setCell ⟨w.heap.size + 1 + 1 + 1, o128, none⟩ (.int .i64 ((bn (!(hrd p j).testBit (254 - o128)) : Nat) : Int)) = wb at *
            have H0 := H0'; have H1 := H1'; have H2 := H2'; have H3 := H3'; have HB := HB'
            clear H0' H1' H2' H3' HB'
            clear eo eo1 eo2 hx ho
            obtain ⟨o127, ho⟩ : ∃ o127, o127 + 127 = i := ⟨i - 127, by omega⟩
            have eo : (i : Int) - 127 = (o127 : Int) := by omega
            have eo1 : (o127 : Int) < 255 := by omega
            have eo2 : (0 : Int) ≤ (o127 : Int) := by omega
            have c0 := H3.out.cell o127 (by omega)
            have f0 := H3.out.free o127
            rw [show decide (o127 = i ∨ o127 + 128 = i) = false from decide_eq_false (by omega), Bool.xor_false] at c0
            have hx := xor_one ((hrd p j).testBit (254 - o127))
            have HO127 := Lib.hid ho; clear ho
            go_upto_region 17 with fail
            have ho := HO127.out
            have H0' := Lib.hid (H0.out.other ⟨w.heap.size + 1 + 1 + 1, o127, none⟩ (by show (w.heap.size) ≠ (w.heap.size + 1 + 1 + 1); omega) (.int .i64 ((bn (!(hrd p j).testBit (254 - o127)) : Nat) : Int)))
            have H1' := Lib.hid (H1.out.other ⟨w.heap.size + 1 + 1 + 1, o127, none⟩ (by show (w.heap.size + 1) ≠ (w.heap.size + 1 + 1 + 1); omega) (.int .i64 ((bn (!(hrd p j).testBit (254 - o127)) : Nat) : Int)))
            have H2' := Lib.hid (H2.out.other ⟨w.heap.size + 1 + 1 + 1, o127, none⟩ (by show (w.heap.size + 1 + 1) ≠ (w.heap.size + 1 + 1 + 1); omega) (.int .i64 ((bn (!(hrd p j).testBit (254 - o127)) : Nat) : Int)))
            have H3' := Lib.hid (HI.set (w := wb) (z := fun n => bn ((hrd p j).testBit (254 - n) ^^ decide (n = i ∨ n + 128 = i ∨ n + 127 = i))) H3.out (o127) (bn (!(hrd p j).testBit (254 - o127))) (by omega) (by rw [show decide (o127 = i ∨ o127 + 128 = i ∨ o127 + 127 = i) = true from decide_eq_true (by omega), Bool.xor_true]) (fun n _ hn => by rw [show decide (n = i ∨ n + 128 = i ∨ n + 127 = i) = decide (n = i ∨ n + 128 = i) from by rw [decide_eq_decide]; omega]))
            have HB' := Lib.hid (HB.out.setCell (p := ⟨w.heap.size + 1 + 1 + 1, o127, none⟩) (by simp; omega) (.int .i64 ((bn (!(hrd p j).testBit (254 - o127)) : Nat) : Int)))
            clear H0 H1 H2 H3 HB c0 f0
            generalize wb.setCell ⟨w.heap.size + 1 + 1 + 1, o127, none⟩ (.int .i64 ((bn (!(hrd p j).testBit (254 - o127)) : Nat) : Int)) = wc at *
            have H0 := H0'; have H1 := H1'; have H2 := H2'; have H3 := H3'; have HB := HB'
            clear H0' H1' H2' H3' HB'
            clear eo eo1 eo2 hx ho
            obtain ⟨o126, ho⟩ : ∃ o126, o126 + 126 = i := ⟨i - 126, by omega⟩
            have eo : (i : Int) - 126 = (o126 : Int) := by omega
            have eo1 : (o126 : Int) < 255 := by omega
            have eo2 : (0 : Int) ≤ (o126 : Int) := by omega
            have c0 := H3.out.cell o126 (by omega)
            have f0 := H3.out.free o126
            rw [show decide (o126 = i ∨ o126 + 128 = i ∨ o126 + 127 = i) = false from decide_eq_false (by omega), Bool.xor_false] at c0
            have hx := xor_one ((hrd p j).testBit (254 - o126))
            have HO126 := Lib.hid ho; clear ho
            go_upto_region 18 with fail
            have ho := HO126.out
            have H0' := Lib.hid (H0.out.other ⟨w.heap.size + 1 + 1 + 1, o126, none⟩ (by show (w.heap.size) ≠ (w.heap.size + 1 + 1 + 1); omega) (.int .i64 ((bn (!(hrd p j).testBit (254 - o126)) : Nat) : Int)))
            have H1' := Lib.hid (H1.out.other ⟨w.heap.size + 1 + 1 + 1, o126, none⟩ (by show (w.heap.size + 1) ≠ (w.heap.size + 1 + 1 + 1); omega) (.int .i64 ((bn (!(hrd p j).testBit (254 - o126)) : Nat) : Int)))
            have H2' := Lib.hid (H2.out.other ⟨w.heap.size + 1 + 1 + 1, o126, none⟩ (by show (w.heap.size + 1 + 1) ≠ (w.heap.size + 1 + 1 + 1); omega) (.int .i64 ((bn (!(hrd p j).testBit (254 - o126)) : Nat) : Int)))
            have H3' := Lib.hid (HI.set (w := wc) (z := fun n => bn ((hrd p j).testBit (254 - n) ^^ decide (n = i ∨ n + 128 = i ∨ n + 127 = i ∨ n + 126 = i))) H3.out (o126) (bn (!(hrd p j).testBit (254 - o126))) (by omega) (by rw [show decide (o126 = i ∨ o126 + 128 = i ∨ o126 + 127 = i ∨ o126 + 126 = i) = true from decide_eq_true (by omega), Bool.xor_true]) (fun n _ hn => by rw [show decide (n = i ∨ n + 128 = i ∨ n + 127 = i ∨ n + 126 = i) = decide (n = i ∨ n + 128 = i ∨ n + 127 = i) from by rw [decide_eq_decide]; omega]))
            have HB' := Lib.hid (HB.out.setCell (p := ⟨w.heap.size + 1 + 1 + 1, o126, none⟩) (by simp; omega) (.int .i64 ((bn (!(hrd p j).testBit (254 - o126)) : Nat) : Int)))
            clear H0 H1 H2 H3 HB c0 f0
            generalize wc.setCell ⟨w.heap.size + 1 + 1 + 1, o126, none⟩ (.int .i64 ((bn (!(hrd p j).testBit (254 - o126)) : Nat) : Int)) = wd at *
            have H0 := H0'; have H1 := H1'; have H2 := H2'; have H3 := H3'; have HB := HB'
            clear H0' H1' H2' H3' HB'
            clear eo eo1 eo2 hx ho
            obtain ⟨o121, ho⟩ : ∃ o121, o121 + 121 = i := ⟨i - 121, by omega⟩
            have eo : (i : Int) - 121 = (o121 : Int) := by omega
            have eo1 : (o121 : Int) < 255 := by omega
            have eo2 : (0 : Int) ≤ (o121 : Int) := by omega
            have c0 := H3.out.cell o121 (by omega)
            have f0 := H3.out.free o121
            rw [show decide (o121 = i ∨ o121 + 128 = i ∨ o121 + 127 = i ∨ o121 + 126 = i) = false from decide_eq_false (by omega), Bool.xor_false] at c0
            have hx := xor_one ((hrd p j).testBit (254 - o121))
            have HO121 := Lib.hid ho; clear ho
            go_upto_region 12 with fail
            have ho := HO121.out
            have H0' := Lib.hid (H0.out.other ⟨w.heap.size + 1 + 1 + 1, o121, none⟩ (by show (w.heap.size) ≠ (w.heap.size + 1 + 1 + 1); omega) (.int .i64 ((bn (!(hrd p j).testBit (254 - o121)) : Nat) : Int)))
            have H1' := Lib.hid (H1.out.other ⟨w.heap.size + 1 + 1 + 1, o121, none⟩ (by show (w.heap.size + 1) ≠ (w.heap.size + 1 + 1 + 1); omega) (.int .i64 ((bn (!(hrd p j).testBit (254 - o121)) : Nat) : Int)))
            have H2' := Lib.hid (H2.out.other ⟨w.heap.size + 1 + 1 + 1, o121, none⟩ (by show (w.heap.size + 1 + 1) ≠ (w.heap.size + 1 + 1 + 1); omega) (.int .i64 ((bn (!(hrd p j).testBit (254 - o121)) : Nat) : Int)))
            have H3' := Lib.hid (HI.set (w := wd) (z := fun n => bn ((hrd p j).testBit (254 - n) ^^ decide (n = i ∨ n + 128 = i ∨ n + 127 = i ∨ n + 126 = i ∨ n + 121 = i))) H3.out (o121) (bn (!(hrd p j).testBit (254 - o121))) (by omega) (by rw [show decide (o121 = i ∨ o121 + 128 = i ∨ o121 + 127 = i ∨ o121 + 126 = i ∨ o121 + 121 = i) = true from decide_eq_true (by omega), Bool.xor_true]) (fun n _ hn => by rw [show decide (n = i ∨ n + 128 = i ∨ n + 127 = i ∨ n + 126 = i ∨ n + 121 = i) = decide (n = i ∨ n + 128 = i ∨ n + 127 = i ∨ n + 126 = i) from by rw [decide_eq_decide]; omega]))
            have HB' := Lib.hid (HB.out.setCell (p := ⟨w.heap.size + 1 + 1 + 1, o121, none⟩) (by simp; omega) (.int .i64 ((bn (!(hrd p j).testBit (254 - o121)) : Nat) : Int)))
            clear H0 H1 H2 H3 HB c0 f0
            generalize wd.setCell ⟨w.heap.size + 1 + 1 + 1, o121, none⟩ (.int .i64 ((bn (!(hrd p j).testBit (254 - o121)) : Nat) : Int)) = we at *
            have H0 := H0'; have H1 := H1'; have H2 := H2'; have H3 := H3'; have HB := HB'
            clear H0' H1' H2' H3' HB'
            clear eo eo1 eo2 hx ho
            have H3' := Lib.hid (H3.out.congr (z := fun n => bn ((hrd p (j + 1)).testBit (254 - n))) fun n hn => by
              rw [hrd_step p j n (by omega) (by omega) HBT.out]
              congr 2
              rw [decide_eq_decide]
              omega)
            clear H3
            go_wp2_with fail
            go_roundw
            case rel => exact ⟨j + 1, i - 1, by omega, by omega, val_int (by omega), H0, H1, H2, H3', HB⟩
            case measure => simp [intOf]; omega
        · obtain rfl : j = 127 := by omega
          obtain rfl : i = 127 := by omega
          obtain ⟨M, hM⟩ : ∃ M, M = hm (hof f) (hof g) := ⟨_, rfl⟩
          have hpb : ∀ n, n < 128 → (hrd p 127).testBit (254 - n) = hbit M n := fun n hn => by rw [hM, hm_bit _ _ _ hn, ← HPP.out]
          have HPB := Lib.hid hpb; clear hpb
          have HMM := Lib.hid hM; clear hM
          have hzr : H16 (wr.alloc (.cells (aN 16 fun _ => 0) 35)) wr.heap.size fun _ => 0 := H16.newAt rfl
          have H2' := Lib.hid (H2.out.alloc (.cells (aN 16 fun _ => 0) 35))
          have H3' := Lib.hid (H3.out.alloc (.cells (aN 16 fun _ => 0) 35))
          have HB' := Lib.hid (HB.out.alloc HB.out.size (.cells (aN 16 fun _ => 0) 35))
          have hn2 : w.heap.size + 1 + 1 ≠ wr.heap.size := Nat.ne_of_lt H2.out.lt
          have hn3 : w.heap.size + 1 + 1 + 1 ≠ wr.heap.size := Nat.ne_of_lt H3.out.lt
          have hwz : w.heap.size ≤ wr.heap.size := HB.out.size
          have HNE : Hid (w.heap.size + 1 + 1 ≠ wr.heap.size ∧ w.heap.size + 1 + 1 + 1 ≠ wr.heap.size ∧ w.heap.size ≤ wr.heap.size) := Lib.hid ⟨hn2, hn3, hwz⟩
          have HZ := Lib.hid hzr
          clear hzr hn2 hn3 hwz H0 H1 H2 H3 HB
          go_wp2_with fail
          rw [zero16]
          generalize wr.alloc (.cells (aN 16 fun _ => 0) 35) = w0 at *
          generalize wr.heap.size = zb at *
          go_loopw [10] (fun k wq => ∃ i : Nat, i ≤ 128 ∧ k = .int .i64 (i : Int) ∧ Hid (H16 wq zb (zK M i)) ∧ Hid (H16 wq (w.heap.size + 1 + 1) fun _ => 0) ∧ Hid (HI wq (w.heap.size + 1 + 1 + 1) fun n => bn ((hrd p 127).testBit (254 - n))) ∧ Hid (Below w.heap.size w wq)) (fun k _ => 128 - (intOf k).toNat)
          case atStart => exact ⟨0, by omega, rfl, Lib.hid (HZ.out.congr fun q _ => (zK_start M q).symm), H2', H3', HB'⟩
          case round =>
            clear HZ H2' H3' HB'
            obtain ⟨i, hi, rfl, HZ, H2, H3, HB⟩ := hrel
            by_cases hlt : i < 128
            · have hi1 : (i : Int) < 128 := by omega
              have hi0 : (0 : Int) ≤ (i : Int) := by omega
              have hi3 : (i : Int) < 255 := by omega
              obtain ⟨d, hd⟩ : ∃ d, d = i / 8 := ⟨_, rfl⟩
              have hd1 : d < 16 := by omega
              have hdI : (d : Int) < 16 := by omega
              have hd0 : (0 : Int) ≤ (d : Int) := by omega
              have hnx := zK_next M i hlt
              rw [← hd] at hnx
              have hzl := zK_lt M (i + 1) d
              have e1 : IntKind.i64.wrap ((i : Int) / 8) = (d : Int) := (IntWalk.i64_in _ (by omega)).trans (by omega)
              have c0 := HZ.out.cell d hd1
              have f0 := HZ.out.free d
              have c1 := H3.out.cell i (by omega)
              rw [HPB.out i hlt] at c1
              obtain ⟨y, hy⟩ : ∃ y, y = bn (hbit M i) := ⟨_, rfl⟩
              have hy1 : y ≤ 1 := by rw [hy]; exact bn_le _
              have hyx : (if hbit M i then 1 else 0) = y := by rw [hy]; rfl
              rw [hyx] at hnx
              rw [← hy] at c1
              clear hy hyx
              obtain ⟨z, hzv⟩ : ∃ z, z = zK M i d := ⟨_, rfl⟩
              rw [← hzv] at c0 hnx
              clear hzv
              rw [hnx] at hzl
              have HNX := Lib.hid hnx; clear hnx
              have HDD := Lib.hid hd; clear hd
              have s1 : IntKind.u8.wrap (2 * (z : Int)) = 2 * (z : Int) := IntWalk.u8_in _ (by omega)
              have s2 : IntKind.u8.wrap (y : Int) = (y : Int) := IntWalk.u8_in _ (by omega)
              have s3 : IntKind.u8.wrap (2 * (z : Int) + (y : Int)) = ((2 * z + y : Nat) : Int) := (IntWalk.u8_in _ (by omega)).trans (by omega)
              go_upto_region 23 with fail
              go_still_tail 13, (by kernel_rfl)
              change wpList _ _ _ _ _ wr.drew
              have f0' : wr.drew.frozen? ⟨zb, d, none⟩ = false := f0
              have c0' : wr.drew.cell? ⟨zb, d, none⟩ = some (.int .u8 (z : Int)) := c0
              have HZ' := Lib.hid (H16.set (w := wr.drew) (z := zK M (i + 1)) HZ.out d (2 * z + y) hd1 HNX.out (fun q _ hq => zK_far M i q (by have := HDD.out; omega)))
              have H2' := Lib.hid (H16.other (w := wr.drew) H2.out ⟨zb, d, none⟩ HNE.out.1 (.int .u8 ((2 * z + y : Nat) : Int)))
              have H3' := Lib.hid (HI.other (w := wr.drew) H3.out ⟨zb, d, none⟩ HNE.out.2.1 (.int .u8 ((2 * z + y : Nat) : Int)))
              have HB' := Lib.hid (HB.out.drew.setCell (p := ⟨zb, d, none⟩) HNE.out.2.2 (.int .u8 ((2 * z + y : Nat) : Int)))
              clear HZ H2 H3 HB c0 f0 c1

              go_wp2_with fail
              go_roundw
              case rel => exact ⟨i + 1, by omega, by go_num, HZ', H2', H3', HB'⟩
              case measure => simp [intOf]; omega
            · obtain rfl : i = 128 := by omega
              have d9 : wr.heap[zb]? = some (.cells (aN 16 (hby M)) 35 (0, 0)) := HZ.out.congr fun q hq => zK_end M q hq
              have d4 : wr.heap[w.heap.size + 1 + 1]? = some (.cells (aN 16 fun _ => 0) 35 (0, 0)) := H2.out
              go_wp2_with (first
                | (refine wpList_load_row rfl 35 (.tmp 9) rfl zb rfl 35 (aN 16 (hby M)) (0, 0) (.array 16 5) d9 Try.underlying35 rfl (by rw [aN_size]; kernel_rfl) ?_)
                | (refine wpList_store_row rfl 35 (.tmp 4) (.tmp 95) rfl (w.heap.size + 1 + 1) (aN 16 (hby M)) rfl rfl 35 _ d4 (by rw [aN_size]; kernel_rfl) (by simp only [aN_size]) (aN_one _ _) ?_))
              refine bodyPost_ret (v := .agg (aN 16 (hby M))) (results_cell_row (p := 4) (ty := 35) (by kernel_rfl) _ _ (w.heap.size + 1 + 1) 35 (aN 16 (hby M)) (0, 0) (.array 16 5) rfl ?_ Try.underlying35 rfl (by rw [aN_size]; kernel_rfl)) rfl ⟨by rw [HMM.out], ?_⟩
              · exact setRow_heap _ _ _ _ _ _ d4
              · exact below_row HB.out _ (by omega) _
end Go.Proofs.Ytkfmgjipocmkjaa
