/-
  The code's product of two elements. (Printed by wip/gen/ghmulcode.py.)
-/
import Derived.Test.YtojdhcbfjiojdaaGhU
import Derived.Test.YtojdhcbfjiojdaaRowS
import Derived.Deep.DeepCutAuto
namespace Go.Proofs.Ytojdhcbfjiojdaa
open Go Go.RowKit
set_option linter.unusedVariables false
set_option linter.unusedSimpArgs false

theorem mul_keep {w w1 w' : World} {a b c : Nat} {f g : Nat → Nat} {B0 : Nat} (hb : Below w1.heap.size w1 w') (h : w1.rangeAt a 0 (vl 16 f) ∧ w1.rangeAt b 0 (vl 16 g) ∧ w1.there c 0 16 ∧ Below B0 w w1) (hB : B0 ≤ w1.heap.size) :
    w'.rangeAt a 0 (vl 16 f) ∧ w'.rangeAt b 0 (vl 16 g) ∧ w'.there c 0 16 ∧ Below B0 w w' :=
  ⟨range_callw hb h.1, range_callw hb h.2.1, there_callw hb h.2.2.1, h.2.2.2.trans (hb.mono hB)⟩
theorem mul_store {w w1 : World} {a b c : Nat} {f g : Nat → Nat} {B0 : Nat} (vs : List Value) (ha : a ≠ c) (hb : b ≠ c) (hc : B0 ≤ c) (h : w1.rangeAt a 0 (vl 16 f) ∧ w1.rangeAt b 0 (vl 16 g) ∧ w1.there c 0 16 ∧ Below B0 w w1) :
    (w1.setCells c 0 vs).rangeAt a 0 (vl 16 f) ∧ (w1.setCells c 0 vs).rangeAt b 0 (vl 16 g) ∧ (w1.setCells c 0 vs).there c 0 16 ∧ Below B0 w (w1.setCells c 0 vs) :=
  ⟨World.rangeAt_setCells_apart h.1 _ _ _ (.inl ha), World.rangeAt_setCells_apart h.2.1 _ _ _ (.inl hb), World.there_setCells h.2.2.1 _ _ _, below_store h.2.2.2 hc _ 0⟩

set_option maxRecDepth 100000 in
set_option maxHeartbeats 2000000 in
theorem cmul_any (f g : Nat → Nat) (w : World) (hf : B16 f) (hg : B16 g) :
    Calls Try.prog 8 #[.agg (aN 16 f), .agg (aN 16 g)] w fun e w' => e = .returned (.agg (aN 16 (hby (hm (hof f) (hof g))))) ∧ Below w.heap.size w w' := by
  have HF := Lib.hid hf; clear hf
  have HG := Lib.hid hg; clear hg
  have H2 : Hid (H16 (((w.alloc (.cells (aN 16 f) 22)).alloc (.cells (aN 16 g) 22)).alloc (.cells (aN 16 fun _ => 0) 22)) w.heap.size f) := Lib.hid (H16.alloc _ (H16.alloc _ (H16.newAt rfl)))
  have H3 : Hid (H16 (((w.alloc (.cells (aN 16 f) 22)).alloc (.cells (aN 16 g) 22)).alloc (.cells (aN 16 fun _ => 0) 22)) (w.heap.size + 1) g) := Lib.hid (H16.alloc _ (H16.newAt (w := w.alloc (.cells (aN 16 f) 22)) (by rw [World.size_alloc])))
  have H4 : Hid (H16 (((w.alloc (.cells (aN 16 f) 22)).alloc (.cells (aN 16 g) 22)).alloc (.cells (aN 16 fun _ => 0) 22)) (w.heap.size + 1 + 1) fun _ => 0) := Lib.hid (H16.newAt (w := (w.alloc (.cells (aN 16 f) 22)).alloc (.cells (aN 16 g) 22)) (by rw [World.size_alloc, World.size_alloc]))
  have HB : Hid (Below w.heap.size w (((w.alloc (.cells (aN 16 f) 22)).alloc (.cells (aN 16 g) 22)).alloc (.cells (aN 16 fun _ => 0) 22))) := Lib.hid ((((Below.refl _ _).alloc (Nat.le_refl _) _).alloc (by simp) _).alloc (by simp; omega) _)
  go_enter Try.func8, Try.ntmps8
  go_upto_region 1 with fail
  rw [zero16]
  generalize ((w.alloc (.cells (aN 16 f) 22)).alloc (.cells (aN 16 g) 22)).alloc (.cells (aN 16 fun _ => 0) 22) = w1 at *
  refine wp_region_noPanic ?_
  refine wp_region_held_drew (S := (fun w' => w'.rangeAt w.heap.size 0 (vl 16 f) ∧ w'.rangeAt (w.heap.size + 1) 0 (vl 16 g) ∧ w'.there (w.heap.size + 1 + 1) 0 16 ∧ Below w.heap.size w w')) (by kernel_rfl) ?_ (fun hHeld => ?_)
  · exact ⟨row16_range H2.out, row16_range H3.out, H4.out.there, HB.out.drew⟩
  refine wpAnyH_take (i := 0) rfl (by kernel_rfl) (by kernel_rfl) (by kernel_rfl) (fun _ _ _ h => h) (yieldsIf_load_mid (by rfl) 22 (.tmp 2) rfl (w.heap.size) (0) rfl (vl 16 f) (.array 16 5) (fun _ h => h.1) Try.underlying22 rfl (by rw [vl_len]; exact blk_size)) hHeld ?_
  try simp only [Act.put, List.getElem_toArray, List.getElem_cons_zero, List.getElem_cons_succ, List.setIfInBounds_toArray, List.set_cons_zero, List.set_cons_succ]
  refine wpAnyH_take (i := 2) rfl (by kernel_rfl) (by kernel_rfl) (by kernel_rfl) (fun _ _ _ h => h) (yieldsIf_load_mid (by rfl) 22 (.tmp 3) rfl (w.heap.size + 1) (0) rfl (vl 16 g) (.array 16 5) (fun _ h => h.2.1) Try.underlying22 rfl (by rw [vl_len]; exact blk_size)) hHeld ?_
  try simp only [Act.put, List.getElem_toArray, List.getElem_cons_zero, List.getElem_cons_succ, List.setIfInBounds_toArray, List.set_cons_zero, List.set_cons_succ]
  refine wpAnyH_ready (rs := [1]) (by kernel_rfl) (by simp) ?_
  refine AllReadyH.cons rfl (fun K hK => ?_) (AllReadyH.nil)
  · try simp only [List.getElem_toArray, List.getElem_cons_zero, List.getElem_cons_succ]
    go_simp
    refine (gwords_any f _ HF.out).mono ?_
    rintro e wa ⟨rfl, hbwa⟩
    refine hK.out _ _ ?_ (fun hHeld => ?_)
    · exact mul_keep hbwa hHeld hHeld.2.2.2.size
    clear hK K
    try simp only [Act.put, List.getElem_toArray, List.getElem_cons_zero, List.getElem_cons_succ, List.setIfInBounds_toArray, List.set_cons_zero, List.set_cons_succ]
    refine wpAnyH_ready (rs := [3]) (by kernel_rfl) (by simp) ?_
    refine AllReadyH.cons rfl (fun K hK => ?_) (AllReadyH.nil)
    · try simp only [List.getElem_toArray, List.getElem_cons_zero, List.getElem_cons_succ]
      go_simp
      refine (gwords_any g _ HG.out).mono ?_
      rintro e wb ⟨rfl, hbwb⟩
      refine hK.out _ _ ?_ (fun hHeld => ?_)
      · exact mul_keep hbwb hHeld hHeld.2.2.2.size
      clear hK K
      try simp only [Act.put, List.getElem_toArray, List.getElem_cons_zero, List.getElem_cons_succ, List.setIfInBounds_toArray, List.set_cons_zero, List.set_cons_succ]
      refine wpAnyH_ready (rs := [4]) (by kernel_rfl) (by simp) ?_
      refine AllReadyH.cons rfl (fun K hK => ?_) (AllReadyH.nil)
      · try simp only [List.getElem_toArray, List.getElem_cons_zero, List.getElem_cons_succ]
        go_simp
        refine (gtimes_any (hof f) (hof g) _ (hof_lt f HF.out) (hof_lt g HG.out)).mono ?_
        rintro e wc ⟨rfl, hbwc⟩
        refine hK.out _ _ ?_ (fun hHeld => ?_)
        · exact mul_keep hbwc hHeld hHeld.2.2.2.size
        clear hK K
        try simp only [Act.put, List.getElem_toArray, List.getElem_cons_zero, List.getElem_cons_succ, List.setIfInBounds_toArray, List.set_cons_zero, List.set_cons_succ]
        refine wpAnyH_ready (rs := [5]) (by kernel_rfl) (by simp) ?_
        refine AllReadyH.cons rfl (fun K hK => ?_) (AllReadyH.nil)
        · try simp only [List.getElem_toArray, List.getElem_cons_zero, List.getElem_cons_succ]
          go_simp
          refine (gbytes_any (hm (hof f) (hof g)) _ (hm_lt _ _ (hof_lt g HG.out))).mono ?_
          rintro e wd ⟨rfl, hbwd⟩
          rw [aN_vl 16 (hby (hm (hof f) (hof g)))]
          refine hK.out _ _ ?_ (fun hHeld => ?_)
          · exact mul_keep hbwd hHeld hHeld.2.2.2.size
          clear hK K
          try simp only [Act.put, List.getElem_toArray, List.getElem_cons_zero, List.getElem_cons_succ, List.setIfInBounds_toArray, List.set_cons_zero, List.set_cons_succ]
          refine wpAnyH_ready (rs := [6]) (by kernel_rfl) (by simp) ?_
          refine AllReadyH.cons rfl (fun K hK => ?_) (AllReadyH.nil)
          · try simp only [List.getElem_toArray, List.getElem_cons_zero, List.getElem_cons_succ]
            rw [if_pos (by rfl)]
            refine wp_store_mid 22 (.tmp 4) (.tmp 10) rfl (w.heap.size + 1 + 1) (0) (vl 16 (hby (hm (hof f) (hof g)))).toArray rfl rfl hHeld.2.2.1 (by rw [List.size_toArray, vl_len]; exact blk_size) (all_oneCell_toArray (vl_one _ _)) ?_
            simp only [Act.put, List.getElem_toArray, List.getElem_cons_zero, List.getElem_cons_succ, List.setIfInBounds_toArray, List.set_cons_zero, List.set_cons_succ, List.toList_toArray]
            refine hK.out _ _ ?_ (fun hHeld => ?_)
            · exact mul_store _ (by omega) (by omega) (by omega) hHeld
            clear hK K
            try simp only [Act.put, List.getElem_toArray, List.getElem_cons_zero, List.getElem_cons_succ, List.setIfInBounds_toArray, List.set_cons_zero, List.set_cons_succ]
            refine wpAnyH_done (by kernel_rfl) ?_ _
            refine NoPanic.normal ?_
            have H4' : H16 (wd.setCells (w.heap.size + 1 + 1) 0 (vl 16 (hby (hm (hof f) (hof g))))) (w.heap.size + 1 + 1) (hby (hm (hof f) (hof g))) := H16.store (((((H4.out : H16 w1.drew _ _).call hbwa).call hbwb).call hbwc).call hbwd) _
            have HB' := hHeld.2.2.2
            clear hHeld H2 H3 H4 HB hbwa hbwb hbwc hbwd
            generalize wd.setCells (w.heap.size + 1 + 1) 0 (vl 16 (hby (hm (hof f) (hof g)))) = wz at *
            go_wp2_with fail
            exact bodyPost_ret (blk_ret (p := 4) (by kernel_rfl) _ _ (w.heap.size + 1 + 1) _ rfl H4') rfl ⟨rfl, HB'⟩
end Go.Proofs.Ytojdhcbfjiojdaa
