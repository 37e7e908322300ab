/-
  The next counter block has another number and the same twelve bytes ahead; unlike ones have unlike next ones: CtrRound, for every input.
-/
import Derived.Test.YtfgigoheaoanpaaLaw
import Derived.Test.YtfgigoheaoanpaaCtrL
import Derived.Test.YtfgigoheaoanpaaEqB
namespace Go.Proofs.Ytfgigoheaoanpaa
open Go Go.RowKit Go.ChangeShapes Go.WideShapes Go.ChangeAt
set_option linter.unusedVariables false
set_option linter.unusedSimpArgs false

set_option maxRecDepth 100000 in
set_option maxHeartbeats 20000000 in
theorem kround_any (f g : Nat → Nat) (w : World) (hf : ∀ i, i < 16 → f i < 256) (hg : ∀ i, i < 16 → g i < 256) :
    Calls Try.prog 6 #[.agg (aN 16 f), .agg (aN 16 g)] w fun e w' => e = .returned (.bool true) ∧ Below w.heap.size w w' := by
  have HF : Hid (B16 f) := Lib.hid hf; clear hf
  have HG : Hid (B16 g) := Lib.hid hg; clear hg
  have X2 : Hid (H16 ((w.alloc (.cells (aN 16 f) 23)).alloc (.cells (aN 16 g) 23)) w.heap.size f) := Lib.hid (H16.alloc _ (H16.newAt rfl))
  have X3 : Hid (H16 ((w.alloc (.cells (aN 16 f) 23)).alloc (.cells (aN 16 g) 23)) (w.heap.size + 1) g) := Lib.hid (H16.newAt (w := w.alloc (.cells (aN 16 f) 23)) (by rw [World.size_alloc]))
  have HB : Hid (Below w.heap.size w ((w.alloc (.cells (aN 16 f) 23)).alloc (.cells (aN 16 g) 23))) := Lib.hid (((Below.refl _ _).alloc (Nat.le_refl _) _).alloc (by simp) _)
  go_enter Try.func6, Try.ntmps6
  go_upto_region 1 with fail
  generalize ((w.alloc (.cells (aN 16 f) 23)).alloc (.cells (aN 16 g) 23)) = u1 at *
  obtain ⟨c3, hc3⟩ : ∃ c3, c3 = w.heap.size + 1 := ⟨_, rfl⟩
  rw [← hc3] at X3
  rw [← hc3]
  clear hc3
  obtain ⟨c2, hc2⟩ : ∃ c2, c2 = w.heap.size := ⟨_, rfl⟩
  rw [← hc2] at X2
  rw [← hc2]
  clear hc2
  obtain ⟨x, hx⟩ : ∃ F : Nat → Nat, F = nxF f := ⟨_, rfl⟩
  obtain ⟨y, hy⟩ : ∃ F : Nat → Nat, F = nxF g := ⟨_, rfl⟩
  have Cx : Hid (∀ w : World, Calls Try.prog 10 #[.agg (aN 16 f)] w fun e w' => e = .returned (.agg (aN 16 x)) ∧ Below w.heap.size w w') := Lib.hid fun w => by rw [hx]; exact cnext_any f w HF.out
  have Cy : Hid (∀ w : World, Calls Try.prog 10 #[.agg (aN 16 g)] w fun e w' => e = .returned (.agg (aN 16 y)) ∧ Below w.heap.size w w') := Lib.hid fun w => by rw [hy]; exact cnext_any g w HG.out
  have q1 := eqv12 x f true (by rw [hx]; exact sameB12_true fun i hi => nxF_first f i hi)
  have q2 := eqv x f false (by rw [hx]; exact nxF_ne f HF.out)
  obtain ⟨s, hs⟩ : ∃ s, s = sameB f g := ⟨_, rfl⟩
  have q3 := eqv x y s (by rw [hx, hy, hs]; exact nxF_inj f g HF.out HG.out)
  have q4 := eqv f g s hs.symm
  have hg16 := guard16
  have hg12 := guard12
  have qa := fun (b : Nat) (w : World) => run_arrayAt (P := Try.prog) (w := w) 39 5 12 (some ⟨b, 0, none⟩) 12 16 Try.underlying39 (by omega)
  clear hx hy hs
  go_cut [5, 6] (fun s5 s6 wx => ∃ b5 b6 : Nat, s5 = .pointer (some ⟨b5, 0, none⟩) ∧ s6 = .pointer (some ⟨b6, 0, none⟩) ∧ Hid (H16 wx b5 (x)) ∧ Hid (H16 wx b6 (y)) ∧ Hid (Below u1.heap.size u1 wx))
  case first =>
    refine wp_region_noPanic ?_
    refine wp_region_held_drew (S := (fun w' => w'.rangeAt (c2) 0 (vl 16 (f)) ∧ w'.rangeAt (c3) 0 (vl 16 (g)) ∧ Below u1.heap.size u1 w')) (by kernel_rfl) ?_ (fun hHeld => ?_)
    · exact ⟨range_kept ((Below.refl u1.heap.size u1).drew) (row16_range X2.out), range_kept ((Below.refl u1.heap.size u1).drew) (row16_range X3.out), (Below.refl u1.heap.size u1).drew⟩
    have hs2 : Below u1.heap.size u1 u1.drew := (Below.refl u1.heap.size u1).drew
    generalize u1.drew = ws1 at *
    refine wpAnyH_take (i := 0) rfl (by kernel_rfl) (by kernel_rfl) (by kernel_rfl) (fun _ _ _ h => h) (yieldsIf_load_mid (by rfl) 23 (.tmp 2) rfl (c2) (0) rfl (vl 16 (f)) (.array 16 5) (fun _ h => h.1) Try.underlying23 rfl (vln _)) hHeld ?_
    try simp only [Act.put, zq1, zq2, zq3, zq4, zq5, zq6]
    refine wpAnyH_take (i := 2) rfl (by kernel_rfl) (by kernel_rfl) (by kernel_rfl) (fun _ _ _ h => h) (yieldsIf_load_mid (by rfl) 23 (.tmp 3) rfl (c3) (0) rfl (vl 16 (g)) (.array 16 5) (fun _ h => h.2.1) Try.underlying23 rfl (vln _)) hHeld ?_
    try simp only [Act.put, zq1, zq2, zq3, zq4, zq5, zq6]
    refine wpAnyH_ready (rs := [1, 4, 5]) (by kernel_rfl) (by simp) ?_
    refine AllReadyH.cons rfl (fun K hK => ?_) (AllReadyH.cons rfl (fun K hK => ?_) (AllReadyH.cons rfl (fun K hK => ?_) (AllReadyH.nil)))
    · try simp only [zq1, zq2, zq3]
      go_simp
      refine (Cx.out _).mono ?_
      rintro e w3 ⟨rfl, hb4⟩
      rw [aN_vl 16 (x)]
      have hw5 : Below u1.heap.size u1 w3 := hs2.trans (hb4.mono hs2.size)
      refine hK.out _ _ ?_ (fun hHeld => ?_)
      · exact ⟨range_kept (hw5) (row16_range X2.out), range_kept (hw5) (row16_range X3.out), hw5⟩
      clear hK K
      try simp only [Act.put, zq1, zq2, zq3, zq4, zq5, zq6]
      clear hb4
      refine wpAnyH_ready (rs := [3, 4, 5]) (by kernel_rfl) (by simp) ?_
      refine AllReadyH.cons rfl (fun K hK => ?_) (AllReadyH.cons rfl (fun K hK => ?_) (AllReadyH.cons rfl (fun K hK => ?_) (AllReadyH.nil)))
      · try simp only [zq1, zq2, zq3]
        go_simp
        refine (Cy.out _).mono ?_
        rintro e w6 ⟨rfl, hb7⟩
        rw [aN_vl 16 (y)]
        have hw8 : Below u1.heap.size u1 w6 := hw5.trans (hb7.mono hw5.size)
        refine hK.out _ _ ?_ (fun hHeld => ?_)
        · exact ⟨range_kept (hw8) (row16_range X2.out), range_kept (hw8) (row16_range X3.out), hw8⟩
        clear hK K
        try simp only [Act.put, zq1, zq2, zq3, zq4, zq5, zq6]
        clear hb7
        refine wpAnyH_ready (rs := [4, 5]) (by kernel_rfl) (by simp) ?_
        refine AllReadyH.cons rfl (fun K hK => ?_) (AllReadyH.cons rfl (fun K hK => ?_) (AllReadyH.nil))
        · try simp only [zq1, zq2, zq3]
          go_simp
          have hw10 : Below u1.heap.size u1 (w6.alloc zO) := hw8.alloc hw8.size _
          have hz11 : H16 (w6.alloc zO) w6.heap.size fun _ => 0 := new_h w6
          have hl13 : u1.heap.size ≤ w6.heap.size := hw8.size
          refine hK.out _ _ ?_ (fun hHeld => ?_)
          · exact ⟨range_kept (hw10) (row16_range X2.out), range_kept (hw10) (row16_range X3.out), hw10⟩
          clear hK K
          try simp only [Act.put, zq1, zq2, zq3, zq4, zq5, zq6]
          generalize w6.alloc zO = w9 at *
          generalize w6.heap.size = b12 at *
          refine wpAnyH_ready (rs := [5]) (by kernel_rfl) (by simp) ?_
          refine AllReadyH.cons rfl (fun K hK => ?_) (AllReadyH.nil)
          try simp only [zq1, zq2, zq3]
          go_simp
          have hw15 : Below u1.heap.size u1 (w9.alloc zO) := hw10.alloc hw10.size _
          have hz16 : H16 (w9.alloc zO) w9.heap.size fun _ => 0 := new_h w9
          have hl18 : u1.heap.size ≤ w9.heap.size := hw10.size
          have hz19 := H16.alloc zO hz11
          have hne20 : b12 < w9.heap.size := hz11.lt
          refine hK.out _ _ ?_ (fun hHeld => ?_)
          · exact ⟨range_kept (hw15) (row16_range X2.out), range_kept (hw15) (row16_range X3.out), hw15⟩
          clear hK K
          try simp only [Act.put, zq1, zq2, zq3, zq4, zq5, zq6]
          generalize w9.alloc zO = w14 at *
          generalize w9.heap.size = b17 at *
          refine wpAnyH_ready (rs := [6]) (by kernel_rfl) (by simp) ?_
          refine AllReadyH.cons rfl (fun K hK => ?_) (AllReadyH.nil)
          try simp only [zq1, zq2, zq3]
          rw [if_pos (by rfl)]
          refine wp_store_mid 23 (.tmp 5) (.tmp 8) rfl (b12) (0) (vl 16 (x)).toArray rfl rfl (H16.there hz19) (vsz _) (von _) ?_
          simp only [Act.put, zq1, zq2, zq3, zq4, zq5, zq6, List.toList_toArray]
          have hw22 : Below u1.heap.size u1 (w14.setCells b12 0 (vl 16 (x))) := below_store hw15 (by omega) _ 0
          have hz23 : H16 (w14.setCells b12 0 (vl 16 (x))) b12 (x) := H16.store hz19 _
          have hz24 : H16 (w14.setCells b12 0 (vl 16 (x))) b17 _ := H16.storeOther hz16 (by omega) _
          refine hK.out _ _ ?_ (fun hHeld => ?_)
          · exact ⟨range_kept (hw22) (row16_range X2.out), range_kept (hw22) (row16_range X3.out), hw22⟩
          clear hK K
          try simp only [Act.put, zq1, zq2, zq3, zq4, zq5, zq6]
          generalize w14.setCells b12 0 (vl 16 (x)) = w21 at *
          refine wpAnyH_ready (rs := [7]) (by kernel_rfl) (by simp) ?_
          refine AllReadyH.cons rfl (fun K hK => ?_) (AllReadyH.nil)
          try simp only [zq1, zq2, zq3]
          rw [if_pos (by rfl)]
          refine wp_store_mid 23 (.tmp 6) (.tmp 10) rfl (b17) (0) (vl 16 (y)).toArray rfl rfl (H16.there hz24) (vsz _) (von _) ?_
          simp only [Act.put, zq1, zq2, zq3, zq4, zq5, zq6, List.toList_toArray]
          have hw26 : Below u1.heap.size u1 (w21.setCells b17 0 (vl 16 (y))) := below_store hw22 (by omega) _ 0
          have hz27 : H16 (w21.setCells b17 0 (vl 16 (y))) b17 (y) := H16.store hz24 _
          have hz28 : H16 (w21.setCells b17 0 (vl 16 (y))) b12 _ := H16.storeOther hz23 (by omega) _
          refine hK.out _ _ ?_ (fun hHeld => ?_)
          · exact ⟨range_kept (hw26) (row16_range X2.out), range_kept (hw26) (row16_range X3.out), hw26⟩
          clear hK K
          try simp only [Act.put, zq1, zq2, zq3, zq4, zq5, zq6]
          generalize w21.setCells b17 0 (vl 16 (y)) = w25 at *
          refine wpAnyH_done (by kernel_rfl) ?_ _
          refine NoPanic.normal ?_
          go_wp2_with fail
          go_meet
          refine ⟨_, _, rfl, rfl, Lib.hid hz28, Lib.hid hz27, Lib.hid hw26⟩
        · try simp only [zq1, zq2, zq3]
          go_simp
          have hw30 : Below u1.heap.size u1 (w6.alloc zO) := hw8.alloc hw8.size _
          have hz31 : H16 (w6.alloc zO) w6.heap.size fun _ => 0 := new_h w6
          have hl33 : u1.heap.size ≤ w6.heap.size := hw8.size
          refine hK.out _ _ ?_ (fun hHeld => ?_)
          · exact ⟨range_kept (hw30) (row16_range X2.out), range_kept (hw30) (row16_range X3.out), hw30⟩
          clear hK K
          try simp only [Act.put, zq1, zq2, zq3, zq4, zq5, zq6]
          generalize w6.alloc zO = w29 at *
          generalize w6.heap.size = b32 at *
          refine wpAnyH_ready (rs := [4]) (by kernel_rfl) (by simp) ?_
          refine AllReadyH.cons rfl (fun K hK => ?_) (AllReadyH.nil)
          try simp only [zq1, zq2, zq3]
          go_simp
          have hw35 : Below u1.heap.size u1 (w29.alloc zO) := hw30.alloc hw30.size _
          have hz36 : H16 (w29.alloc zO) w29.heap.size fun _ => 0 := new_h w29
          have hl38 : u1.heap.size ≤ w29.heap.size := hw30.size
          have hz39 := H16.alloc zO hz31
          have hne40 : b32 < w29.heap.size := hz31.lt
          refine hK.out _ _ ?_ (fun hHeld => ?_)
          · exact ⟨range_kept (hw35) (row16_range X2.out), range_kept (hw35) (row16_range X3.out), hw35⟩
          clear hK K
          try simp only [Act.put, zq1, zq2, zq3, zq4, zq5, zq6]
          generalize w29.alloc zO = w34 at *
          generalize w29.heap.size = b37 at *
          refine wpAnyH_ready (rs := [6]) (by kernel_rfl) (by simp) ?_
          refine AllReadyH.cons rfl (fun K hK => ?_) (AllReadyH.nil)
          try simp only [zq1, zq2, zq3]
          rw [if_pos (by rfl)]
          refine wp_store_mid 23 (.tmp 5) (.tmp 8) rfl (b37) (0) (vl 16 (x)).toArray rfl rfl (H16.there hz36) (vsz _) (von _) ?_
          simp only [Act.put, zq1, zq2, zq3, zq4, zq5, zq6, List.toList_toArray]
          have hw42 : Below u1.heap.size u1 (w34.setCells b37 0 (vl 16 (x))) := below_store hw35 (by omega) _ 0
          have hz43 : H16 (w34.setCells b37 0 (vl 16 (x))) b37 (x) := H16.store hz36 _
          have hz44 : H16 (w34.setCells b37 0 (vl 16 (x))) b32 _ := H16.storeOther hz39 (by omega) _
          refine hK.out _ _ ?_ (fun hHeld => ?_)
          · exact ⟨range_kept (hw42) (row16_range X2.out), range_kept (hw42) (row16_range X3.out), hw42⟩
          clear hK K
          try simp only [Act.put, zq1, zq2, zq3, zq4, zq5, zq6]
          generalize w34.setCells b37 0 (vl 16 (x)) = w41 at *
          refine wpAnyH_ready (rs := [7]) (by kernel_rfl) (by simp) ?_
          refine AllReadyH.cons rfl (fun K hK => ?_) (AllReadyH.nil)
          try simp only [zq1, zq2, zq3]
          rw [if_pos (by rfl)]
          refine wp_store_mid 23 (.tmp 6) (.tmp 10) rfl (b32) (0) (vl 16 (y)).toArray rfl rfl (H16.there hz44) (vsz _) (von _) ?_
          simp only [Act.put, zq1, zq2, zq3, zq4, zq5, zq6, List.toList_toArray]
          have hw46 : Below u1.heap.size u1 (w41.setCells b32 0 (vl 16 (y))) := below_store hw42 (by omega) _ 0
          have hz47 : H16 (w41.setCells b32 0 (vl 16 (y))) b32 (y) := H16.store hz44 _
          have hz48 : H16 (w41.setCells b32 0 (vl 16 (y))) b37 _ := H16.storeOther hz43 (by omega) _
          refine hK.out _ _ ?_ (fun hHeld => ?_)
          · exact ⟨range_kept (hw46) (row16_range X2.out), range_kept (hw46) (row16_range X3.out), hw46⟩
          clear hK K
          try simp only [Act.put, zq1, zq2, zq3, zq4, zq5, zq6]
          generalize w41.setCells b32 0 (vl 16 (y)) = w45 at *
          refine wpAnyH_done (by kernel_rfl) ?_ _
          refine NoPanic.normal ?_
          go_wp2_with fail
          go_meet
          refine ⟨_, _, rfl, rfl, Lib.hid hz48, Lib.hid hz47, Lib.hid hw46⟩
      · try simp only [zq1, zq2, zq3]
        go_simp
        have hw50 : Below u1.heap.size u1 (w3.alloc zO) := hw5.alloc hw5.size _
        have hz51 : H16 (w3.alloc zO) w3.heap.size fun _ => 0 := new_h w3
        have hl53 : u1.heap.size ≤ w3.heap.size := hw5.size
        refine hK.out _ _ ?_ (fun hHeld => ?_)
        · exact ⟨range_kept (hw50) (row16_range X2.out), range_kept (hw50) (row16_range X3.out), hw50⟩
        clear hK K
        try simp only [Act.put, zq1, zq2, zq3, zq4, zq5, zq6]
        generalize w3.alloc zO = w49 at *
        generalize w3.heap.size = b52 at *
        refine wpAnyH_ready (rs := [3, 5]) (by kernel_rfl) (by simp) ?_
        refine AllReadyH.cons rfl (fun K hK => ?_) (AllReadyH.cons rfl (fun K hK => ?_) (AllReadyH.nil))
        · try simp only [zq1, zq2, zq3]
          go_simp
          refine (Cy.out _).mono ?_
          rintro e w54 ⟨rfl, hb55⟩
          rw [aN_vl 16 (y)]
          have hw56 : Below u1.heap.size u1 w54 := hw50.trans (hb55.mono hw50.size)
          have hz57 := H16.call hb55 hz51
          refine hK.out _ _ ?_ (fun hHeld => ?_)
          · exact ⟨range_kept (hw56) (row16_range X2.out), range_kept (hw56) (row16_range X3.out), hw56⟩
          clear hK K
          try simp only [Act.put, zq1, zq2, zq3, zq4, zq5, zq6]
          clear hb55
          refine wpAnyH_ready (rs := [5]) (by kernel_rfl) (by simp) ?_
          refine AllReadyH.cons rfl (fun K hK => ?_) (AllReadyH.nil)
          try simp only [zq1, zq2, zq3]
          go_simp
          have hw59 : Below u1.heap.size u1 (w54.alloc zO) := hw56.alloc hw56.size _
          have hz60 : H16 (w54.alloc zO) w54.heap.size fun _ => 0 := new_h w54
          have hl62 : u1.heap.size ≤ w54.heap.size := hw56.size
          have hz63 := H16.alloc zO hz57
          have hne64 : b52 < w54.heap.size := hz57.lt
          refine hK.out _ _ ?_ (fun hHeld => ?_)
          · exact ⟨range_kept (hw59) (row16_range X2.out), range_kept (hw59) (row16_range X3.out), hw59⟩
          clear hK K
          try simp only [Act.put, zq1, zq2, zq3, zq4, zq5, zq6]
          generalize w54.alloc zO = w58 at *
          generalize w54.heap.size = b61 at *
          refine wpAnyH_ready (rs := [6]) (by kernel_rfl) (by simp) ?_
          refine AllReadyH.cons rfl (fun K hK => ?_) (AllReadyH.nil)
          try simp only [zq1, zq2, zq3]
          rw [if_pos (by rfl)]
          refine wp_store_mid 23 (.tmp 5) (.tmp 8) rfl (b52) (0) (vl 16 (x)).toArray rfl rfl (H16.there hz63) (vsz _) (von _) ?_
          simp only [Act.put, zq1, zq2, zq3, zq4, zq5, zq6, List.toList_toArray]
          have hw66 : Below u1.heap.size u1 (w58.setCells b52 0 (vl 16 (x))) := below_store hw59 (by omega) _ 0
          have hz67 : H16 (w58.setCells b52 0 (vl 16 (x))) b52 (x) := H16.store hz63 _
          have hz68 : H16 (w58.setCells b52 0 (vl 16 (x))) b61 _ := H16.storeOther hz60 (by omega) _
          refine hK.out _ _ ?_ (fun hHeld => ?_)
          · exact ⟨range_kept (hw66) (row16_range X2.out), range_kept (hw66) (row16_range X3.out), hw66⟩
          clear hK K
          try simp only [Act.put, zq1, zq2, zq3, zq4, zq5, zq6]
          generalize w58.setCells b52 0 (vl 16 (x)) = w65 at *
          refine wpAnyH_ready (rs := [7]) (by kernel_rfl) (by simp) ?_
          refine AllReadyH.cons rfl (fun K hK => ?_) (AllReadyH.nil)
          try simp only [zq1, zq2, zq3]
          rw [if_pos (by rfl)]
          refine wp_store_mid 23 (.tmp 6) (.tmp 10) rfl (b61) (0) (vl 16 (y)).toArray rfl rfl (H16.there hz68) (vsz _) (von _) ?_
          simp only [Act.put, zq1, zq2, zq3, zq4, zq5, zq6, List.toList_toArray]
          have hw70 : Below u1.heap.size u1 (w65.setCells b61 0 (vl 16 (y))) := below_store hw66 (by omega) _ 0
          have hz71 : H16 (w65.setCells b61 0 (vl 16 (y))) b61 (y) := H16.store hz68 _
          have hz72 : H16 (w65.setCells b61 0 (vl 16 (y))) b52 _ := H16.storeOther hz67 (by omega) _
          refine hK.out _ _ ?_ (fun hHeld => ?_)
          · exact ⟨range_kept (hw70) (row16_range X2.out), range_kept (hw70) (row16_range X3.out), hw70⟩
          clear hK K
          try simp only [Act.put, zq1, zq2, zq3, zq4, zq5, zq6]
          generalize w65.setCells b61 0 (vl 16 (y)) = w69 at *
          refine wpAnyH_done (by kernel_rfl) ?_ _
          refine NoPanic.normal ?_
          go_wp2_with fail
          go_meet
          refine ⟨_, _, rfl, rfl, Lib.hid hz72, Lib.hid hz71, Lib.hid hw70⟩
        · try simp only [zq1, zq2, zq3]
          go_simp
          have hw74 : Below u1.heap.size u1 (w49.alloc zO) := hw50.alloc hw50.size _
          have hz75 : H16 (w49.alloc zO) w49.heap.size fun _ => 0 := new_h w49
          have hl77 : u1.heap.size ≤ w49.heap.size := hw50.size
          have hz78 := H16.alloc zO hz51
          have hne79 : b52 < w49.heap.size := hz51.lt
          refine hK.out _ _ ?_ (fun hHeld => ?_)
          · exact ⟨range_kept (hw74) (row16_range X2.out), range_kept (hw74) (row16_range X3.out), hw74⟩
          clear hK K
          try simp only [Act.put, zq1, zq2, zq3, zq4, zq5, zq6]
          generalize w49.alloc zO = w73 at *
          generalize w49.heap.size = b76 at *
          refine wpAnyH_ready (rs := [3]) (by kernel_rfl) (by simp) ?_
          refine AllReadyH.cons rfl (fun K hK => ?_) (AllReadyH.nil)
          try simp only [zq1, zq2, zq3]
          go_simp
          refine (Cy.out _).mono ?_
          rintro e w80 ⟨rfl, hb81⟩
          rw [aN_vl 16 (y)]
          have hw82 : Below u1.heap.size u1 w80 := hw74.trans (hb81.mono hw74.size)
          have hz83 := H16.call hb81 hz78
          have hz84 := H16.call hb81 hz75
          refine hK.out _ _ ?_ (fun hHeld => ?_)
          · exact ⟨range_kept (hw82) (row16_range X2.out), range_kept (hw82) (row16_range X3.out), hw82⟩
          clear hK K
          try simp only [Act.put, zq1, zq2, zq3, zq4, zq5, zq6]
          clear hb81
          refine wpAnyH_ready (rs := [6]) (by kernel_rfl) (by simp) ?_
          refine AllReadyH.cons rfl (fun K hK => ?_) (AllReadyH.nil)
          try simp only [zq1, zq2, zq3]
          rw [if_pos (by rfl)]
          refine wp_store_mid 23 (.tmp 5) (.tmp 8) rfl (b52) (0) (vl 16 (x)).toArray rfl rfl (H16.there hz83) (vsz _) (von _) ?_
          simp only [Act.put, zq1, zq2, zq3, zq4, zq5, zq6, List.toList_toArray]
          have hw86 : Below u1.heap.size u1 (w80.setCells b52 0 (vl 16 (x))) := below_store hw82 (by omega) _ 0
          have hz87 : H16 (w80.setCells b52 0 (vl 16 (x))) b52 (x) := H16.store hz83 _
          have hz88 : H16 (w80.setCells b52 0 (vl 16 (x))) b76 _ := H16.storeOther hz84 (by omega) _
          refine hK.out _ _ ?_ (fun hHeld => ?_)
          · exact ⟨range_kept (hw86) (row16_range X2.out), range_kept (hw86) (row16_range X3.out), hw86⟩
          clear hK K
          try simp only [Act.put, zq1, zq2, zq3, zq4, zq5, zq6]
          generalize w80.setCells b52 0 (vl 16 (x)) = w85 at *
          refine wpAnyH_ready (rs := [7]) (by kernel_rfl) (by simp) ?_
          refine AllReadyH.cons rfl (fun K hK => ?_) (AllReadyH.nil)
          try simp only [zq1, zq2, zq3]
          rw [if_pos (by rfl)]
          refine wp_store_mid 23 (.tmp 6) (.tmp 10) rfl (b76) (0) (vl 16 (y)).toArray rfl rfl (H16.there hz88) (vsz _) (von _) ?_
          simp only [Act.put, zq1, zq2, zq3, zq4, zq5, zq6, List.toList_toArray]
          have hw90 : Below u1.heap.size u1 (w85.setCells b76 0 (vl 16 (y))) := below_store hw86 (by omega) _ 0
          have hz91 : H16 (w85.setCells b76 0 (vl 16 (y))) b76 (y) := H16.store hz88 _
          have hz92 : H16 (w85.setCells b76 0 (vl 16 (y))) b52 _ := H16.storeOther hz87 (by omega) _
          refine hK.out _ _ ?_ (fun hHeld => ?_)
          · exact ⟨range_kept (hw90) (row16_range X2.out), range_kept (hw90) (row16_range X3.out), hw90⟩
          clear hK K
          try simp only [Act.put, zq1, zq2, zq3, zq4, zq5, zq6]
          generalize w85.setCells b76 0 (vl 16 (y)) = w89 at *
          refine wpAnyH_done (by kernel_rfl) ?_ _
          refine NoPanic.normal ?_
          go_wp2_with fail
          go_meet
          refine ⟨_, _, rfl, rfl, Lib.hid hz92, Lib.hid hz91, Lib.hid hw90⟩
      · try simp only [zq1, zq2, zq3]
        go_simp
        have hw94 : Below u1.heap.size u1 (w3.alloc zO) := hw5.alloc hw5.size _
        have hz95 : H16 (w3.alloc zO) w3.heap.size fun _ => 0 := new_h w3
        have hl97 : u1.heap.size ≤ w3.heap.size := hw5.size
        refine hK.out _ _ ?_ (fun hHeld => ?_)
        · exact ⟨range_kept (hw94) (row16_range X2.out), range_kept (hw94) (row16_range X3.out), hw94⟩
        clear hK K
        try simp only [Act.put, zq1, zq2, zq3, zq4, zq5, zq6]
        generalize w3.alloc zO = w93 at *
        generalize w3.heap.size = b96 at *
        refine wpAnyH_ready (rs := [3, 4]) (by kernel_rfl) (by simp) ?_
        refine AllReadyH.cons rfl (fun K hK => ?_) (AllReadyH.cons rfl (fun K hK => ?_) (AllReadyH.nil))
        · try simp only [zq1, zq2, zq3]
          go_simp
          refine (Cy.out _).mono ?_
          rintro e w98 ⟨rfl, hb99⟩
          rw [aN_vl 16 (y)]
          have hw100 : Below u1.heap.size u1 w98 := hw94.trans (hb99.mono hw94.size)
          have hz101 := H16.call hb99 hz95
          refine hK.out _ _ ?_ (fun hHeld => ?_)
          · exact ⟨range_kept (hw100) (row16_range X2.out), range_kept (hw100) (row16_range X3.out), hw100⟩
          clear hK K
          try simp only [Act.put, zq1, zq2, zq3, zq4, zq5, zq6]
          clear hb99
          refine wpAnyH_ready (rs := [4]) (by kernel_rfl) (by simp) ?_
          refine AllReadyH.cons rfl (fun K hK => ?_) (AllReadyH.nil)
          try simp only [zq1, zq2, zq3]
          go_simp
          have hw103 : Below u1.heap.size u1 (w98.alloc zO) := hw100.alloc hw100.size _
          have hz104 : H16 (w98.alloc zO) w98.heap.size fun _ => 0 := new_h w98
          have hl106 : u1.heap.size ≤ w98.heap.size := hw100.size
          have hz107 := H16.alloc zO hz101
          have hne108 : b96 < w98.heap.size := hz101.lt
          refine hK.out _ _ ?_ (fun hHeld => ?_)
          · exact ⟨range_kept (hw103) (row16_range X2.out), range_kept (hw103) (row16_range X3.out), hw103⟩
          clear hK K
          try simp only [Act.put, zq1, zq2, zq3, zq4, zq5, zq6]
          generalize w98.alloc zO = w102 at *
          generalize w98.heap.size = b105 at *
          refine wpAnyH_ready (rs := [6]) (by kernel_rfl) (by simp) ?_
          refine AllReadyH.cons rfl (fun K hK => ?_) (AllReadyH.nil)
          try simp only [zq1, zq2, zq3]
          rw [if_pos (by rfl)]
          refine wp_store_mid 23 (.tmp 5) (.tmp 8) rfl (b105) (0) (vl 16 (x)).toArray rfl rfl (H16.there hz104) (vsz _) (von _) ?_
          simp only [Act.put, zq1, zq2, zq3, zq4, zq5, zq6, List.toList_toArray]
          have hw110 : Below u1.heap.size u1 (w102.setCells b105 0 (vl 16 (x))) := below_store hw103 (by omega) _ 0
          have hz111 : H16 (w102.setCells b105 0 (vl 16 (x))) b105 (x) := H16.store hz104 _
          have hz112 : H16 (w102.setCells b105 0 (vl 16 (x))) b96 _ := H16.storeOther hz107 (by omega) _
          refine hK.out _ _ ?_ (fun hHeld => ?_)
          · exact ⟨range_kept (hw110) (row16_range X2.out), range_kept (hw110) (row16_range X3.out), hw110⟩
          clear hK K
          try simp only [Act.put, zq1, zq2, zq3, zq4, zq5, zq6]
          generalize w102.setCells b105 0 (vl 16 (x)) = w109 at *
          refine wpAnyH_ready (rs := [7]) (by kernel_rfl) (by simp) ?_
          refine AllReadyH.cons rfl (fun K hK => ?_) (AllReadyH.nil)
          try simp only [zq1, zq2, zq3]
          rw [if_pos (by rfl)]
          refine wp_store_mid 23 (.tmp 6) (.tmp 10) rfl (b96) (0) (vl 16 (y)).toArray rfl rfl (H16.there hz112) (vsz _) (von _) ?_
          simp only [Act.put, zq1, zq2, zq3, zq4, zq5, zq6, List.toList_toArray]
          have hw114 : Below u1.heap.size u1 (w109.setCells b96 0 (vl 16 (y))) := below_store hw110 (by omega) _ 0
          have hz115 : H16 (w109.setCells b96 0 (vl 16 (y))) b96 (y) := H16.store hz112 _
          have hz116 : H16 (w109.setCells b96 0 (vl 16 (y))) b105 _ := H16.storeOther hz111 (by omega) _
          refine hK.out _ _ ?_ (fun hHeld => ?_)
          · exact ⟨range_kept (hw114) (row16_range X2.out), range_kept (hw114) (row16_range X3.out), hw114⟩
          clear hK K
          try simp only [Act.put, zq1, zq2, zq3, zq4, zq5, zq6]
          generalize w109.setCells b96 0 (vl 16 (y)) = w113 at *
          refine wpAnyH_done (by kernel_rfl) ?_ _
          refine NoPanic.normal ?_
          go_wp2_with fail
          go_meet
          refine ⟨_, _, rfl, rfl, Lib.hid hz116, Lib.hid hz115, Lib.hid hw114⟩
        · try simp only [zq1, zq2, zq3]
          go_simp
          have hw118 : Below u1.heap.size u1 (w93.alloc zO) := hw94.alloc hw94.size _
          have hz119 : H16 (w93.alloc zO) w93.heap.size fun _ => 0 := new_h w93
          have hl121 : u1.heap.size ≤ w93.heap.size := hw94.size
          have hz122 := H16.alloc zO hz95
          have hne123 : b96 < w93.heap.size := hz95.lt
          refine hK.out _ _ ?_ (fun hHeld => ?_)
          · exact ⟨range_kept (hw118) (row16_range X2.out), range_kept (hw118) (row16_range X3.out), hw118⟩
          clear hK K
          try simp only [Act.put, zq1, zq2, zq3, zq4, zq5, zq6]
          generalize w93.alloc zO = w117 at *
          generalize w93.heap.size = b120 at *
          refine wpAnyH_ready (rs := [3]) (by kernel_rfl) (by simp) ?_
          refine AllReadyH.cons rfl (fun K hK => ?_) (AllReadyH.nil)
          try simp only [zq1, zq2, zq3]
          go_simp
          refine (Cy.out _).mono ?_
          rintro e w124 ⟨rfl, hb125⟩
          rw [aN_vl 16 (y)]
          have hw126 : Below u1.heap.size u1 w124 := hw118.trans (hb125.mono hw118.size)
          have hz127 := H16.call hb125 hz122
          have hz128 := H16.call hb125 hz119
          refine hK.out _ _ ?_ (fun hHeld => ?_)
          · exact ⟨range_kept (hw126) (row16_range X2.out), range_kept (hw126) (row16_range X3.out), hw126⟩
          clear hK K
          try simp only [Act.put, zq1, zq2, zq3, zq4, zq5, zq6]
          clear hb125
          refine wpAnyH_ready (rs := [6]) (by kernel_rfl) (by simp) ?_
          refine AllReadyH.cons rfl (fun K hK => ?_) (AllReadyH.nil)
          try simp only [zq1, zq2, zq3]
          rw [if_pos (by rfl)]
          refine wp_store_mid 23 (.tmp 5) (.tmp 8) rfl (b120) (0) (vl 16 (x)).toArray rfl rfl (H16.there hz128) (vsz _) (von _) ?_
          simp only [Act.put, zq1, zq2, zq3, zq4, zq5, zq6, List.toList_toArray]
          have hw130 : Below u1.heap.size u1 (w124.setCells b120 0 (vl 16 (x))) := below_store hw126 (by omega) _ 0
          have hz131 : H16 (w124.setCells b120 0 (vl 16 (x))) b120 (x) := H16.store hz128 _
          have hz132 : H16 (w124.setCells b120 0 (vl 16 (x))) b96 _ := H16.storeOther hz127 (by omega) _
          refine hK.out _ _ ?_ (fun hHeld => ?_)
          · exact ⟨range_kept (hw130) (row16_range X2.out), range_kept (hw130) (row16_range X3.out), hw130⟩
          clear hK K
          try simp only [Act.put, zq1, zq2, zq3, zq4, zq5, zq6]
          generalize w124.setCells b120 0 (vl 16 (x)) = w129 at *
          refine wpAnyH_ready (rs := [7]) (by kernel_rfl) (by simp) ?_
          refine AllReadyH.cons rfl (fun K hK => ?_) (AllReadyH.nil)
          try simp only [zq1, zq2, zq3]
          rw [if_pos (by rfl)]
          refine wp_store_mid 23 (.tmp 6) (.tmp 10) rfl (b96) (0) (vl 16 (y)).toArray rfl rfl (H16.there hz132) (vsz _) (von _) ?_
          simp only [Act.put, zq1, zq2, zq3, zq4, zq5, zq6, List.toList_toArray]
          have hw134 : Below u1.heap.size u1 (w129.setCells b96 0 (vl 16 (y))) := below_store hw130 (by omega) _ 0
          have hz135 : H16 (w129.setCells b96 0 (vl 16 (y))) b96 (y) := H16.store hz132 _
          have hz136 : H16 (w129.setCells b96 0 (vl 16 (y))) b120 _ := H16.storeOther hz131 (by omega) _
          refine hK.out _ _ ?_ (fun hHeld => ?_)
          · exact ⟨range_kept (hw134) (row16_range X2.out), range_kept (hw134) (row16_range X3.out), hw134⟩
          clear hK K
          try simp only [Act.put, zq1, zq2, zq3, zq4, zq5, zq6]
          generalize w129.setCells b96 0 (vl 16 (y)) = w133 at *
          refine wpAnyH_done (by kernel_rfl) ?_ _
          refine NoPanic.normal ?_
          go_wp2_with fail
          go_meet
          refine ⟨_, _, rfl, rfl, Lib.hid hz136, Lib.hid hz135, Lib.hid hw134⟩
    · try simp only [zq1, zq2, zq3]
      go_simp
      have hw138 : Below u1.heap.size u1 (ws1.alloc zO) := hs2.alloc hs2.size _
      have hz139 : H16 (ws1.alloc zO) ws1.heap.size fun _ => 0 := new_h ws1
      have hl141 : u1.heap.size ≤ ws1.heap.size := hs2.size
      refine hK.out _ _ ?_ (fun hHeld => ?_)
      · exact ⟨range_kept (hw138) (row16_range X2.out), range_kept (hw138) (row16_range X3.out), hw138⟩
      clear hK K
      try simp only [Act.put, zq1, zq2, zq3, zq4, zq5, zq6]
      generalize ws1.alloc zO = w137 at *
      generalize ws1.heap.size = b140 at *
      refine wpAnyH_ready (rs := [1, 5]) (by kernel_rfl) (by simp) ?_
      refine AllReadyH.cons rfl (fun K hK => ?_) (AllReadyH.cons rfl (fun K hK => ?_) (AllReadyH.nil))
      · try simp only [zq1, zq2, zq3]
        go_simp
        refine (Cx.out _).mono ?_
        rintro e w142 ⟨rfl, hb143⟩
        rw [aN_vl 16 (x)]
        have hw144 : Below u1.heap.size u1 w142 := hw138.trans (hb143.mono hw138.size)
        have hz145 := H16.call hb143 hz139
        refine hK.out _ _ ?_ (fun hHeld => ?_)
        · exact ⟨range_kept (hw144) (row16_range X2.out), range_kept (hw144) (row16_range X3.out), hw144⟩
        clear hK K
        try simp only [Act.put, zq1, zq2, zq3, zq4, zq5, zq6]
        clear hb143
        refine wpAnyH_ready (rs := [3, 5]) (by kernel_rfl) (by simp) ?_
        refine AllReadyH.cons rfl (fun K hK => ?_) (AllReadyH.cons rfl (fun K hK => ?_) (AllReadyH.nil))
        · try simp only [zq1, zq2, zq3]
          go_simp
          refine (Cy.out _).mono ?_
          rintro e w146 ⟨rfl, hb147⟩
          rw [aN_vl 16 (y)]
          have hw148 : Below u1.heap.size u1 w146 := hw144.trans (hb147.mono hw144.size)
          have hz149 := H16.call hb147 hz145
          refine hK.out _ _ ?_ (fun hHeld => ?_)
          · exact ⟨range_kept (hw148) (row16_range X2.out), range_kept (hw148) (row16_range X3.out), hw148⟩
          clear hK K
          try simp only [Act.put, zq1, zq2, zq3, zq4, zq5, zq6]
          clear hb147
          refine wpAnyH_ready (rs := [5]) (by kernel_rfl) (by simp) ?_
          refine AllReadyH.cons rfl (fun K hK => ?_) (AllReadyH.nil)
          try simp only [zq1, zq2, zq3]
          go_simp
          have hw151 : Below u1.heap.size u1 (w146.alloc zO) := hw148.alloc hw148.size _
          have hz152 : H16 (w146.alloc zO) w146.heap.size fun _ => 0 := new_h w146
          have hl154 : u1.heap.size ≤ w146.heap.size := hw148.size
          have hz155 := H16.alloc zO hz149
          have hne156 : b140 < w146.heap.size := hz149.lt
          refine hK.out _ _ ?_ (fun hHeld => ?_)
          · exact ⟨range_kept (hw151) (row16_range X2.out), range_kept (hw151) (row16_range X3.out), hw151⟩
          clear hK K
          try simp only [Act.put, zq1, zq2, zq3, zq4, zq5, zq6]
          generalize w146.alloc zO = w150 at *
          generalize w146.heap.size = b153 at *
          refine wpAnyH_ready (rs := [6]) (by kernel_rfl) (by simp) ?_
          refine AllReadyH.cons rfl (fun K hK => ?_) (AllReadyH.nil)
          try simp only [zq1, zq2, zq3]
          rw [if_pos (by rfl)]
          refine wp_store_mid 23 (.tmp 5) (.tmp 8) rfl (b140) (0) (vl 16 (x)).toArray rfl rfl (H16.there hz155) (vsz _) (von _) ?_
          simp only [Act.put, zq1, zq2, zq3, zq4, zq5, zq6, List.toList_toArray]
          have hw158 : Below u1.heap.size u1 (w150.setCells b140 0 (vl 16 (x))) := below_store hw151 (by omega) _ 0
          have hz159 : H16 (w150.setCells b140 0 (vl 16 (x))) b140 (x) := H16.store hz155 _
          have hz160 : H16 (w150.setCells b140 0 (vl 16 (x))) b153 _ := H16.storeOther hz152 (by omega) _
          refine hK.out _ _ ?_ (fun hHeld => ?_)
          · exact ⟨range_kept (hw158) (row16_range X2.out), range_kept (hw158) (row16_range X3.out), hw158⟩
          clear hK K
          try simp only [Act.put, zq1, zq2, zq3, zq4, zq5, zq6]
          generalize w150.setCells b140 0 (vl 16 (x)) = w157 at *
          refine wpAnyH_ready (rs := [7]) (by kernel_rfl) (by simp) ?_
          refine AllReadyH.cons rfl (fun K hK => ?_) (AllReadyH.nil)
          try simp only [zq1, zq2, zq3]
          rw [if_pos (by rfl)]
          refine wp_store_mid 23 (.tmp 6) (.tmp 10) rfl (b153) (0) (vl 16 (y)).toArray rfl rfl (H16.there hz160) (vsz _) (von _) ?_
          simp only [Act.put, zq1, zq2, zq3, zq4, zq5, zq6, List.toList_toArray]
          have hw162 : Below u1.heap.size u1 (w157.setCells b153 0 (vl 16 (y))) := below_store hw158 (by omega) _ 0
          have hz163 : H16 (w157.setCells b153 0 (vl 16 (y))) b153 (y) := H16.store hz160 _
          have hz164 : H16 (w157.setCells b153 0 (vl 16 (y))) b140 _ := H16.storeOther hz159 (by omega) _
          refine hK.out _ _ ?_ (fun hHeld => ?_)
          · exact ⟨range_kept (hw162) (row16_range X2.out), range_kept (hw162) (row16_range X3.out), hw162⟩
          clear hK K
          try simp only [Act.put, zq1, zq2, zq3, zq4, zq5, zq6]
          generalize w157.setCells b153 0 (vl 16 (y)) = w161 at *
          refine wpAnyH_done (by kernel_rfl) ?_ _
          refine NoPanic.normal ?_
          go_wp2_with fail
          go_meet
          refine ⟨_, _, rfl, rfl, Lib.hid hz164, Lib.hid hz163, Lib.hid hw162⟩
        · try simp only [zq1, zq2, zq3]
          go_simp
          have hw166 : Below u1.heap.size u1 (w142.alloc zO) := hw144.alloc hw144.size _
          have hz167 : H16 (w142.alloc zO) w142.heap.size fun _ => 0 := new_h w142
          have hl169 : u1.heap.size ≤ w142.heap.size := hw144.size
          have hz170 := H16.alloc zO hz145
          have hne171 : b140 < w142.heap.size := hz145.lt
          refine hK.out _ _ ?_ (fun hHeld => ?_)
          · exact ⟨range_kept (hw166) (row16_range X2.out), range_kept (hw166) (row16_range X3.out), hw166⟩
          clear hK K
          try simp only [Act.put, zq1, zq2, zq3, zq4, zq5, zq6]
          generalize w142.alloc zO = w165 at *
          generalize w142.heap.size = b168 at *
          refine wpAnyH_ready (rs := [3]) (by kernel_rfl) (by simp) ?_
          refine AllReadyH.cons rfl (fun K hK => ?_) (AllReadyH.nil)
          try simp only [zq1, zq2, zq3]
          go_simp
          refine (Cy.out _).mono ?_
          rintro e w172 ⟨rfl, hb173⟩
          rw [aN_vl 16 (y)]
          have hw174 : Below u1.heap.size u1 w172 := hw166.trans (hb173.mono hw166.size)
          have hz175 := H16.call hb173 hz170
          have hz176 := H16.call hb173 hz167
          refine hK.out _ _ ?_ (fun hHeld => ?_)
          · exact ⟨range_kept (hw174) (row16_range X2.out), range_kept (hw174) (row16_range X3.out), hw174⟩
          clear hK K
          try simp only [Act.put, zq1, zq2, zq3, zq4, zq5, zq6]
          clear hb173
          refine wpAnyH_ready (rs := [6]) (by kernel_rfl) (by simp) ?_
          refine AllReadyH.cons rfl (fun K hK => ?_) (AllReadyH.nil)
          try simp only [zq1, zq2, zq3]
          rw [if_pos (by rfl)]
          refine wp_store_mid 23 (.tmp 5) (.tmp 8) rfl (b140) (0) (vl 16 (x)).toArray rfl rfl (H16.there hz175) (vsz _) (von _) ?_
          simp only [Act.put, zq1, zq2, zq3, zq4, zq5, zq6, List.toList_toArray]
          have hw178 : Below u1.heap.size u1 (w172.setCells b140 0 (vl 16 (x))) := below_store hw174 (by omega) _ 0
          have hz179 : H16 (w172.setCells b140 0 (vl 16 (x))) b140 (x) := H16.store hz175 _
          have hz180 : H16 (w172.setCells b140 0 (vl 16 (x))) b168 _ := H16.storeOther hz176 (by omega) _
          refine hK.out _ _ ?_ (fun hHeld => ?_)
          · exact ⟨range_kept (hw178) (row16_range X2.out), range_kept (hw178) (row16_range X3.out), hw178⟩
          clear hK K
          try simp only [Act.put, zq1, zq2, zq3, zq4, zq5, zq6]
          generalize w172.setCells b140 0 (vl 16 (x)) = w177 at *
          refine wpAnyH_ready (rs := [7]) (by kernel_rfl) (by simp) ?_
          refine AllReadyH.cons rfl (fun K hK => ?_) (AllReadyH.nil)
          try simp only [zq1, zq2, zq3]
          rw [if_pos (by rfl)]
          refine wp_store_mid 23 (.tmp 6) (.tmp 10) rfl (b168) (0) (vl 16 (y)).toArray rfl rfl (H16.there hz180) (vsz _) (von _) ?_
          simp only [Act.put, zq1, zq2, zq3, zq4, zq5, zq6, List.toList_toArray]
          have hw182 : Below u1.heap.size u1 (w177.setCells b168 0 (vl 16 (y))) := below_store hw178 (by omega) _ 0
          have hz183 : H16 (w177.setCells b168 0 (vl 16 (y))) b168 (y) := H16.store hz180 _
          have hz184 : H16 (w177.setCells b168 0 (vl 16 (y))) b140 _ := H16.storeOther hz179 (by omega) _
          refine hK.out _ _ ?_ (fun hHeld => ?_)
          · exact ⟨range_kept (hw182) (row16_range X2.out), range_kept (hw182) (row16_range X3.out), hw182⟩
          clear hK K
          try simp only [Act.put, zq1, zq2, zq3, zq4, zq5, zq6]
          generalize w177.setCells b168 0 (vl 16 (y)) = w181 at *
          refine wpAnyH_done (by kernel_rfl) ?_ _
          refine NoPanic.normal ?_
          go_wp2_with fail
          go_meet
          refine ⟨_, _, rfl, rfl, Lib.hid hz184, Lib.hid hz183, Lib.hid hw182⟩
      · try simp only [zq1, zq2, zq3]
        go_simp
        have hw186 : Below u1.heap.size u1 (w137.alloc zO) := hw138.alloc hw138.size _
        have hz187 : H16 (w137.alloc zO) w137.heap.size fun _ => 0 := new_h w137
        have hl189 : u1.heap.size ≤ w137.heap.size := hw138.size
        have hz190 := H16.alloc zO hz139
        have hne191 : b140 < w137.heap.size := hz139.lt
        refine hK.out _ _ ?_ (fun hHeld => ?_)
        · exact ⟨range_kept (hw186) (row16_range X2.out), range_kept (hw186) (row16_range X3.out), hw186⟩
        clear hK K
        try simp only [Act.put, zq1, zq2, zq3, zq4, zq5, zq6]
        generalize w137.alloc zO = w185 at *
        generalize w137.heap.size = b188 at *
        refine wpAnyH_ready (rs := [1]) (by kernel_rfl) (by simp) ?_
        refine AllReadyH.cons rfl (fun K hK => ?_) (AllReadyH.nil)
        try simp only [zq1, zq2, zq3]
        go_simp
        refine (Cx.out _).mono ?_
        rintro e w192 ⟨rfl, hb193⟩
        rw [aN_vl 16 (x)]
        have hw194 : Below u1.heap.size u1 w192 := hw186.trans (hb193.mono hw186.size)
        have hz195 := H16.call hb193 hz190
        have hz196 := H16.call hb193 hz187
        refine hK.out _ _ ?_ (fun hHeld => ?_)
        · exact ⟨range_kept (hw194) (row16_range X2.out), range_kept (hw194) (row16_range X3.out), hw194⟩
        clear hK K
        try simp only [Act.put, zq1, zq2, zq3, zq4, zq5, zq6]
        clear hb193
        refine wpAnyH_ready (rs := [3]) (by kernel_rfl) (by simp) ?_
        refine AllReadyH.cons rfl (fun K hK => ?_) (AllReadyH.nil)
        try simp only [zq1, zq2, zq3]
        go_simp
        refine (Cy.out _).mono ?_
        rintro e w197 ⟨rfl, hb198⟩
        rw [aN_vl 16 (y)]
        have hw199 : Below u1.heap.size u1 w197 := hw194.trans (hb198.mono hw194.size)
        have hz200 := H16.call hb198 hz195
        have hz201 := H16.call hb198 hz196
        refine hK.out _ _ ?_ (fun hHeld => ?_)
        · exact ⟨range_kept (hw199) (row16_range X2.out), range_kept (hw199) (row16_range X3.out), hw199⟩
        clear hK K
        try simp only [Act.put, zq1, zq2, zq3, zq4, zq5, zq6]
        clear hb198
        refine wpAnyH_ready (rs := [6]) (by kernel_rfl) (by simp) ?_
        refine AllReadyH.cons rfl (fun K hK => ?_) (AllReadyH.nil)
        try simp only [zq1, zq2, zq3]
        rw [if_pos (by rfl)]
        refine wp_store_mid 23 (.tmp 5) (.tmp 8) rfl (b140) (0) (vl 16 (x)).toArray rfl rfl (H16.there hz200) (vsz _) (von _) ?_
        simp only [Act.put, zq1, zq2, zq3, zq4, zq5, zq6, List.toList_toArray]
        have hw203 : Below u1.heap.size u1 (w197.setCells b140 0 (vl 16 (x))) := below_store hw199 (by omega) _ 0
        have hz204 : H16 (w197.setCells b140 0 (vl 16 (x))) b140 (x) := H16.store hz200 _
        have hz205 : H16 (w197.setCells b140 0 (vl 16 (x))) b188 _ := H16.storeOther hz201 (by omega) _
        refine hK.out _ _ ?_ (fun hHeld => ?_)
        · exact ⟨range_kept (hw203) (row16_range X2.out), range_kept (hw203) (row16_range X3.out), hw203⟩
        clear hK K
        try simp only [Act.put, zq1, zq2, zq3, zq4, zq5, zq6]
        generalize w197.setCells b140 0 (vl 16 (x)) = w202 at *
        refine wpAnyH_ready (rs := [7]) (by kernel_rfl) (by simp) ?_
        refine AllReadyH.cons rfl (fun K hK => ?_) (AllReadyH.nil)
        try simp only [zq1, zq2, zq3]
        rw [if_pos (by rfl)]
        refine wp_store_mid 23 (.tmp 6) (.tmp 10) rfl (b188) (0) (vl 16 (y)).toArray rfl rfl (H16.there hz205) (vsz _) (von _) ?_
        simp only [Act.put, zq1, zq2, zq3, zq4, zq5, zq6, List.toList_toArray]
        have hw207 : Below u1.heap.size u1 (w202.setCells b188 0 (vl 16 (y))) := below_store hw203 (by omega) _ 0
        have hz208 : H16 (w202.setCells b188 0 (vl 16 (y))) b188 (y) := H16.store hz205 _
        have hz209 : H16 (w202.setCells b188 0 (vl 16 (y))) b140 _ := H16.storeOther hz204 (by omega) _
        refine hK.out _ _ ?_ (fun hHeld => ?_)
        · exact ⟨range_kept (hw207) (row16_range X2.out), range_kept (hw207) (row16_range X3.out), hw207⟩
        clear hK K
        try simp only [Act.put, zq1, zq2, zq3, zq4, zq5, zq6]
        generalize w202.setCells b188 0 (vl 16 (y)) = w206 at *
        refine wpAnyH_done (by kernel_rfl) ?_ _
        refine NoPanic.normal ?_
        go_wp2_with fail
        go_meet
        refine ⟨_, _, rfl, rfl, Lib.hid hz209, Lib.hid hz208, Lib.hid hw207⟩
    · try simp only [zq1, zq2, zq3]
      go_simp
      have hw211 : Below u1.heap.size u1 (ws1.alloc zO) := hs2.alloc hs2.size _
      have hz212 : H16 (ws1.alloc zO) ws1.heap.size fun _ => 0 := new_h ws1
      have hl214 : u1.heap.size ≤ ws1.heap.size := hs2.size
      refine hK.out _ _ ?_ (fun hHeld => ?_)
      · exact ⟨range_kept (hw211) (row16_range X2.out), range_kept (hw211) (row16_range X3.out), hw211⟩
      clear hK K
      try simp only [Act.put, zq1, zq2, zq3, zq4, zq5, zq6]
      generalize ws1.alloc zO = w210 at *
      generalize ws1.heap.size = b213 at *
      refine wpAnyH_ready (rs := [1, 4]) (by kernel_rfl) (by simp) ?_
      refine AllReadyH.cons rfl (fun K hK => ?_) (AllReadyH.cons rfl (fun K hK => ?_) (AllReadyH.nil))
      · try simp only [zq1, zq2, zq3]
        go_simp
        refine (Cx.out _).mono ?_
        rintro e w215 ⟨rfl, hb216⟩
        rw [aN_vl 16 (x)]
        have hw217 : Below u1.heap.size u1 w215 := hw211.trans (hb216.mono hw211.size)
        have hz218 := H16.call hb216 hz212
        refine hK.out _ _ ?_ (fun hHeld => ?_)
        · exact ⟨range_kept (hw217) (row16_range X2.out), range_kept (hw217) (row16_range X3.out), hw217⟩
        clear hK K
        try simp only [Act.put, zq1, zq2, zq3, zq4, zq5, zq6]
        clear hb216
        refine wpAnyH_ready (rs := [3, 4]) (by kernel_rfl) (by simp) ?_
        refine AllReadyH.cons rfl (fun K hK => ?_) (AllReadyH.cons rfl (fun K hK => ?_) (AllReadyH.nil))
        · try simp only [zq1, zq2, zq3]
          go_simp
          refine (Cy.out _).mono ?_
          rintro e w219 ⟨rfl, hb220⟩
          rw [aN_vl 16 (y)]
          have hw221 : Below u1.heap.size u1 w219 := hw217.trans (hb220.mono hw217.size)
          have hz222 := H16.call hb220 hz218
          refine hK.out _ _ ?_ (fun hHeld => ?_)
          · exact ⟨range_kept (hw221) (row16_range X2.out), range_kept (hw221) (row16_range X3.out), hw221⟩
          clear hK K
          try simp only [Act.put, zq1, zq2, zq3, zq4, zq5, zq6]
          clear hb220
          refine wpAnyH_ready (rs := [4]) (by kernel_rfl) (by simp) ?_
          refine AllReadyH.cons rfl (fun K hK => ?_) (AllReadyH.nil)
          try simp only [zq1, zq2, zq3]
          go_simp
          have hw224 : Below u1.heap.size u1 (w219.alloc zO) := hw221.alloc hw221.size _
          have hz225 : H16 (w219.alloc zO) w219.heap.size fun _ => 0 := new_h w219
          have hl227 : u1.heap.size ≤ w219.heap.size := hw221.size
          have hz228 := H16.alloc zO hz222
          have hne229 : b213 < w219.heap.size := hz222.lt
          refine hK.out _ _ ?_ (fun hHeld => ?_)
          · exact ⟨range_kept (hw224) (row16_range X2.out), range_kept (hw224) (row16_range X3.out), hw224⟩
          clear hK K
          try simp only [Act.put, zq1, zq2, zq3, zq4, zq5, zq6]
          generalize w219.alloc zO = w223 at *
          generalize w219.heap.size = b226 at *
          refine wpAnyH_ready (rs := [6]) (by kernel_rfl) (by simp) ?_
          refine AllReadyH.cons rfl (fun K hK => ?_) (AllReadyH.nil)
          try simp only [zq1, zq2, zq3]
          rw [if_pos (by rfl)]
          refine wp_store_mid 23 (.tmp 5) (.tmp 8) rfl (b226) (0) (vl 16 (x)).toArray rfl rfl (H16.there hz225) (vsz _) (von _) ?_
          simp only [Act.put, zq1, zq2, zq3, zq4, zq5, zq6, List.toList_toArray]
          have hw231 : Below u1.heap.size u1 (w223.setCells b226 0 (vl 16 (x))) := below_store hw224 (by omega) _ 0
          have hz232 : H16 (w223.setCells b226 0 (vl 16 (x))) b226 (x) := H16.store hz225 _
          have hz233 : H16 (w223.setCells b226 0 (vl 16 (x))) b213 _ := H16.storeOther hz228 (by omega) _
          refine hK.out _ _ ?_ (fun hHeld => ?_)
          · exact ⟨range_kept (hw231) (row16_range X2.out), range_kept (hw231) (row16_range X3.out), hw231⟩
          clear hK K
          try simp only [Act.put, zq1, zq2, zq3, zq4, zq5, zq6]
          generalize w223.setCells b226 0 (vl 16 (x)) = w230 at *
          refine wpAnyH_ready (rs := [7]) (by kernel_rfl) (by simp) ?_
          refine AllReadyH.cons rfl (fun K hK => ?_) (AllReadyH.nil)
          try simp only [zq1, zq2, zq3]
          rw [if_pos (by rfl)]
          refine wp_store_mid 23 (.tmp 6) (.tmp 10) rfl (b213) (0) (vl 16 (y)).toArray rfl rfl (H16.there hz233) (vsz _) (von _) ?_
          simp only [Act.put, zq1, zq2, zq3, zq4, zq5, zq6, List.toList_toArray]
          have hw235 : Below u1.heap.size u1 (w230.setCells b213 0 (vl 16 (y))) := below_store hw231 (by omega) _ 0
          have hz236 : H16 (w230.setCells b213 0 (vl 16 (y))) b213 (y) := H16.store hz233 _
          have hz237 : H16 (w230.setCells b213 0 (vl 16 (y))) b226 _ := H16.storeOther hz232 (by omega) _
          refine hK.out _ _ ?_ (fun hHeld => ?_)
          · exact ⟨range_kept (hw235) (row16_range X2.out), range_kept (hw235) (row16_range X3.out), hw235⟩
          clear hK K
          try simp only [Act.put, zq1, zq2, zq3, zq4, zq5, zq6]
          generalize w230.setCells b213 0 (vl 16 (y)) = w234 at *
          refine wpAnyH_done (by kernel_rfl) ?_ _
          refine NoPanic.normal ?_
          go_wp2_with fail
          go_meet
          refine ⟨_, _, rfl, rfl, Lib.hid hz237, Lib.hid hz236, Lib.hid hw235⟩
        · try simp only [zq1, zq2, zq3]
          go_simp
          have hw239 : Below u1.heap.size u1 (w215.alloc zO) := hw217.alloc hw217.size _
          have hz240 : H16 (w215.alloc zO) w215.heap.size fun _ => 0 := new_h w215
          have hl242 : u1.heap.size ≤ w215.heap.size := hw217.size
          have hz243 := H16.alloc zO hz218
          have hne244 : b213 < w215.heap.size := hz218.lt
          refine hK.out _ _ ?_ (fun hHeld => ?_)
          · exact ⟨range_kept (hw239) (row16_range X2.out), range_kept (hw239) (row16_range X3.out), hw239⟩
          clear hK K
          try simp only [Act.put, zq1, zq2, zq3, zq4, zq5, zq6]
          generalize w215.alloc zO = w238 at *
          generalize w215.heap.size = b241 at *
          refine wpAnyH_ready (rs := [3]) (by kernel_rfl) (by simp) ?_
          refine AllReadyH.cons rfl (fun K hK => ?_) (AllReadyH.nil)
          try simp only [zq1, zq2, zq3]
          go_simp
          refine (Cy.out _).mono ?_
          rintro e w245 ⟨rfl, hb246⟩
          rw [aN_vl 16 (y)]
          have hw247 : Below u1.heap.size u1 w245 := hw239.trans (hb246.mono hw239.size)
          have hz248 := H16.call hb246 hz243
          have hz249 := H16.call hb246 hz240
          refine hK.out _ _ ?_ (fun hHeld => ?_)
          · exact ⟨range_kept (hw247) (row16_range X2.out), range_kept (hw247) (row16_range X3.out), hw247⟩
          clear hK K
          try simp only [Act.put, zq1, zq2, zq3, zq4, zq5, zq6]
          clear hb246
          refine wpAnyH_ready (rs := [6]) (by kernel_rfl) (by simp) ?_
          refine AllReadyH.cons rfl (fun K hK => ?_) (AllReadyH.nil)
          try simp only [zq1, zq2, zq3]
          rw [if_pos (by rfl)]
          refine wp_store_mid 23 (.tmp 5) (.tmp 8) rfl (b241) (0) (vl 16 (x)).toArray rfl rfl (H16.there hz249) (vsz _) (von _) ?_
          simp only [Act.put, zq1, zq2, zq3, zq4, zq5, zq6, List.toList_toArray]
          have hw251 : Below u1.heap.size u1 (w245.setCells b241 0 (vl 16 (x))) := below_store hw247 (by omega) _ 0
          have hz252 : H16 (w245.setCells b241 0 (vl 16 (x))) b241 (x) := H16.store hz249 _
          have hz253 : H16 (w245.setCells b241 0 (vl 16 (x))) b213 _ := H16.storeOther hz248 (by omega) _
          refine hK.out _ _ ?_ (fun hHeld => ?_)
          · exact ⟨range_kept (hw251) (row16_range X2.out), range_kept (hw251) (row16_range X3.out), hw251⟩
          clear hK K
          try simp only [Act.put, zq1, zq2, zq3, zq4, zq5, zq6]
          generalize w245.setCells b241 0 (vl 16 (x)) = w250 at *
          refine wpAnyH_ready (rs := [7]) (by kernel_rfl) (by simp) ?_
          refine AllReadyH.cons rfl (fun K hK => ?_) (AllReadyH.nil)
          try simp only [zq1, zq2, zq3]
          rw [if_pos (by rfl)]
          refine wp_store_mid 23 (.tmp 6) (.tmp 10) rfl (b213) (0) (vl 16 (y)).toArray rfl rfl (H16.there hz253) (vsz _) (von _) ?_
          simp only [Act.put, zq1, zq2, zq3, zq4, zq5, zq6, List.toList_toArray]
          have hw255 : Below u1.heap.size u1 (w250.setCells b213 0 (vl 16 (y))) := below_store hw251 (by omega) _ 0
          have hz256 : H16 (w250.setCells b213 0 (vl 16 (y))) b213 (y) := H16.store hz253 _
          have hz257 : H16 (w250.setCells b213 0 (vl 16 (y))) b241 _ := H16.storeOther hz252 (by omega) _
          refine hK.out _ _ ?_ (fun hHeld => ?_)
          · exact ⟨range_kept (hw255) (row16_range X2.out), range_kept (hw255) (row16_range X3.out), hw255⟩
          clear hK K
          try simp only [Act.put, zq1, zq2, zq3, zq4, zq5, zq6]
          generalize w250.setCells b213 0 (vl 16 (y)) = w254 at *
          refine wpAnyH_done (by kernel_rfl) ?_ _
          refine NoPanic.normal ?_
          go_wp2_with fail
          go_meet
          refine ⟨_, _, rfl, rfl, Lib.hid hz257, Lib.hid hz256, Lib.hid hw255⟩
      · try simp only [zq1, zq2, zq3]
        go_simp
        have hw259 : Below u1.heap.size u1 (w210.alloc zO) := hw211.alloc hw211.size _
        have hz260 : H16 (w210.alloc zO) w210.heap.size fun _ => 0 := new_h w210
        have hl262 : u1.heap.size ≤ w210.heap.size := hw211.size
        have hz263 := H16.alloc zO hz212
        have hne264 : b213 < w210.heap.size := hz212.lt
        refine hK.out _ _ ?_ (fun hHeld => ?_)
        · exact ⟨range_kept (hw259) (row16_range X2.out), range_kept (hw259) (row16_range X3.out), hw259⟩
        clear hK K
        try simp only [Act.put, zq1, zq2, zq3, zq4, zq5, zq6]
        generalize w210.alloc zO = w258 at *
        generalize w210.heap.size = b261 at *
        refine wpAnyH_ready (rs := [1]) (by kernel_rfl) (by simp) ?_
        refine AllReadyH.cons rfl (fun K hK => ?_) (AllReadyH.nil)
        try simp only [zq1, zq2, zq3]
        go_simp
        refine (Cx.out _).mono ?_
        rintro e w265 ⟨rfl, hb266⟩
        rw [aN_vl 16 (x)]
        have hw267 : Below u1.heap.size u1 w265 := hw259.trans (hb266.mono hw259.size)
        have hz268 := H16.call hb266 hz263
        have hz269 := H16.call hb266 hz260
        refine hK.out _ _ ?_ (fun hHeld => ?_)
        · exact ⟨range_kept (hw267) (row16_range X2.out), range_kept (hw267) (row16_range X3.out), hw267⟩
        clear hK K
        try simp only [Act.put, zq1, zq2, zq3, zq4, zq5, zq6]
        clear hb266
        refine wpAnyH_ready (rs := [3]) (by kernel_rfl) (by simp) ?_
        refine AllReadyH.cons rfl (fun K hK => ?_) (AllReadyH.nil)
        try simp only [zq1, zq2, zq3]
        go_simp
        refine (Cy.out _).mono ?_
        rintro e w270 ⟨rfl, hb271⟩
        rw [aN_vl 16 (y)]
        have hw272 : Below u1.heap.size u1 w270 := hw267.trans (hb271.mono hw267.size)
        have hz273 := H16.call hb271 hz268
        have hz274 := H16.call hb271 hz269
        refine hK.out _ _ ?_ (fun hHeld => ?_)
        · exact ⟨range_kept (hw272) (row16_range X2.out), range_kept (hw272) (row16_range X3.out), hw272⟩
        clear hK K
        try simp only [Act.put, zq1, zq2, zq3, zq4, zq5, zq6]
        clear hb271
        refine wpAnyH_ready (rs := [6]) (by kernel_rfl) (by simp) ?_
        refine AllReadyH.cons rfl (fun K hK => ?_) (AllReadyH.nil)
        try simp only [zq1, zq2, zq3]
        rw [if_pos (by rfl)]
        refine wp_store_mid 23 (.tmp 5) (.tmp 8) rfl (b261) (0) (vl 16 (x)).toArray rfl rfl (H16.there hz274) (vsz _) (von _) ?_
        simp only [Act.put, zq1, zq2, zq3, zq4, zq5, zq6, List.toList_toArray]
        have hw276 : Below u1.heap.size u1 (w270.setCells b261 0 (vl 16 (x))) := below_store hw272 (by omega) _ 0
        have hz277 : H16 (w270.setCells b261 0 (vl 16 (x))) b261 (x) := H16.store hz274 _
        have hz278 : H16 (w270.setCells b261 0 (vl 16 (x))) b213 _ := H16.storeOther hz273 (by omega) _
        refine hK.out _ _ ?_ (fun hHeld => ?_)
        · exact ⟨range_kept (hw276) (row16_range X2.out), range_kept (hw276) (row16_range X3.out), hw276⟩
        clear hK K
        try simp only [Act.put, zq1, zq2, zq3, zq4, zq5, zq6]
        generalize w270.setCells b261 0 (vl 16 (x)) = w275 at *
        refine wpAnyH_ready (rs := [7]) (by kernel_rfl) (by simp) ?_
        refine AllReadyH.cons rfl (fun K hK => ?_) (AllReadyH.nil)
        try simp only [zq1, zq2, zq3]
        rw [if_pos (by rfl)]
        refine wp_store_mid 23 (.tmp 6) (.tmp 10) rfl (b213) (0) (vl 16 (y)).toArray rfl rfl (H16.there hz278) (vsz _) (von _) ?_
        simp only [Act.put, zq1, zq2, zq3, zq4, zq5, zq6, List.toList_toArray]
        have hw280 : Below u1.heap.size u1 (w275.setCells b213 0 (vl 16 (y))) := below_store hw276 (by omega) _ 0
        have hz281 : H16 (w275.setCells b213 0 (vl 16 (y))) b213 (y) := H16.store hz278 _
        have hz282 : H16 (w275.setCells b213 0 (vl 16 (y))) b261 _ := H16.storeOther hz277 (by omega) _
        refine hK.out _ _ ?_ (fun hHeld => ?_)
        · exact ⟨range_kept (hw280) (row16_range X2.out), range_kept (hw280) (row16_range X3.out), hw280⟩
        clear hK K
        try simp only [Act.put, zq1, zq2, zq3, zq4, zq5, zq6]
        generalize w275.setCells b213 0 (vl 16 (y)) = w279 at *
        refine wpAnyH_done (by kernel_rfl) ?_ _
        refine NoPanic.normal ?_
        go_wp2_with fail
        go_meet
        refine ⟨_, _, rfl, rfl, Lib.hid hz282, Lib.hid hz281, Lib.hid hw280⟩
  case rest =>
    obtain ⟨b5, b6, rfl, rfl, X5, X6, HW⟩ := hcut
    obtain ⟨u2, rfl⟩ : ∃ u2 : World, u2 = wc := ⟨_, rfl⟩
    replace X2 := Lib.hid (H16.call HW.out X2.out)
    replace X3 := Lib.hid (H16.call HW.out X3.out)
    replace HB : Hid (Below w.heap.size w u2) := Lib.hid (HB.out.trans (HW.out.mono HB.out.size))
    clear HW
    try clear u1
    go_upto_region 2 with fail
    refine wp_region_noPanic ?_
    refine wp_region_held_drew (S := (fun w' => w'.rangeAt (c2) 0 (vl 16 (f)) ∧ w'.rangeAt (c3) 0 (vl 16 (g)) ∧ w'.rangeAt (b5) 0 (vl 16 (x)) ∧ w'.rangeAt (b6) 0 (vl 16 (y)) ∧ Below u2.heap.size u2 w')) (by kernel_rfl) ?_ (fun hHeld => ?_)
    · exact ⟨range_kept ((Below.refl u2.heap.size u2).drew) (row16_range X2.out), range_kept ((Below.refl u2.heap.size u2).drew) (row16_range X3.out), range_kept ((Below.refl u2.heap.size u2).drew) (row16_range X5.out), range_kept ((Below.refl u2.heap.size u2).drew) (row16_range X6.out), (Below.refl u2.heap.size u2).drew⟩
    have hs2 : Below u2.heap.size u2 u2.drew := (Below.refl u2.heap.size u2).drew
    generalize u2.drew = ws1 at *
    refine wpAnyH_take (i := 0) (v := ?_) rfl (by kernel_rfl) (by kernel_rfl) (by kernel_rfl) (fun _ _ _ h => h) (Or.inl ⟨by rfl, ?_⟩) hHeld ?_
    rotate_left
    · intro w' hSw
      (try dsimp only at hSw)
      go_simp
      try with_reducible rfl
    try simp only [Act.put, zq1, zq2, zq3, zq4, zq5, zq6]
    refine wpAnyH_take (i := 1) (v := ?_) rfl (by kernel_rfl) (by kernel_rfl) (by kernel_rfl) (fun _ _ _ h => h) (Or.inl ⟨by rfl, ?_⟩) hHeld ?_
    rotate_left
    · intro w' hSw
      (try dsimp only at hSw)
      go_simp
      try with_reducible rfl
    try simp only [Act.put, zq1, zq2, zq3, zq4, zq5, zq6]
    refine wpAnyH_take (i := 2) rfl (by kernel_rfl) (by kernel_rfl) (by kernel_rfl) (fun _ _ _ h => h) (yieldsIf_load_mid (by rfl) 39 (.tmp 12) rfl (b5) (0) rfl (vl 12 (x)) (.array 12 5) (fun _ h => range_pre12 (h.2.2.1)) Try.underlying39 rfl (vln12 _)) hHeld ?_
    try simp only [Act.put, zq1, zq2, zq3, zq4, zq5, zq6]
    refine wpAnyH_take (i := 3) (v := ?_) rfl (by kernel_rfl) (by kernel_rfl) (by kernel_rfl) (fun _ _ _ h => h) (Or.inl ⟨by rfl, ?_⟩) hHeld ?_
    rotate_left
    · intro w' hSw
      (try dsimp only at hSw)
      go_simp
      try with_reducible rfl
    try simp only [Act.put, zq1, zq2, zq3, zq4, zq5, zq6]
    refine wpAnyH_take (i := 4) (v := ?_) rfl (by kernel_rfl) (by kernel_rfl) (by kernel_rfl) (fun _ _ _ h => h) (Or.inl ⟨by rfl, ?_⟩) hHeld ?_
    rotate_left
    · intro w' hSw
      (try dsimp only at hSw)
      go_simp
      try with_reducible rfl
    try simp only [Act.put, zq1, zq2, zq3, zq4, zq5, zq6]
    refine wpAnyH_take (i := 5) rfl (by kernel_rfl) (by kernel_rfl) (by kernel_rfl) (fun _ _ _ h => h) (yieldsIf_load_mid (by rfl) 39 (.tmp 15) rfl (c2) (0) rfl (vl 12 (f)) (.array 12 5) (fun _ h => range_pre12 (h.1)) Try.underlying39 rfl (vln12 _)) hHeld ?_
    try simp only [Act.put, zq1, zq2, zq3, zq4, zq5, zq6]
    refine wpAnyH_take (i := 6) (v := ?_) rfl (by kernel_rfl) (by kernel_rfl) (by kernel_rfl) (fun _ _ _ h => h) (Or.inl ⟨by rfl, ?_⟩) hHeld ?_
    rotate_left
    · intro w' hSw
      (try dsimp only at hSw)
      go_simp
      try with_reducible rfl
    try simp only [Act.put, zq1, zq2, zq3, zq4, zq5, zq6]
    refine wpAnyH_take (i := 7) (v := ?_) rfl (by kernel_rfl) (by kernel_rfl) (by kernel_rfl) (fun _ _ _ h => h) (Or.inl ⟨by rfl, ?_⟩) hHeld ?_
    rotate_left
    · intro w' hSw
      (try dsimp only at hSw)
      go_simp
      try with_reducible rfl
    try simp only [Act.put, zq1, zq2, zq3, zq4, zq5, zq6]
    refine wpAnyH_take (i := 8) rfl (by kernel_rfl) (by kernel_rfl) (by kernel_rfl) (fun _ _ _ h => h) (yieldsIf_load_mid (by rfl) 23 (.tmp 5) rfl (b5) (0) rfl (vl 16 (x)) (.array 16 5) (fun _ h => h.2.2.1) Try.underlying23 rfl (vln _)) hHeld ?_
    try simp only [Act.put, zq1, zq2, zq3, zq4, zq5, zq6]
    refine wpAnyH_take (i := 9) rfl (by kernel_rfl) (by kernel_rfl) (by kernel_rfl) (fun _ _ _ h => h) (yieldsIf_load_mid (by rfl) 23 (.tmp 2) rfl (c2) (0) rfl (vl 16 (f)) (.array 16 5) (fun _ h => h.1) Try.underlying23 rfl (vln _)) hHeld ?_
    try simp only [Act.put, zq1, zq2, zq3, zq4, zq5, zq6]
    refine wpAnyH_take (i := 10) (v := ?_) rfl (by kernel_rfl) (by kernel_rfl) (by kernel_rfl) (fun _ _ _ h => h) (Or.inl ⟨by rfl, ?_⟩) hHeld ?_
    rotate_left
    · intro w' hSw
      (try dsimp only at hSw)
      go_simp
      try with_reducible rfl
    try simp only [Act.put, zq1, zq2, zq3, zq4, zq5, zq6]
    refine wpAnyH_take (i := 11) (v := ?_) rfl (by kernel_rfl) (by kernel_rfl) (by kernel_rfl) (fun _ _ _ h => h) (Or.inl ⟨by rfl, ?_⟩) hHeld ?_
    rotate_left
    · intro w' hSw
      (try dsimp only at hSw)
      go_simp
      try with_reducible rfl
    try simp only [Act.put, zq1, zq2, zq3, zq4, zq5, zq6]
    refine wpAnyH_take (i := 12) (v := ?_) rfl (by kernel_rfl) (by kernel_rfl) (by kernel_rfl) (fun _ _ _ h => h) (Or.inl ⟨by rfl, ?_⟩) hHeld ?_
    rotate_left
    · intro w' hSw
      (try dsimp only at hSw)
      go_simp
      try with_reducible rfl
    try simp only [Act.put, zq1, zq2, zq3, zq4, zq5, zq6]
    refine wpAnyH_take (i := 13) rfl (by kernel_rfl) (by kernel_rfl) (by kernel_rfl) (fun _ _ _ h => h) (yieldsIf_load_mid (by rfl) 23 (.tmp 5) rfl (b5) (0) rfl (vl 16 (x)) (.array 16 5) (fun _ h => h.2.2.1) Try.underlying23 rfl (vln _)) hHeld ?_
    try simp only [Act.put, zq1, zq2, zq3, zq4, zq5, zq6]
    refine wpAnyH_take (i := 14) rfl (by kernel_rfl) (by kernel_rfl) (by kernel_rfl) (fun _ _ _ h => h) (yieldsIf_load_mid (by rfl) 23 (.tmp 6) rfl (b6) (0) rfl (vl 16 (y)) (.array 16 5) (fun _ h => h.2.2.2.1) Try.underlying23 rfl (vln _)) hHeld ?_
    try simp only [Act.put, zq1, zq2, zq3, zq4, zq5, zq6]
    refine wpAnyH_take (i := 15) (v := ?_) rfl (by kernel_rfl) (by kernel_rfl) (by kernel_rfl) (fun _ _ _ h => h) (Or.inl ⟨by rfl, ?_⟩) hHeld ?_
    rotate_left
    · intro w' hSw
      (try dsimp only at hSw)
      go_simp
      try with_reducible rfl
    try simp only [Act.put, zq1, zq2, zq3, zq4, zq5, zq6]
    refine wpAnyH_take (i := 16) rfl (by kernel_rfl) (by kernel_rfl) (by kernel_rfl) (fun _ _ _ h => h) (yieldsIf_load_mid (by rfl) 23 (.tmp 2) rfl (c2) (0) rfl (vl 16 (f)) (.array 16 5) (fun _ h => h.1) Try.underlying23 rfl (vln _)) hHeld ?_
    try simp only [Act.put, zq1, zq2, zq3, zq4, zq5, zq6]
    refine wpAnyH_take (i := 17) rfl (by kernel_rfl) (by kernel_rfl) (by kernel_rfl) (fun _ _ _ h => h) (yieldsIf_load_mid (by rfl) 23 (.tmp 3) rfl (c3) (0) rfl (vl 16 (g)) (.array 16 5) (fun _ h => h.2.1) Try.underlying23 rfl (vln _)) hHeld ?_
    try simp only [Act.put, zq1, zq2, zq3, zq4, zq5, zq6]
    refine wpAnyH_take (i := 18) (v := ?_) rfl (by kernel_rfl) (by kernel_rfl) (by kernel_rfl) (fun _ _ _ h => h) (Or.inl ⟨by rfl, ?_⟩) hHeld ?_
    rotate_left
    · intro w' hSw
      (try dsimp only at hSw)
      go_simp
      try with_reducible rfl
    try simp only [Act.put, zq1, zq2, zq3, zq4, zq5, zq6]
    refine wpAnyH_take (i := 19) (v := ?_) rfl (by kernel_rfl) (by kernel_rfl) (by kernel_rfl) (fun _ _ _ h => h) (Or.inl ⟨by rfl, ?_⟩) hHeld ?_
    rotate_left
    · intro w' hSw
      (try dsimp only at hSw)
      go_simp
      try with_reducible rfl
    try simp only [Act.put, zq1, zq2, zq3, zq4, zq5, zq6]
    refine wpAnyH_take (i := 20) (v := ?_) rfl (by kernel_rfl) (by kernel_rfl) (by kernel_rfl) (fun _ _ _ h => h) (Or.inl ⟨by rfl, ?_⟩) hHeld ?_
    rotate_left
    · intro w' hSw
      (try dsimp only at hSw)
      go_simp
      try with_reducible rfl
    try simp only [Act.put, zq1, zq2, zq3, zq4, zq5, zq6]
    refine wpAnyH_take (i := 21) (v := ?_) rfl (by kernel_rfl) (by kernel_rfl) (by kernel_rfl) (fun _ _ _ h => h) (Or.inl ⟨by rfl, ?_⟩) hHeld ?_
    rotate_left
    · intro w' hSw
      (try dsimp only at hSw)
      go_simp
      try with_reducible rfl
    try simp only [Act.put, zq1, zq2, zq3, zq4, zq5, zq6]
    refine wpAnyH_ready (rs := [22]) (by kernel_rfl) (by simp) ?_
    refine AllReadyH.cons rfl (fun K hK => ?_) (AllReadyH.nil)
    try simp only [zq1, zq2, zq3]
    go_simp
    refine (known05_any _).mono ?_
    rintro e w3 ⟨rfl, hb4⟩
    have hw5 : Below u2.heap.size u2 w3 := hs2.trans (hb4.mono hs2.size)
    refine hK.out _ _ ?_ (fun hHeld => ?_)
    · exact ⟨range_kept (hw5) (row16_range X2.out), range_kept (hw5) (row16_range X3.out), range_kept (hw5) (row16_range X5.out), range_kept (hw5) (row16_range X6.out), hw5⟩
    clear hK K
    try simp only [Act.put, zq1, zq2, zq3, zq4, zq5, zq6]
    clear hb4
    refine wpAnyH_take (i := 23) (v := ?_) rfl (by kernel_rfl) (by kernel_rfl) (by kernel_rfl) (fun _ _ _ h => h) (Or.inl ⟨by rfl, ?_⟩) hHeld ?_
    rotate_left
    · intro w' hSw
      (try dsimp only at hSw)
      go_simp
      try with_reducible rfl
    try simp only [Act.put, zq1, zq2, zq3, zq4, zq5, zq6]
    refine wpAnyH_take (i := 24) (v := ?_) rfl (by kernel_rfl) (by kernel_rfl) (by kernel_rfl) (fun _ _ _ h => h) (Or.inl ⟨by rfl, ?_⟩) hHeld ?_
    rotate_left
    · intro w' hSw
      (try dsimp only at hSw)
      go_simp
      try with_reducible rfl
    try simp only [Act.put, zq1, zq2, zq3, zq4, zq5, zq6]
    refine wpAnyH_done (by kernel_rfl) ?_ _
    refine NoPanic.normal ?_
    go_wp2_with fail
    go_ret
    exact ⟨rfl, HB.out.trans (hw5.mono HB.out.size)⟩

set_option maxRecDepth 100000 in
theorem kround_lifted (os : Os) (started : os.Started) (H : Type) (enc : TypeId × Value → H) :
    ReturnsInHanded {} Try.checked os 6 .any (Rows.ctrRoundSpec.pre6 enc Try.prog Try.f6 Rows.ctrRoundRow.domain false) (Rows.ctrRoundSpec.post enc Try.prog Try.f6 false true false false) := by
  refine returnsInHanded_of_change_sized (C := Try.checked) Try.own started (by kernel_rfl) Try.func6
    (ChangeSpec.witness6 (enc := enc) (C := Try.checked) false ⟨#[], #[.agg #[.int .u8 0, .int .u8 0, .int .u8 0, .int .u8 0, .int .u8 0, .int .u8 0, .int .u8 0, .int .u8 0, .int .u8 0, .int .u8 0, .int .u8 0, .int .u8 0, .int .u8 0, .int .u8 0, .int .u8 0, .int .u8 0], .agg #[.int .u8 0, .int .u8 0, .int .u8 0, .int .u8 0, .int .u8 0, .int .u8 0, .int .u8 0, .int .u8 0, .int .u8 0, .int .u8 0, .int .u8 0, .int .u8 0, .int .u8 0, .int .u8 0, .int .u8 0, .int .u8 0]], []⟩ 8 (by kernel_rfl) (by kernel_rfl) (by kernel_rfl) (by kernel_rfl)) ?_
  intro W base args ds gs before hval0 hW _ hsz0 _
  have hsz : (DataW.weightsEach Try.prog (Try.f6.params.toList ++ Rows.ctrRoundSpec.plain.varTypes Try.prog) (ds ++ gs)).all (· ≤ reachBytes) = true := hsz0
  have hval : ∀ (j : Nat) t v, Try.f6.params[j]? = some t → args[j]? = some v → Value.okWide Try.prog W .any base t v := hval0
  have hW' := hW
  obtain ⟨p, q, hA0, hV, rfl, _, _⟩ := hW
  have hA : DataW.TrodAll enc Try.prog W 0 (fun _ => true) true Try.f6.params.toList args.toList ds p := hA0
  rw [Try.params6] at hA hval hsz
  have hlt := hW'.lt
  clear hA0 hval0 hsz0
  obtain ⟨v0, vs0, d0, ds0, p0, q0, hv0, rfl, rfl, h0, r0⟩ := trodAll_cons hA
  obtain ⟨v1, vs1, d1, ds1, p1, q1, hv1, rfl, rfl, h1, r1⟩ := trodAll_cons r0
  subst hv1
  obtain ⟨rfl, rfl, rfl⟩ := trodAll_nil r1
  obtain rfl : args = #[v0, v1] := by cases args; simp_all
  obtain ⟨rfl, rfl⟩ := trodVars_none hV
  obtain ⟨f0, rfl, u0⟩ := open_arr_u8 Try.underlying23 Try.underlying5 Try.cellsU8 (by kernel_rfl) (hval 0 23 v0 rfl rfl) h0
  obtain ⟨f1, rfl, u1⟩ := open_arr_u8 Try.underlying23 Try.underlying5 Try.cellsU8 (by kernel_rfl) (hval 1 23 v1 rfl rfl) h1
  refine (kround_any f0 f1 W u0 u1).mono fun e W' ⟨he, hb⟩ => ⟨_, he, ?_⟩
  exact law_post 4 Try.underlying4 (by kernel_rfl) rfl Try.laidOut (by kernel_rfl) hW' ⟨rfl, rfl, rfl⟩ hb

theorem kround_holds : Rows.CtrRoundSaid :=
  OpenClaim.holds_of_wide 6 Try.f6 rfl rfl rfl rfl rfl rfl rfl ⟨rfl, rfl, rfl, rfl, rfl⟩ rfl rfl rfl rfl rfl (by kernel_rfl) Try.func6 (by kernel_rfl)
    (of_decide_eq_true (by kernel_rfl)) (by unfold Func.isWrapper; first | (rw [if_pos (by decide +kernel)]; kernel_rfl) | (rw [if_neg (by decide +kernel)]; exact ⟨rfl, rfl⟩))
    (fun os started H enc _ => kround_lifted os started H enc)
end Go.Proofs.Ytfgigoheaoanpaa
