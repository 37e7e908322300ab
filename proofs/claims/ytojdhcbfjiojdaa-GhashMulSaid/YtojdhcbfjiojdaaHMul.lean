/-
  The product of any two elements is the document's: GhashMul, for every input.
-/
import Derived.Test.YtojdhcbfjiojdaaLaw
import Derived.Test.YtojdhcbfjiojdaaGhL
namespace Go.Proofs.Ytojdhcbfjiojdaa
open Go Go.RowKit Go.ChangeShapes Go.WideShapes Go.ChangeAt
set_option linter.unusedVariables false
set_option linter.unusedSimpArgs false

set_option maxRecDepth 100000 in
set_option maxHeartbeats 4000000 in
theorem hmul_any (f g : Nat → Nat) (w : World) (hf : ∀ i, i < 16 → f i < 256) (hg : ∀ i, i < 16 → g i < 256) :
    Calls Try.prog 3 #[.agg (aN 16 f), .agg (aN 16 g)] w fun e w' => e = .returned (.bool true) ∧ Below w.heap.size w w' := by
  have HF : Hid (B16 f) := Lib.hid hf; clear hf
  have HG : Hid (B16 g) := Lib.hid hg; clear hg
  have H2 : Hid (H16 ((w.alloc (.cells (aN 16 f) 22)).alloc (.cells (aN 16 g) 22)) w.heap.size f) := Lib.hid (H16.alloc _ (H16.newAt rfl))
  have H3 : Hid (H16 ((w.alloc (.cells (aN 16 f) 22)).alloc (.cells (aN 16 g) 22)) (w.heap.size + 1) g) := Lib.hid (H16.newAt (w := w.alloc (.cells (aN 16 f) 22)) (by rw [World.size_alloc]))
  have HB : Hid (Below w.heap.size w ((w.alloc (.cells (aN 16 f) 22)).alloc (.cells (aN 16 g) 22))) := Lib.hid (((Below.refl _ _).alloc (Nat.le_refl _) _).alloc (by simp) _)
  have hq := eqv (hby (hm (hof (f)) (hof (g)))) (hby (hm (hof (f)) (hof (g)))) true (sameB_true (E16.refl _))
  have hg16 := guard16
  go_enter Try.func3, Try.ntmps3
  go_upto_region 1 with fail
  generalize (w.alloc (.cells (aN 16 f) 22)).alloc (.cells (aN 16 g) 22) = w0 at *
  refine wp_region_noPanic ?_
  refine wp_region_held_drew (S := (fun w' => w'.rangeAt (w.heap.size) 0 (vl 16 (f)) ∧ w'.rangeAt (w.heap.size + 1) 0 (vl 16 (g)) ∧ Below w0.heap.size w0 w')) (by kernel_rfl) ?_ (fun hHeld => ?_)
  · exact ⟨range_kept ((Below.refl w0.heap.size w0).drew) (row16_range H2.out), range_kept ((Below.refl w0.heap.size w0).drew) (row16_range H3.out), (Below.refl w0.heap.size w0).drew⟩
  have hs2 : Below w0.heap.size w0 w0.drew := (Below.refl w0.heap.size w0).drew
  generalize w0.drew = ws1 at *
  refine wpAnyH_take (i := 0) rfl (by kernel_rfl) (by kernel_rfl) (by kernel_rfl) (fun _ _ _ h => h) (yieldsIf_load_mid (by rfl) 22 (.tmp 2) rfl (w.heap.size) (0) rfl (vl 16 (f)) (.array 16 5) (fun _ h => h.1) Try.underlying22 rfl (by rw [vl_len]; exact blk_size)) hHeld ?_
  try simp only [Act.put, y1, y2, y3, y4, y5, y6]
  refine wpAnyH_take (i := 1) rfl (by kernel_rfl) (by kernel_rfl) (by kernel_rfl) (fun _ _ _ h => h) (yieldsIf_load_mid (by rfl) 22 (.tmp 3) rfl (w.heap.size + 1) (0) rfl (vl 16 (g)) (.array 16 5) (fun _ h => h.2.1) Try.underlying22 rfl (by rw [vl_len]; exact blk_size)) hHeld ?_
  try simp only [Act.put, y1, y2, y3, y4, y5, y6]
  refine wpAnyH_take (i := 3) rfl (by kernel_rfl) (by kernel_rfl) (by kernel_rfl) (fun _ _ _ h => h) (yieldsIf_load_mid (by rfl) 22 (.tmp 2) rfl (w.heap.size) (0) rfl (vl 16 (f)) (.array 16 5) (fun _ h => h.1) Try.underlying22 rfl (by rw [vl_len]; exact blk_size)) hHeld ?_
  try simp only [Act.put, y1, y2, y3, y4, y5, y6]
  refine wpAnyH_take (i := 4) rfl (by kernel_rfl) (by kernel_rfl) (by kernel_rfl) (fun _ _ _ h => h) (yieldsIf_load_mid (by rfl) 22 (.tmp 3) rfl (w.heap.size + 1) (0) rfl (vl 16 (g)) (.array 16 5) (fun _ h => h.2.1) Try.underlying22 rfl (by rw [vl_len]; exact blk_size)) hHeld ?_
  try simp only [Act.put, y1, y2, y3, y4, y5, y6]
  refine wpAnyH_ready (rs := [2]) (by kernel_rfl) (by simp) ?_
  refine AllReadyH.cons rfl (fun K hK => ?_) (AllReadyH.nil)
  try simp only [y1, y2, y3]
  go_simp
  refine (cmul_any f g _ HF.out HG.out).mono ?_
  rintro e w3 ⟨rfl, hb4⟩
  rw [aN_vl 16 (hby (hm (hof (f)) (hof (g))))]
  have hw5 : Below w0.heap.size w0 w3 := hs2.trans (hb4.mono hs2.size)
  refine hK.out _ _ ?_ (fun hHeld => ?_)
  · exact ⟨range_kept (hw5) (row16_range H2.out), range_kept (hw5) (row16_range H3.out), hw5⟩
  clear hK K
  try simp only [Act.put, y1, y2, y3, y4, y5, y6]
  clear hb4
  refine wpAnyH_ready (rs := [5]) (by kernel_rfl) (by simp) ?_
  refine AllReadyH.cons rfl (fun K hK => ?_) (AllReadyH.nil)
  try simp only [y1, y2, y3]
  go_simp
  refine (gmul_any f g _ HF.out HG.out).mono ?_
  rintro e w6 ⟨rfl, hb7⟩
  rw [aN_vl 16 (hby (hm (hof (f)) (hof (g))))]
  have hw8 : Below w0.heap.size w0 w6 := hw5.trans (hb7.mono hw5.size)
  refine hK.out _ _ ?_ (fun hHeld => ?_)
  · exact ⟨range_kept (hw8) (row16_range H2.out), range_kept (hw8) (row16_range H3.out), hw8⟩
  clear hK K
  try simp only [Act.put, y1, y2, y3, y4, y5, y6]
  clear hb7
  refine wpAnyH_take (i := 6) (v := ?_) rfl (by kernel_rfl) (by kernel_rfl) (by kernel_rfl) (fun _ _ _ h => h) (Or.inl ⟨by rfl, ?_⟩) hHeld ?_
  rotate_left
  · intro w' hSw
    (try dsimp only at hSw)
    go_simp
    try with_reducible rfl
  try simp only [Act.put, y1, y2, y3, y4, y5, y6]
  refine wpAnyH_take (i := 7) (v := ?_) rfl (by kernel_rfl) (by kernel_rfl) (by kernel_rfl) (fun _ _ _ h => h) (Or.inl ⟨by rfl, ?_⟩) hHeld ?_
  rotate_left
  · intro w' hSw
    (try dsimp only at hSw)
    go_simp
    try with_reducible rfl
  try simp only [Act.put, y1, y2, y3, y4, y5, y6]
  refine wpAnyH_ready (rs := [8]) (by kernel_rfl) (by simp) ?_
  refine AllReadyH.cons rfl (fun K hK => ?_) (AllReadyH.nil)
  try simp only [y1, y2, y3]
  go_simp
  refine (known04_any _).mono ?_
  rintro e w9 ⟨rfl, hb10⟩
  have hw11 : Below w0.heap.size w0 w9 := hw8.trans (hb10.mono hw8.size)
  refine hK.out _ _ ?_ (fun hHeld => ?_)
  · exact ⟨range_kept (hw11) (row16_range H2.out), range_kept (hw11) (row16_range H3.out), hw11⟩
  clear hK K
  try simp only [Act.put, y1, y2, y3, y4, y5, y6]
  clear hb10
  refine wpAnyH_take (i := 9) (v := ?_) rfl (by kernel_rfl) (by kernel_rfl) (by kernel_rfl) (fun _ _ _ h => h) (Or.inl ⟨by rfl, ?_⟩) hHeld ?_
  rotate_left
  · intro w' hSw
    (try dsimp only at hSw)
    go_simp
    try with_reducible rfl
  try simp only [Act.put, y1, y2, y3, y4, y5, y6]
  refine wpAnyH_take (i := 10) (v := ?_) rfl (by kernel_rfl) (by kernel_rfl) (by kernel_rfl) (fun _ _ _ h => h) (Or.inl ⟨by rfl, ?_⟩) hHeld ?_
  rotate_left
  · intro w' hSw
    (try dsimp only at hSw)
    go_simp
    try with_reducible rfl
  try simp only [Act.put, y1, y2, y3, y4, y5, y6]
  refine wpAnyH_done (by kernel_rfl) ?_ _
  refine NoPanic.normal ?_
  go_wp2_with fail
  go_ret
  exact ⟨rfl, HB.out.trans (hw11.mono HB.out.size)⟩

set_option maxRecDepth 100000 in
theorem hmul_lifted (os : Os) (started : os.Started) (H : Type) (enc : TypeId × Value → H) :
    ReturnsInHanded {} Try.checked os 3 .any (Rows.ghashMulSpec.pre6 enc Try.prog Try.f3 Rows.ghashMulRow.domain false) (Rows.ghashMulSpec.post enc Try.prog Try.f3 false true false false) := by
  refine returnsInHanded_of_change_sized (C := Try.checked) Try.own started (by kernel_rfl) Try.func3
    (ChangeSpec.witness6 (enc := enc) (C := Try.checked) false ⟨#[], #[.agg #[.int .u8 0, .int .u8 0, .int .u8 0, .int .u8 0, .int .u8 0, .int .u8 0, .int .u8 0, .int .u8 0, .int .u8 0, .int .u8 0, .int .u8 0, .int .u8 0, .int .u8 0, .int .u8 0, .int .u8 0, .int .u8 0], .agg #[.int .u8 0, .int .u8 0, .int .u8 0, .int .u8 0, .int .u8 0, .int .u8 0, .int .u8 0, .int .u8 0, .int .u8 0, .int .u8 0, .int .u8 0, .int .u8 0, .int .u8 0, .int .u8 0, .int .u8 0, .int .u8 0]], []⟩ 8 (by kernel_rfl) (by kernel_rfl) (by kernel_rfl) (by kernel_rfl)) ?_
  intro W base args ds gs before hval0 hW _ hsz0 _
  have hsz : (DataW.weightsEach Try.prog (Try.f3.params.toList ++ Rows.ghashMulSpec.plain.varTypes Try.prog) (ds ++ gs)).all (· ≤ reachBytes) = true := hsz0
  have hval : ∀ (j : Nat) t v, Try.f3.params[j]? = some t → args[j]? = some v → Value.okWide Try.prog W .any base t v := hval0
  have hW' := hW
  obtain ⟨p, q, hA0, hV, rfl, _, _⟩ := hW
  have hA : DataW.TrodAll enc Try.prog W 0 (fun _ => true) true Try.f3.params.toList args.toList ds p := hA0
  rw [Try.params3] at hA hval hsz
  have hlt := hW'.lt
  clear hA0 hval0 hsz0
  obtain ⟨v0, vs0, d0, ds0, p0, q0, hv0, rfl, rfl, h0, r0⟩ := trodAll_cons hA
  obtain ⟨v1, vs1, d1, ds1, p1, q1, hv1, rfl, rfl, h1, r1⟩ := trodAll_cons r0
  subst hv1
  obtain ⟨rfl, rfl, rfl⟩ := trodAll_nil r1
  obtain rfl : args = #[v0, v1] := by cases args; simp_all
  obtain ⟨rfl, rfl⟩ := trodVars_none hV
  obtain ⟨f0, rfl, u0⟩ := open_arr_u8 Try.underlying22 Try.underlying5 Try.cellsU8 (by kernel_rfl) (hval 0 22 v0 rfl rfl) h0
  obtain ⟨f1, rfl, u1⟩ := open_arr_u8 Try.underlying22 Try.underlying5 Try.cellsU8 (by kernel_rfl) (hval 1 22 v1 rfl rfl) h1
  refine (hmul_any f0 f1 W u0 u1).mono fun e W' ⟨he, hb⟩ => ⟨_, he, ?_⟩
  exact law_post 4 Try.underlying4 (by kernel_rfl) rfl Try.laidOut (by kernel_rfl) hW' ⟨rfl, rfl, rfl⟩ hb

theorem hmul_holds : Rows.GhashMulSaid :=
  OpenClaim.holds_of_wide 3 Try.f3 rfl rfl rfl rfl rfl rfl rfl ⟨rfl, rfl, rfl, rfl, rfl⟩ rfl rfl rfl rfl rfl (by kernel_rfl) Try.func3 (by kernel_rfl)
    (of_decide_eq_true (by kernel_rfl)) (by unfold Func.isWrapper; first | (rw [if_pos (by decide +kernel)]; kernel_rfl) | (rw [if_neg (by decide +kernel)]; exact ⟨rfl, rfl⟩))
    (fun os started H enc _ => hmul_lifted os started H enc)
end Go.Proofs.Ytojdhcbfjiojdaa
