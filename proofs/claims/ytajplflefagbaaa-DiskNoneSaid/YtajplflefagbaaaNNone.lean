/-
  A device that is not there answers ErrNil and zero values, whatever it is asked: DiskNone, for every input.
-/
import Derived.Test.YtajplflefagbaaaArg
import Derived.Test.YtajplflefagbaaaDkL
namespace Go.Proofs.Ytajplflefagbaaa
open Go Go.RowKit Go.ChangeShapes Go.WideShapes Go.ChangeAt Go.Deep
set_option linter.unusedVariables false
set_option linter.unusedSimpArgs false

theorem one_call8 {w w' : World} {b : Nat} {o : Obj} (h : w.heap[b]? = some o) (hb : Below w.heap.size w w') : w'.heap[b]? = some o := (hb.block b (Array.getElem?_eq_some_iff.1 h).1).trans h
set_option maxRecDepth 100000 in
set_option maxHeartbeats 20000000 in
theorem nnone_any (k i a : Int) (A : Option Addr) (bl : List UInt8) (bn bc : Nat) (hbn : bl.length = bn) (M : Option Addr) (ml : List UInt8) (mn mc : Nat) (hmn : ml.length = mn) (w : World)
    (hk : -9223372036854775808 ≤ k ∧ k ≤ 9223372036854775807) (hi : -9223372036854775808 ≤ i ∧ i ≤ 9223372036854775807) (ha : -9223372036854775808 ≤ a ∧ a ≤ 9223372036854775807) (hb1 : bl.length ≤ 140737488351232) (hb2 : bl.length ≤ bc) (hbr : Rd w w.heap.size A (vb bl)) (hm1 : ml.length ≤ 140737488351232) (hm2 : ml.length ≤ mc) (hmr : Rd w w.heap.size M (vb ml)) :
    Calls Try.prog 4 #[.agg #[.int .i64 k, .int .i64 i, .int .i64 a, .slice A bn bc, .slice M mn mc]] w fun e w' => e = .returned (.bool true) ∧ Below w.heap.size w w' := by
  clear hbn hmn hk hi ha hb1 hb2 hbr hm1 hm2 hmr
  have hO : (w.alloc (.cells #[.int .i64 k, .int .i64 i, .int .i64 a, .slice A bn bc, .slice M mn mc] 36)).heap[w.heap.size]? = some (.cells #[.int .i64 k, .int .i64 i, .int .i64 a, .slice A bn bc, .slice M mn mc] 36 (0, 0)) := heap_alloc_new w _
  have hb0 : Below w.heap.size w (w.alloc (.cells #[.int .i64 k, .int .i64 i, .int .i64 a, .slice A bn bc, .slice M mn mc] 36)) := (Below.refl _ _).alloc (Nat.le_refl _) _
  have HC : Hid (∀ W : World, W.heap[w.heap.size]? = some (.cells #[.int .i64 k, .int .i64 i, .int .i64 a, .slice A bn bc, .slice M mn mc] 36 (0, 0)) → W.cell? ⟨w.heap.size, 1, none⟩ = some (.int .i64 i) ∧ W.cell? ⟨w.heap.size, 2, none⟩ = some (.int .i64 a) ∧ W.cell? ⟨w.heap.size, 3, none⟩ = some (.slice A bn bc) ∧ W.cell? ⟨w.heap.size, 4, none⟩ = some (.slice M mn mc)) :=
    Lib.hid fun W h => ⟨by rw [cell_of_row _ _ _ _ _ _ h]; rfl, by rw [cell_of_row _ _ _ _ _ _ h]; rfl, by rw [cell_of_row _ _ _ _ _ _ h]; rfl, by rw [cell_of_row _ _ _ _ _ _ h]; rfl⟩
  go_enter Try.func4, Try.ntmps4
  go_upto_region 2 with fail
  generalize w.alloc (.cells #[.int .i64 k, .int .i64 i, .int .i64 a, .slice A bn bc, .slice M mn mc] 36) = w0 at *
  have HS := Lib.hid (And.intro hO hb0); clear hO hb0
  obtain ⟨d1, d2, d3, d4⟩ := HC.out w0 HS.out.1
  go_wp2_with fail
  clear d1 d2 d3 d4
  refine (cdfail_nil _ i).mono ?_
  rintro e w1 ⟨rfl, hb⟩
  replace HS := Lib.hid (And.intro (one_call8 HS.out.1 hb) (HS.out.2.trans (hb.mono HS.out.2.size))); clear hb
  try clear w0
  obtain ⟨d1, d2, d3, d4⟩ := HC.out w1 HS.out.1
  go_wp2_with fail
  clear d1 d2 d3 d4
  refine (cdcut_nil _ i).mono ?_
  rintro e w2 ⟨rfl, hb⟩
  replace HS := Lib.hid (And.intro (one_call8 HS.out.1 hb) (HS.out.2.trans (hb.mono HS.out.2.size))); clear hb
  try clear w1
  obtain ⟨d1, d2, d3, d4⟩ := HC.out w2 HS.out.1
  go_wp2_with fail
  clear d1 d2 d3 d4
  refine (cdread_nil _ i).mono ?_
  rintro e w3 ⟨A2, c2, rfl, hb⟩
  replace HS := Lib.hid (And.intro (one_call8 HS.out.1 hb) (HS.out.2.trans (hb.mono HS.out.2.size))); clear hb
  try clear w2
  obtain ⟨d1, d2, d3, d4⟩ := HC.out w3 HS.out.1
  go_wp2_with fail
  clear d1 d2 d3 d4
  refine (cdfirm_nil _ i).mono ?_
  rintro e w4 ⟨A3, c3, rfl, hb⟩
  replace HS := Lib.hid (And.intro (one_call8 HS.out.1 hb) (HS.out.2.trans (hb.mono HS.out.2.size))); clear hb
  try clear w3
  obtain ⟨d1, d2, d3, d4⟩ := HC.out w4 HS.out.1
  go_wp2_with fail
  clear d1 d2 d3 d4
  refine (cdblocks_nil _).mono ?_
  rintro e w5 ⟨rfl, hb⟩
  replace HS := Lib.hid (And.intro (one_call8 HS.out.1 hb) (HS.out.2.trans (hb.mono HS.out.2.size))); clear hb
  try clear w4
  obtain ⟨d1, d2, d3, d4⟩ := HC.out w5 HS.out.1
  go_wp2_with fail
  clear d1 d2 d3 d4
  refine (cdsteps_nil _).mono ?_
  rintro e w6 ⟨rfl, hb⟩
  replace HS := Lib.hid (And.intro (one_call8 HS.out.1 hb) (HS.out.2.trans (hb.mono HS.out.2.size))); clear hb
  try clear w5
  obtain ⟨d1, d2, d3, d4⟩ := HC.out w6 HS.out.1
  go_wp2_with fail
  clear d1 d2 d3 d4
  refine (cdwaiting_nil _).mono ?_
  rintro e w7 ⟨rfl, hb⟩
  replace HS := Lib.hid (And.intro (one_call8 HS.out.1 hb) (HS.out.2.trans (hb.mono HS.out.2.size))); clear hb
  try clear w6
  obtain ⟨d1, d2, d3, d4⟩ := HC.out w7 HS.out.1
  go_wp2_with fail
  clear d1 d2 d3 d4
  refine (cddown_nil _).mono ?_
  rintro e w8 ⟨rfl, hb⟩
  replace HS := Lib.hid (And.intro (one_call8 HS.out.1 hb) (HS.out.2.trans (hb.mono HS.out.2.size))); clear hb
  try clear w7
  obtain ⟨d1, d2, d3, d4⟩ := HC.out w8 HS.out.1
  go_wp2_with fail
  clear d1 d2 d3 d4
  refine (cdfork_nil _).mono ?_
  rintro e w9 ⟨rfl, hb⟩
  replace HS := Lib.hid (And.intro (one_call8 HS.out.1 hb) (HS.out.2.trans (hb.mono HS.out.2.size))); clear hb
  try clear w8
  obtain ⟨d1, d2, d3, d4⟩ := HC.out w9 HS.out.1
  go_wp2_with fail
  clear d1 d2 d3 d4
  refine (cdwrite_nil _ i A bn bc).mono ?_
  rintro e w10 ⟨rfl, hb⟩
  replace HS := Lib.hid (And.intro (one_call8 HS.out.1 hb) (HS.out.2.trans (hb.mono HS.out.2.size))); clear hb
  try clear w9
  obtain ⟨d1, d2, d3, d4⟩ := HC.out w10 HS.out.1
  go_wp2_with fail
  clear d1 d2 d3 d4
  refine (cdsync_nil _).mono ?_
  rintro e w11 ⟨rfl, hb⟩
  replace HS := Lib.hid (And.intro (one_call8 HS.out.1 hb) (HS.out.2.trans (hb.mono HS.out.2.size))); clear hb
  try clear w10
  obtain ⟨d1, d2, d3, d4⟩ := HC.out w11 HS.out.1
  go_wp2_with fail
  clear d1 d2 d3 d4
  refine (cdstep_nil _).mono ?_
  rintro e w12 ⟨rfl, hb⟩
  replace HS := Lib.hid (And.intro (one_call8 HS.out.1 hb) (HS.out.2.trans (hb.mono HS.out.2.size))); clear hb
  try clear w11
  obtain ⟨d1, d2, d3, d4⟩ := HC.out w12 HS.out.1
  go_wp2_with fail
  clear d1 d2 d3 d4
  refine (cdcrash_nil _ M mn mc).mono ?_
  rintro e w13 ⟨rfl, hb⟩
  replace HS := Lib.hid (And.intro (one_call8 HS.out.1 hb) (HS.out.2.trans (hb.mono HS.out.2.size))); clear hb
  try clear w12
  obtain ⟨d1, d2, d3, d4⟩ := HC.out w13 HS.out.1
  go_wp2_with fail
  clear d1 d2 d3 d4
  refine (cdforeign_nil _ i a A bn bc).mono ?_
  rintro e w14 ⟨rfl, hb⟩
  replace HS := Lib.hid (And.intro (one_call8 HS.out.1 hb) (HS.out.2.trans (hb.mono HS.out.2.size))); clear hb
  try clear w13
  obtain ⟨d1, d2, d3, d4⟩ := HC.out w14 HS.out.1
  go_wp2_with fail
  clear d1 d2 d3 d4
  refine (known08_any _).mono ?_
  rintro e w15 ⟨rfl, hb⟩
  replace HS := Lib.hid (And.intro (one_call8 HS.out.1 hb) (HS.out.2.trans (hb.mono HS.out.2.size))); clear hb
  try clear w14
  go_wp2_with fail
  go_ret
  exact ⟨rfl, HS.out.2⟩
set_option maxRecDepth 100000 in
theorem nnone_lifted (os : Os) (started : os.Started) (H : Type) (enc : TypeId × Value → H) :
    ReturnsInHanded {} Try.checked os 4 .any (Rows.diskNoneSpec.pre6 enc Try.prog Try.f4 Rows.diskNoneRow.domain false) (Rows.diskNoneSpec.post enc Try.prog Try.f4 false true false false) := by
  refine returnsInHanded_of_change_sized (C := Try.checked) Try.own started (by kernel_rfl) Try.func4
    (ChangeSpec.witness6 (enc := enc) (C := Try.checked) false ⟨#[], #[.agg #[.int .i64 0, .int .i64 0, .int .i64 0, .slice none 0 0, .slice none 0 0]], []⟩ 8 (by kernel_rfl) (by kernel_rfl) (by kernel_rfl) (by kernel_rfl)) ?_
  intro W base args ds gs before hval0 hW _ hsz0 _
  have hsz : (DataW.weightsEach Try.prog (Try.f4.params.toList ++ Rows.diskNoneSpec.plain.varTypes Try.prog) (ds ++ gs)).all (· ≤ reachBytes) = true := hsz0
  have hval : ∀ (j : Nat) t v, Try.f4.params[j]? = some t → args[j]? = some v → Value.okWide Try.prog W .any base t v := hval0
  have hW' := hW
  obtain ⟨p, q, hA0, hV, rfl, _, _⟩ := hW
  have hA : DataW.TrodAll enc Try.prog W 0 (fun _ => true) true Try.f4.params.toList args.toList ds p := hA0
  rw [Try.params4] at hA hval hsz
  have hlt := hW'.lt
  clear hA0 hval0 hsz0
  obtain ⟨v0, vs0, d0, ds0, p0, q0, hv0, rfl, rfl, h0, r0⟩ := trodAll_cons hA
  obtain ⟨rfl, rfl, rfl⟩ := trodAll_nil r0
  obtain rfl : args = #[v0] := by cases args; simp_all
  obtain ⟨rfl, rfl⟩ := trodVars_none hV
  obtain ⟨V0, Y0, m0, rfl, rfl, rfl, hf0⟩ := open_struct Try.underlying36 (by kernel_rfl) (by kernel_rfl) (hval 0 36 v0 rfl rfl) h0
  have hz0 := sized_struct hsz (j := 0) (t := 36) rfl rfl Try.underlying36
  obtain ⟨a0_0, e0_0, w0_0⟩ := field_int Try.underlying3 (hf0 0 _ rfl)
  have b0_0 : -9223372036854775808 ≤ a0_0 ∧ a0_0 ≤ 9223372036854775807 := by simpa [Lit.wf, IntKind.min, IntKind.max, IntKind.signed, IntKind.bits] using w0_0
  obtain ⟨a0_1, e0_1, w0_1⟩ := field_int Try.underlying3 (hf0 1 _ rfl)
  have b0_1 : -9223372036854775808 ≤ a0_1 ∧ a0_1 ≤ 9223372036854775807 := by simpa [Lit.wf, IntKind.min, IntKind.max, IntKind.signed, IntKind.bits] using w0_1
  obtain ⟨a0_2, e0_2, w0_2⟩ := field_int Try.underlying3 (hf0 2 _ rfl)
  have b0_2 : -9223372036854775808 ≤ a0_2 ∧ a0_2 ≤ 9223372036854775807 := by simpa [Lit.wf, IntKind.min, IntKind.max, IntKind.signed, IntKind.bits] using w0_2
  obtain ⟨A0_3, l0_3, c0_3, e0_3, rd0_3, le0_3, lc0_3⟩ := field_bytes Try.underlying34 Try.underlying5 Try.cellsU8 (hf0 3 _ rfl) (fun x hx => hlt x (by have hm : x ∈ (List.range 5).flatMap (fun i => (Y0 i).2) := List.mem_flatMap.2 ⟨3, List.mem_range.2 (by decide), hx⟩; first | exact hm | exact List.mem_append_left _ hm | exact List.mem_append_left _ (List.mem_append_left _ hm) | trace_state)) (fun es sp he => by have := sized_slice hz0 (j := 3) (t := 34) (e := 5) (elems := es) (spare := sp) rfl (show some (Y0 3).1 = _ from congrArg some he) Try.underlying34; rw [Try.bytesU8, Nat.mul_one] at this; exact this)
  obtain ⟨A0_4, l0_4, c0_4, e0_4, rd0_4, le0_4, lc0_4⟩ := field_bytes Try.underlying34 Try.underlying5 Try.cellsU8 (hf0 4 _ rfl) (fun x hx => hlt x (by have hm : x ∈ (List.range 5).flatMap (fun i => (Y0 i).2) := List.mem_flatMap.2 ⟨4, List.mem_range.2 (by decide), hx⟩; first | exact hm | exact List.mem_append_left _ hm | exact List.mem_append_left _ (List.mem_append_left _ hm) | trace_state)) (fun es sp he => by have := sized_slice hz0 (j := 4) (t := 34) (e := 5) (elems := es) (spare := sp) rfl (show some (Y0 4).1 = _ from congrArg some he) Try.underlying34; rw [Try.bytesU8, Nat.mul_one] at this; exact this)
  have ea0 : ((List.range 5).map V0).toArray = #[.int .i64 a0_0, .int .i64 a0_1, .int .i64 a0_2, .slice A0_3 l0_3.length c0_3, .slice A0_4 l0_4.length c0_4] := by rw [show (List.range 5).map V0 = [V0 0, V0 1, V0 2, V0 3, V0 4] from rfl, e0_0, e0_1, e0_2, e0_3, e0_4]
  have hw := nnone_any a0_0 a0_1 a0_2 A0_3 l0_3 l0_3.length c0_3 rfl A0_4 l0_4 l0_4.length c0_4 rfl W b0_0 b0_1 b0_2 le0_3 lc0_3 rd0_3 le0_4 lc0_4 rd0_4
  rw [← ea0] at hw
  refine (hw).mono fun e W' ⟨he, hb⟩ => ⟨_, he, ?_⟩
  exact law_post 4 Try.underlying4 (by kernel_rfl) rfl Try.laidOut (by kernel_rfl) hW' ⟨rfl, rfl, rfl⟩ hb

theorem nnone_holds : Rows.DiskNoneSaid :=
  OpenClaim.holds_of_wide 4 Try.f4 rfl rfl rfl rfl rfl rfl rfl ⟨rfl, rfl, rfl, rfl, rfl⟩ rfl rfl rfl rfl rfl (by kernel_rfl) Try.func4 (by kernel_rfl)
    (of_decide_eq_true (by kernel_rfl)) (by unfold Func.isWrapper; first | (rw [if_pos (by decide +kernel)]; kernel_rfl) | (rw [if_neg (by decide +kernel)]; exact ⟨rfl, rfl⟩))
    (fun os started H enc _ => nnone_lifted os started H enc)
end Go.Proofs.Ytajplflefagbaaa
