/-
  A cipher that is not there answers ErrNil, whatever the block: AesNone, for every input.
-/
import Derived.Test.YtljmkleppoacaaaLaw
import Derived.Test.YtljmkleppoacaaaAesQ
namespace Go.Proofs.Ytljmkleppoacaaa
open Go Go.RowKit Go.ChangeShapes Go.WideShapes Go.ChangeAt
set_option linter.unusedVariables false
set_option linter.unusedSimpArgs false

set_option maxRecDepth 100000 in
set_option maxHeartbeats 4000000 in
theorem anone_any (b : Nat → Nat) (w : World) (hb : ∀ i, i < 16 → b i < 256) :
    Calls Try.prog 6 #[.agg (aN 16 b)] w fun e w' => e = .returned (.bool true) ∧ Below w.heap.size w w' := by
  have h1 : H16 (w.alloc (.cells (aN 16 b) 35)) w.heap.size b := H16.newAt rfl
  have hB : Below w.heap.size w (w.alloc (.cells (aN 16 b) 35)) := (Below.refl _ _).alloc (Nat.le_refl _) _
  have H1 := Lib.hid h1; clear h1
  have HB := Lib.hid hB; clear hB
  have q := eq_zeros
  have g := guard16
  clear hb
  go_enter Try.func6, Try.ntmps6
  go_upto_region 2 with fail
  generalize w.alloc (.cells (aN 16 b) 35) = wr at *
  have dl : wr.heap[w.heap.size]? = some (.cells (aN 16 (b)) 35 (0, 0)) := H1.out
  go_wp2_with (refine wpList_load_row_g (by rfl) 35 (.tmp 1) rfl (w.heap.size) rfl 35 (aN 16 (b)) (0, 0) (.array 16 5) dl Try.underlying35 rfl (by rw [aN_size]; kernel_rfl) ?_)
  refine (encrypt_nil b _).mono ?_
  rintro e wA ⟨rfl, hbA⟩
  have dS := new_dS wA
  go_upto_region 3 with (refine wpList_store_row rfl 35 (.tmp 4) (.tmp 12) rfl (wA.heap.size) (aN 16 (fun _ => 0)) rfl rfl 35 _ dS (by rw [aN_size]; kernel_rfl) (by simp only [aN_size]) (aN_one _ _) ?_)
  obtain ⟨hN, hbN⟩ := new_row wA (fun _ => 0)
  clear dl dS
  have H1' : Hid (H16 ((wA.alloc (.cells #[.int .u8 0, .int .u8 0, .int .u8 0, .int .u8 0, .int .u8 0, .int .u8 0, .int .u8 0, .int .u8 0, .int .u8 0, .int .u8 0, .int .u8 0, .int .u8 0, .int .u8 0, .int .u8 0, .int .u8 0, .int .u8 0] 35)).setRow wA.heap.size (aN 16 (fun _ => 0))) (w.heap.size) (b)) := Lib.hid ((H1.out.call hbA).call hbN)
  have HB' : Hid (Below w.heap.size w ((wA.alloc (.cells #[.int .u8 0, .int .u8 0, .int .u8 0, .int .u8 0, .int .u8 0, .int .u8 0, .int .u8 0, .int .u8 0, .int .u8 0, .int .u8 0, .int .u8 0, .int .u8 0, .int .u8 0, .int .u8 0, .int .u8 0, .int .u8 0] 35)).setRow wA.heap.size (aN 16 (fun _ => 0)))) := Lib.hid ((HB.out.trans (hbA.mono HB.out.size)).trans (hbN.mono (HB.out.trans (hbA.mono HB.out.size)).size))
  have Hb4 := Lib.hid hN
  clear hN hbA hbN H1 HB
  have H1 := H1'; clear H1'
  have HB := HB'; clear HB'
  generalize (wA.alloc (.cells #[.int .u8 0, .int .u8 0, .int .u8 0, .int .u8 0, .int .u8 0, .int .u8 0, .int .u8 0, .int .u8 0, .int .u8 0, .int .u8 0, .int .u8 0, .int .u8 0, .int .u8 0, .int .u8 0, .int .u8 0, .int .u8 0] 35)).setRow wA.heap.size (aN 16 (fun _ => 0)) = wrn at *
  generalize wA.heap.size = b4 at *
  try clear wr
  obtain ⟨wr, rfl⟩ : ∃ wr : World, wr = wrn := ⟨_, rfl⟩
  have dl : wr.heap[w.heap.size]? = some (.cells (aN 16 (b)) 35 (0, 0)) := H1.out
  go_wp2_with (refine wpList_load_row_g (by rfl) 35 (.tmp 1) rfl (w.heap.size) rfl 35 (aN 16 (b)) (0, 0) (.array 16 5) dl Try.underlying35 rfl (by rw [aN_size]; kernel_rfl) ?_)
  refine (decrypt_nil b _).mono ?_
  rintro e wA ⟨rfl, hbA⟩
  have dS := new_dS wA
  go_upto_region 4 with (refine wpList_store_row rfl 35 (.tmp 6) (.tmp 18) rfl (wA.heap.size) (aN 16 (fun _ => 0)) rfl rfl 35 _ dS (by rw [aN_size]; kernel_rfl) (by simp only [aN_size]) (aN_one _ _) ?_)
  obtain ⟨hN, hbN⟩ := new_row wA (fun _ => 0)
  clear dl dS
  have Hb4' : Hid (H16 ((wA.alloc (.cells #[.int .u8 0, .int .u8 0, .int .u8 0, .int .u8 0, .int .u8 0, .int .u8 0, .int .u8 0, .int .u8 0, .int .u8 0, .int .u8 0, .int .u8 0, .int .u8 0, .int .u8 0, .int .u8 0, .int .u8 0, .int .u8 0] 35)).setRow wA.heap.size (aN 16 (fun _ => 0))) (b4) (fun _ => 0)) := Lib.hid ((Hb4.out.call hbA).call hbN)
  have HB' : Hid (Below w.heap.size w ((wA.alloc (.cells #[.int .u8 0, .int .u8 0, .int .u8 0, .int .u8 0, .int .u8 0, .int .u8 0, .int .u8 0, .int .u8 0, .int .u8 0, .int .u8 0, .int .u8 0, .int .u8 0, .int .u8 0, .int .u8 0, .int .u8 0, .int .u8 0] 35)).setRow wA.heap.size (aN 16 (fun _ => 0)))) := Lib.hid ((HB.out.trans (hbA.mono HB.out.size)).trans (hbN.mono (HB.out.trans (hbA.mono HB.out.size)).size))
  have Hb6 := Lib.hid hN
  clear hN hbA hbN Hb4 HB
  have Hb4 := Hb4'; clear Hb4'
  have HB := HB'; clear HB'
  generalize (wA.alloc (.cells #[.int .u8 0, .int .u8 0, .int .u8 0, .int .u8 0, .int .u8 0, .int .u8 0, .int .u8 0, .int .u8 0, .int .u8 0, .int .u8 0, .int .u8 0, .int .u8 0, .int .u8 0, .int .u8 0, .int .u8 0, .int .u8 0] 35)).setRow wA.heap.size (aN 16 (fun _ => 0)) = wrn at *
  generalize wA.heap.size = b6 at *
  try clear wr
  obtain ⟨wr, rfl⟩ : ∃ wr : World, wr = wrn := ⟨_, rfl⟩
  have d4 : wr.heap[b4]? = some (.cells (aN 16 fun _ => 0) 35 (0, 0)) := Hb4.out
  have d6 : wr.heap[b6]? = some (.cells (aN 16 fun _ => 0) 35 (0, 0)) := Hb6.out
  go_wp2_with (first
    | (refine wpList_load_row_g (by rfl) 35 (.tmp 4) rfl (b4) rfl 35 (aN 16 (fun _ => 0)) (0, 0) (.array 16 5) d4 Try.underlying35 rfl (by rw [aN_size]; kernel_rfl) ?_)
    | (refine wpList_load_row_g (by rfl) 35 (.tmp 6) rfl (b6) rfl 35 (aN 16 (fun _ => 0)) (0, 0) (.array 16 5) d6 Try.underlying35 rfl (by rw [aN_size]; kernel_rfl) ?_))
  refine (known03_any _).mono ?_
  rintro e w1 ⟨rfl, hb1⟩
  go_wp2_with fail
  go_ret
  exact ⟨rfl, HB.out.trans (hb1.mono HB.out.size)⟩

set_option maxRecDepth 100000 in
theorem anone_lifted (os : Os) (started : os.Started) (H : Type) (enc : TypeId × Value → H) :
    ReturnsInHanded {} Try.checked os 6 .any (Rows.aesNoneSpec.pre6 enc Try.prog Try.f6 Rows.aesNoneRow.domain false) (Rows.aesNoneSpec.post enc Try.prog Try.f6 false true false false) := by
  refine returnsInHanded_of_change_sized (C := Try.checked) Try.own started (by kernel_rfl) Try.func6
    (ChangeSpec.witness6 (enc := enc) (C := Try.checked) false ⟨#[], #[.agg #[.int .u8 0, .int .u8 0, .int .u8 0, .int .u8 0, .int .u8 0, .int .u8 0, .int .u8 0, .int .u8 0, .int .u8 0, .int .u8 0, .int .u8 0, .int .u8 0, .int .u8 0, .int .u8 0, .int .u8 0, .int .u8 0]], []⟩ 8 (by kernel_rfl) (by kernel_rfl) (by kernel_rfl) (by kernel_rfl)) ?_
  intro W base args ds gs before hval0 hW _ hsz0 _
  have hsz : (DataW.weightsEach Try.prog (Try.f6.params.toList ++ Rows.aesNoneSpec.plain.varTypes Try.prog) (ds ++ gs)).all (· ≤ reachBytes) = true := hsz0
  have hval : ∀ (j : Nat) t v, Try.f6.params[j]? = some t → args[j]? = some v → Value.okWide Try.prog W .any base t v := hval0
  have hW' := hW
  obtain ⟨p, q, hA0, hV, rfl, _, _⟩ := hW
  have hA : DataW.TrodAll enc Try.prog W 0 (fun _ => true) true Try.f6.params.toList args.toList ds p := hA0
  rw [Try.params6] at hA hval hsz
  have hlt := hW'.lt
  clear hA0 hval0 hsz0
  obtain ⟨v0, vs0, d0, ds0, p0, q0, hv0, rfl, rfl, h0, r0⟩ := trodAll_cons hA
  obtain ⟨rfl, rfl, rfl⟩ := trodAll_nil r0
  obtain rfl : args = #[v0] := by cases args; simp_all
  obtain ⟨rfl, rfl⟩ := trodVars_none hV
  obtain ⟨f0, rfl, u0⟩ := open_arr_u8 Try.underlying35 Try.underlying5 Try.cellsU8 (by kernel_rfl) (hval 0 35 v0 rfl rfl) h0
  refine (anone_any f0 W u0).mono fun e W' ⟨he, hb⟩ => ⟨_, he, ?_⟩
  exact law_post 4 Try.underlying4 (by kernel_rfl) rfl Try.laidOut (by kernel_rfl) hW' ⟨rfl, rfl, rfl⟩ hb

theorem anone_holds : Rows.AesNoneSaid :=
  OpenClaim.holds_of_wide 6 Try.f6 rfl rfl rfl rfl rfl rfl rfl ⟨rfl, rfl, rfl, rfl, rfl⟩ rfl rfl rfl rfl rfl (by kernel_rfl) Try.func6 (by kernel_rfl)
    (of_decide_eq_true (by kernel_rfl)) (by unfold Func.isWrapper; first | (rw [if_pos (by decide +kernel)]; kernel_rfl) | (rw [if_neg (by decide +kernel)]; exact ⟨rfl, rfl⟩))
    (fun os started H enc _ => anone_lifted os started H enc)
end Go.Proofs.Ytljmkleppoacaaa
