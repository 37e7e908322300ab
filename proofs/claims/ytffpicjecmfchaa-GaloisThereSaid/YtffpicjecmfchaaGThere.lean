/-
  Substitutes lead back, unlike elements have unlike ones, none is its own, and none the one with all its bits turned: GaloisThere, for every input.
-/
import Derived.Test.YtffpicjecmfchaaLaw
import Derived.Test.YtffpicjecmfchaaGalC
namespace Go.Proofs.Ytffpicjecmfchaa
open Go Go.RowKit Go.ChangeShapes Go.WideShapes Go.ChangeAt
set_option linter.unusedVariables false

set_option maxRecDepth 100000 in
set_option maxHeartbeats 2000000 in
theorem gthere_walk (a b s t u : Nat) (w : World) (ha : a < 256) (hb : b < 256) (hs : s < 256) (ht : t < 256) (hu : u < 256) (h1 : Hid (gs a = s)) (h2 : Hid (gs b = t)) (h3 : Hid (gb s = a)) (h4 : Hid (gb a = u)) (h5 : Hid (gs u = a))
    (z : Bool) (z1 : ((s : Int) == (t : Int)) = z) (z2 : ((a : Int) == (b : Int)) = z) (z3 : ((s : Int) != (a : Int)) = true) (z4 : Hid (¬ (s : Int) = bits .xor .u8 IntKind.u8.max (a : Int))) :
    Calls Try.prog 11 #[.int .u8 (a : Int), .int .u8 (b : Int)] w fun e w' => e = .returned (.bool true) ∧ Below w.heap.size w w' := by
  cases z
  all_goals
    go_enter Try.func11, Try.ntmps11
    go_wp2_with fail
    refine (sub_any a _ ha).mono ?_
    rw [h1.out]
    rintro e w' ⟨rfl, rfl⟩
    go_wp2_with fail
    refine (sub_any b _ hb).mono ?_
    rw [h2.out]
    rintro e w' ⟨rfl, rfl⟩
    go_wp2_with fail
    refine (back_any s _ hs).mono ?_
    rw [h3.out]
    rintro e w' ⟨rfl, rfl⟩
    go_wp2_with fail
    refine (back_any a _ ha).mono ?_
    rw [h4.out]
    rintro e w' ⟨rfl, rfl⟩
    go_wp2_with fail
    refine (sub_any u _ hu).mono ?_
    rw [h5.out]
    rintro e w' ⟨rfl, rfl⟩
    go_wp2_with fail
    any_goals (first | exact absurd ‹(s : Int) = bits .xor .u8 IntKind.u8.max (a : Int)› z4.out | skip)
    refine (known02_any _).mono ?_
    rintro e w' ⟨rfl, rfl⟩
    go_wp2_with fail
    go_ret
    exact ⟨ret_bool (bne_iff_ne.mpr z4.out), Below.refl _ _⟩

theorem gthere_any (a b : Nat) (w : World) (ha : a < 256) (hb : b < 256) :
    Calls Try.prog 11 #[.int .u8 (a : Int), .int .u8 (b : Int)] w fun e w' => e = .returned (.bool true) ∧ Below w.heap.size w w' := by
  have h6 := gs_self a ha
  have h7 := gs_turned a ha
  have h8 := gs_lt a ha
  refine gthere_walk a b (gs a) (gs b) (gb a) w ha hb h8 (gs_lt b hb) (gb_lt a ha) (Lib.hid rfl) (Lib.hid rfl) (Lib.hid (gb_gs a ha)) (Lib.hid rfl) (Lib.hid (gs_gb a ha)) (decide (a = b)) ?_ ?_ ?_ (Lib.hid ?_)
  · rw [Bool.eq_iff_iff]
    simp only [beq_iff_eq, decide_eq_true_eq, Int.natCast_inj]
    refine ⟨fun h => ?_, fun h => by rw [h]⟩
    rw [← gb_gs a ha, h, gb_gs b hb]
  · rw [Bool.eq_iff_iff]; simp only [beq_iff_eq, decide_eq_true_eq]; omega
  · rw [bne_iff_ne]; omega
  · have := all256 (p := fun a => bits .xor .u8 IntKind.u8.max (a : Int) == ((255 - a : Nat) : Int)) (by decide +kernel) a ha
    rw [beq_iff_eq] at this
    rw [this]; omega

set_option maxRecDepth 100000 in
theorem gthere_lifted (os : Os) (started : os.Started) (H : Type) (enc : TypeId × Value → H) :
    ReturnsInHanded {} Try.checked os 11 .any (Rows.galoisThereSpec.pre6 enc Try.prog Try.f11 Rows.galoisThereRow.domain false) (Rows.galoisThereSpec.post enc Try.prog Try.f11 false true false false) := by
  refine returnsInHanded_of_change_sized (C := Try.checked) Try.own started (by kernel_rfl) Try.func11
    (ChangeSpec.witness6 (enc := enc) (C := Try.checked) false ⟨#[], #[.int .u8 0, .int .u8 0], []⟩ 8 (by kernel_rfl) (by kernel_rfl) (by kernel_rfl) (by kernel_rfl)) ?_
  intro W base args ds gs before hval0 hW _ hsz0 _
  have hsz : (DataW.weightsEach Try.prog (Try.f11.params.toList ++ Rows.galoisThereSpec.plain.varTypes Try.prog) (ds ++ gs)).all (· ≤ reachBytes) = true := hsz0
  have hval : ∀ (j : Nat) t v, Try.f11.params[j]? = some t → args[j]? = some v → Value.okWide Try.prog W .any base t v := hval0
  have hW' := hW
  obtain ⟨p, q, hA0, hV, rfl, _, _⟩ := hW
  have hA : DataW.TrodAll enc Try.prog W 0 (fun _ => true) true Try.f11.params.toList args.toList ds p := hA0
  rw [Try.params11] at hA hval hsz
  have hlt := hW'.lt
  clear hA0 hval0 hsz0
  obtain ⟨v0, vs0, d0, ds0, p0, q0, hv0, rfl, rfl, h0, r0⟩ := trodAll_cons hA
  obtain ⟨v1, vs1, d1, ds1, p1, q1, hv1, rfl, rfl, h1, r1⟩ := trodAll_cons r0
  subst hv1
  obtain ⟨rfl, rfl, rfl⟩ := trodAll_nil r1
  obtain rfl : args = #[v0, v1] := by cases args; simp_all
  obtain ⟨rfl, rfl⟩ := trodVars_none hV
  obtain ⟨a0, rfl, rfl, rfl, w0⟩ := open_int Try.underlying5 (hval 0 5 v0 rfl rfl) h0
  have b0 : 0 ≤ a0 ∧ a0 ≤ 255 := by simpa [Lit.wf, IntKind.min, IntKind.max, IntKind.signed, IntKind.bits] using w0
  obtain ⟨n0, rfl⟩ : ∃ n0 : Nat, a0 = n0 := ⟨a0.toNat, by omega⟩
  obtain ⟨a1, rfl, rfl, rfl, w1⟩ := open_int Try.underlying5 (hval 1 5 v1 rfl rfl) h1
  have b1 : 0 ≤ a1 ∧ a1 ≤ 255 := by simpa [Lit.wf, IntKind.min, IntKind.max, IntKind.signed, IntKind.bits] using w1
  obtain ⟨n1, rfl⟩ : ∃ n1 : Nat, a1 = n1 := ⟨a1.toNat, by omega⟩
  refine (gthere_any n0 n1 W (by omega) (by omega)).mono fun e W' ⟨he, hb⟩ => ⟨_, he, ?_⟩
  exact law_post 4 Try.underlying4 (by kernel_rfl) rfl Try.laidOut (by kernel_rfl) hW' ⟨rfl, rfl, rfl⟩ hb

theorem gthere_holds : Rows.GaloisThereSaid :=
  OpenClaim.holds_of_wide 11 Try.f11 rfl rfl rfl rfl rfl rfl rfl ⟨rfl, rfl, rfl, rfl, rfl⟩ rfl rfl rfl rfl rfl (by kernel_rfl) Try.func11 (by kernel_rfl)
    (of_decide_eq_true (by kernel_rfl)) (by unfold Func.isWrapper; first | (rw [if_pos (by decide +kernel)]; kernel_rfl) | (rw [if_neg (by decide +kernel)]; exact ⟨rfl, rfl⟩))
    (fun os started H enc _ => gthere_lifted os started H enc)
end Go.Proofs.Ytffpicjecmfchaa
