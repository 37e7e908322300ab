/-
  galois.Mix and Unmix answer what the document's do, for any column: GaloisMix, for every input.
-/
import Derived.Test.YtffpicjecmfchaaLaw
import Derived.Test.YtffpicjecmfchaaGalF
namespace Go.Proofs.Ytffpicjecmfchaa
open Go Go.RowKit Go.ChangeShapes Go.WideShapes Go.ChangeAt
set_option linter.unusedVariables false

theorem held4 {B : Nat} {w1 w2 : World} (hb : Below w1.heap.size w1 w2) (hs : B < w1.heap.size) {j : Nat} {v : Value} (h : w1.cell? ⟨B, j, none⟩ = some v) : w2.cell? ⟨B, j, none⟩ = some v :=
  (hb.cell (p := ⟨B, j, none⟩) hs).trans h

set_option maxRecDepth 100000 in
set_option maxHeartbeats 4000000 in
theorem gmix_any (c : Nat → Nat) (w : World) (hc : ∀ q, q < 4 → c q < 256) :
    Calls Try.prog 8 #[.agg (arr4 c)] w fun e w' => e = .returned (.bool true) ∧ Below w.heap.size w w' := by
  have HC := Lib.hid hc; clear hc
  have q1 := eq4_same (mixd mixR c)
  have q2 := eq4_same (mixd unmixR c)
  have g4 := guard4
  go_enter Try.func8, Try.ntmps8
  go_wp2_with fail
  have hB0 : Below w.heap.size w (w.alloc (.cells (arr4 c) 30)).drew := ((Below.refl _ _).alloc (Nat.le_refl _) _).drew
  go_region_held3 (fun w' => w'.cell? ⟨w.heap.size, 0, none⟩ = some (.int .u8 (c 0 : Int)) ∧ w'.cell? ⟨w.heap.size, 1, none⟩ = some (.int .u8 (c 1 : Int)) ∧ w'.cell? ⟨w.heap.size, 2, none⟩ = some (.int .u8 (c 2 : Int)) ∧ w'.cell? ⟨w.heap.size, 3, none⟩ = some (.int .u8 (c 3 : Int)) ∧ Below w.heap.size w w' ∧ w.heap.size < w'.heap.size)
    (first
      | go_keep
      | (go_split_ands
         refine ⟨?_, ?_, ?_, ?_, ?_, ?_⟩
         · exact held4 hb (by assumption) (by assumption)
         · exact held4 hb (by assumption) (by assumption)
         · exact held4 hb (by assumption) (by assumption)
         · exact held4 hb (by assumption) (by assumption)
         · exact Below.trans (by assumption) (hb.mono (Nat.le_of_lt (by assumption)))
         · exact Nat.lt_of_lt_of_le (by assumption) hb.size))
    (first
      | (go_at_call 24; refine (mix_any c _ HC.out).mono ?_; rintro e w' ⟨rfl, hb⟩)
      | (go_at_call 25; refine (rmix_any c _ HC.out).mono ?_; rintro e w' ⟨rfl, hb⟩)
      | (go_at_call 26; refine (unmix_any c _ HC.out).mono ?_; rintro e w' ⟨rfl, hb⟩)
      | (go_at_call 27; refine (runmix_any c _ HC.out).mono ?_; rintro e w' ⟨rfl, hb⟩)
      | (go_at_call 15; refine (known02_any _).mono ?_; rintro e w' ⟨rfl, rfl⟩))
  go_wp2
  go_split_ands
  go_ret
  exact ⟨rfl, by assumption⟩

set_option maxRecDepth 100000 in
theorem gmix_lifted (os : Os) (started : os.Started) (H : Type) (enc : TypeId × Value → H) :
    ReturnsInHanded {} Try.checked os 8 .any (Rows.galoisMixSpec.pre6 enc Try.prog Try.f8 Rows.galoisMixRow.domain false) (Rows.galoisMixSpec.post enc Try.prog Try.f8 false true false false) := by
  refine returnsInHanded_of_change_sized (C := Try.checked) Try.own started (by kernel_rfl) Try.func8
    (ChangeSpec.witness6 (enc := enc) (C := Try.checked) false ⟨#[], #[.agg #[.int .u8 0, .int .u8 0, .int .u8 0, .int .u8 0]], []⟩ 8 (by kernel_rfl) (by kernel_rfl) (by kernel_rfl) (by kernel_rfl)) ?_
  intro W base args ds gs before hval0 hW _ hsz0 _
  have hsz : (DataW.weightsEach Try.prog (Try.f8.params.toList ++ Rows.galoisMixSpec.plain.varTypes Try.prog) (ds ++ gs)).all (· ≤ reachBytes) = true := hsz0
  have hval : ∀ (j : Nat) t v, Try.f8.params[j]? = some t → args[j]? = some v → Value.okWide Try.prog W .any base t v := hval0
  have hW' := hW
  obtain ⟨p, q, hA0, hV, rfl, _, _⟩ := hW
  have hA : DataW.TrodAll enc Try.prog W 0 (fun _ => true) true Try.f8.params.toList args.toList ds p := hA0
  rw [Try.params8] at hA hval hsz
  have hlt := hW'.lt
  clear hA0 hval0 hsz0
  obtain ⟨v0, vs0, d0, ds0, p0, q0, hv0, rfl, rfl, h0, r0⟩ := trodAll_cons hA
  obtain ⟨rfl, rfl, rfl⟩ := trodAll_nil r0
  obtain rfl : args = #[v0] := by cases args; simp_all
  obtain ⟨rfl, rfl⟩ := trodVars_none hV
  obtain ⟨f0, rfl, u0⟩ := open_arr_u8 Try.underlying30 Try.underlying5 Try.cellsU8 (by kernel_rfl) (hval 0 30 v0 rfl rfl) h0
  refine (gmix_any f0 W u0).mono fun e W' ⟨he, hb⟩ => ⟨_, he, ?_⟩
  exact law_post 4 Try.underlying4 (by kernel_rfl) rfl Try.laidOut (by kernel_rfl) hW' ⟨rfl, rfl, rfl⟩ hb

theorem gmix_holds : Rows.GaloisMixSaid :=
  OpenClaim.holds_of_wide 8 Try.f8 rfl rfl rfl rfl rfl rfl rfl ⟨rfl, rfl, rfl, rfl, rfl⟩ rfl rfl rfl rfl rfl (by kernel_rfl) Try.func8 (by kernel_rfl)
    (of_decide_eq_true (by kernel_rfl)) (by unfold Func.isWrapper; first | (rw [if_pos (by decide +kernel)]; kernel_rfl) | (rw [if_neg (by decide +kernel)]; exact ⟨rfl, rfl⟩))
    (fun os started H enc _ => gmix_lifted os started H enc)
end Go.Proofs.Ytffpicjecmfchaa
