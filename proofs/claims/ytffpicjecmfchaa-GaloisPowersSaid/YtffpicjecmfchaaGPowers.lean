/-
  Powers of an element are multiplied by adding what they are raised to; the power 255 of each but 0 is 1: GaloisPowers, for every input.
-/
import Derived.Test.YtffpicjecmfchaaLaw
import Derived.Test.YtffpicjecmfchaaGalC
namespace Go.Proofs.Ytffpicjecmfchaa
open Go Go.RowKit Go.ChangeShapes Go.WideShapes Go.ChangeAt
set_option linter.unusedVariables false

theorem power_int (a : Nat) (n' : Int) (n c : Nat) (hn' : n' = (n : Int)) (h : Hid (gp a n = c)) (w : World) (ha : a < 256) (hn : n < 4294967296) :
    Calls Try.prog 18 #[.int .u8 (a : Int), .int .u32 n'] w fun e w' => e = .returned (.int .u8 (c : Int)) ∧ w' = w := by
  subst hn'
  have := power_any a n w ha hn
  rw [h.out] at this
  exact this

set_option maxRecDepth 100000 in
set_option maxHeartbeats 2000000 in
theorem gpowers_walk (a m n x y s o : Nat) (w : World) (ha : a < 256) (hm : m ≤ 65535) (hn : n ≤ 65535) (h1 : Hid (gp a m = x)) (h2 : Hid (gp a n = y)) (h3 : Hid (gp a (m + n) = s)) (h4 : Hid (gm x y = s)) (h5 : Hid (gp a 1 = a)) (h6 : Hid (gp a 255 = o))
    (hx : x < 256) (hy : y < 256) (z : Bool) (z1 : ((o : Int) == 1) = z) (z2 : ((a : Int) != 0) = z) :
    Calls Try.prog 10 #[.int .u8 (a : Int), .int .u16 (m : Int), .int .u16 (n : Int)] w fun e w' => e = .returned (.bool true) ∧ Below w.heap.size w w' := by
  cases z
  all_goals
    go_enter Try.func10, Try.ntmps10
    go_wp2_with fail
    refine (power_int a m m x rfl h1 _ ha (by omega)).mono ?_
    rintro e w' ⟨rfl, rfl⟩
    go_wp2_with fail
    refine (power_int a n n y rfl h2 _ ha (by omega)).mono ?_
    rintro e w' ⟨rfl, rfl⟩
    go_wp2_with fail
    refine (power_int a _ (m + n) s (by omega) h3 _ ha (by omega)).mono ?_
    rintro e w' ⟨rfl, rfl⟩
    go_wp2_with fail
    refine (mul_any x y _ hx hy).mono ?_
    rw [h4.out]
    rintro e w' ⟨rfl, rfl⟩
    go_wp2_with fail
    refine (power_int a 1 1 a rfl h5 _ ha (by omega)).mono ?_
    rintro e w' ⟨rfl, rfl⟩
    go_wp2_with fail
    refine (power_int a 255 255 o rfl h6 _ ha (by omega)).mono ?_
    rintro e w' ⟨rfl, rfl⟩
    go_wp2_with fail
    refine (known02_any _).mono ?_
    rintro e w' ⟨rfl, rfl⟩
    go_wp2_with fail
    go_ret
    exact ⟨rfl, Below.refl _ _⟩

theorem gpowers_any (a m n : Nat) (w : World) (ha : a < 256) (hm : m ≤ 65535) (hn : n ≤ 65535) :
    Calls Try.prog 10 #[.int .u8 (a : Int), .int .u16 (m : Int), .int .u16 (n : Int)] w fun e w' => e = .returned (.bool true) ∧ Below w.heap.size w w' := by
  have ho : a = 0 ∧ gp a 255 = 0 ∨ a ≠ 0 ∧ gp a 255 = 1 := by
    by_cases h : a = 0
    · left; exact ⟨h, by rw [h]; exact gp_nought 255 (by omega)⟩
    · right; exact ⟨h, gp_255 a ha h⟩
  refine gpowers_walk a m n (gp a m) (gp a n) (gp a (m + n)) (gp a 255) w ha hm hn (Lib.hid rfl) (Lib.hid rfl) (Lib.hid rfl) (Lib.hid (gp_add a m n ha).symm) (Lib.hid (gp_one a ha)) (Lib.hid rfl)
    (gp_lt a m ha) (gp_lt a n ha) (decide (a ≠ 0)) ?_ ?_
  · rw [Bool.eq_iff_iff]; simp only [beq_iff_eq, decide_eq_true_eq]; omega
  · rw [Bool.eq_iff_iff]; simp

set_option maxRecDepth 100000 in
theorem gpowers_lifted (os : Os) (started : os.Started) (H : Type) (enc : TypeId × Value → H) :
    ReturnsInHanded {} Try.checked os 10 .any (Rows.galoisPowersSpec.pre6 enc Try.prog Try.f10 Rows.galoisPowersRow.domain false) (Rows.galoisPowersSpec.post enc Try.prog Try.f10 false true false false) := by
  refine returnsInHanded_of_change_sized (C := Try.checked) Try.own started (by kernel_rfl) Try.func10
    (ChangeSpec.witness6 (enc := enc) (C := Try.checked) false ⟨#[], #[.int .u8 0, .int .u16 0, .int .u16 0], []⟩ 8 (by kernel_rfl) (by kernel_rfl) (by kernel_rfl) (by kernel_rfl)) ?_
  intro W base args ds gs before hval0 hW _ hsz0 _
  have hsz : (DataW.weightsEach Try.prog (Try.f10.params.toList ++ Rows.galoisPowersSpec.plain.varTypes Try.prog) (ds ++ gs)).all (· ≤ reachBytes) = true := hsz0
  have hval : ∀ (j : Nat) t v, Try.f10.params[j]? = some t → args[j]? = some v → Value.okWide Try.prog W .any base t v := hval0
  have hW' := hW
  obtain ⟨p, q, hA0, hV, rfl, _, _⟩ := hW
  have hA : DataW.TrodAll enc Try.prog W 0 (fun _ => true) true Try.f10.params.toList args.toList ds p := hA0
  rw [Try.params10] at hA hval hsz
  have hlt := hW'.lt
  clear hA0 hval0 hsz0
  obtain ⟨v0, vs0, d0, ds0, p0, q0, hv0, rfl, rfl, h0, r0⟩ := trodAll_cons hA
  obtain ⟨v1, vs1, d1, ds1, p1, q1, hv1, rfl, rfl, h1, r1⟩ := trodAll_cons r0
  subst hv1
  obtain ⟨v2, vs2, d2, ds2, p2, q2, hv2, rfl, rfl, h2, r2⟩ := trodAll_cons r1
  subst hv2
  obtain ⟨rfl, rfl, rfl⟩ := trodAll_nil r2
  obtain rfl : args = #[v0, v1, v2] := by cases args; simp_all
  obtain ⟨rfl, rfl⟩ := trodVars_none hV
  obtain ⟨a0, rfl, rfl, rfl, w0⟩ := open_int Try.underlying5 (hval 0 5 v0 rfl rfl) h0
  have b0 : 0 ≤ a0 ∧ a0 ≤ 255 := by simpa [Lit.wf, IntKind.min, IntKind.max, IntKind.signed, IntKind.bits] using w0
  obtain ⟨n0, rfl⟩ : ∃ n0 : Nat, a0 = n0 := ⟨a0.toNat, by omega⟩
  obtain ⟨a1, rfl, rfl, rfl, w1⟩ := open_int Try.underlying34 (hval 1 34 v1 rfl rfl) h1
  have b1 : 0 ≤ a1 ∧ a1 ≤ 65535 := by simpa [Lit.wf, IntKind.min, IntKind.max, IntKind.signed, IntKind.bits] using w1
  obtain ⟨n1, rfl⟩ : ∃ n1 : Nat, a1 = n1 := ⟨a1.toNat, by omega⟩
  obtain ⟨a2, rfl, rfl, rfl, w2⟩ := open_int Try.underlying34 (hval 2 34 v2 rfl rfl) h2
  have b2 : 0 ≤ a2 ∧ a2 ≤ 65535 := by simpa [Lit.wf, IntKind.min, IntKind.max, IntKind.signed, IntKind.bits] using w2
  obtain ⟨n2, rfl⟩ : ∃ n2 : Nat, a2 = n2 := ⟨a2.toNat, by omega⟩
  refine (gpowers_any n0 n1 n2 W (by omega) (by omega) (by omega)).mono fun e W' ⟨he, hb⟩ => ⟨_, he, ?_⟩
  exact law_post 4 Try.underlying4 (by kernel_rfl) rfl Try.laidOut (by kernel_rfl) hW' ⟨rfl, rfl, rfl⟩ hb

theorem gpowers_holds : Rows.GaloisPowersSaid :=
  OpenClaim.holds_of_wide 10 Try.f10 rfl rfl rfl rfl rfl rfl rfl ⟨rfl, rfl, rfl, rfl, rfl⟩ rfl rfl rfl rfl rfl (by kernel_rfl) Try.func10 (by kernel_rfl)
    (of_decide_eq_true (by kernel_rfl)) (by unfold Func.isWrapper; first | (rw [if_pos (by decide +kernel)]; kernel_rfl) | (rw [if_neg (by decide +kernel)]; exact ⟨rfl, rfl⟩))
    (fun os started H enc _ => gpowers_lifted os started H enc)
end Go.Proofs.Ytffpicjecmfchaa
