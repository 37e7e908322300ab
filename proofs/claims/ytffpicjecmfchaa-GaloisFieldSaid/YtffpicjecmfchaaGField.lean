/-
  Products of elements hang on no order and on no brackets, spread over sums, 1 changes nothing, each element but 0 has an inverse: GaloisField, for every input.
-/
import Derived.Test.YtffpicjecmfchaaLaw
import Derived.Test.YtffpicjecmfchaaGalC
namespace Go.Proofs.Ytffpicjecmfchaa
open Go Go.RowKit Go.ChangeShapes Go.WideShapes Go.ChangeAt
set_option linter.unusedVariables false

theorem mul_is (a b c : Nat) (h : Hid (gm a b = c)) (w : World) (ha : a < 256) (hb : b < 256) :
    Calls Try.prog 13 #[.int .u8 (a : Int), .int .u8 (b : Int)] w fun e w' => e = .returned (.int .u8 (c : Int)) ∧ w' = w := by
  have := mul_any a b w ha hb
  rw [h.out] at this
  exact this

set_option maxRecDepth 100000 in
set_option maxHeartbeats 2000000 in
theorem gfield_walk (a b c ab bc l d s ac i o : Nat) (w : World) (ha : a < 256) (hb : b < 256) (hc : c < 256)
    (h1 : Hid (gm a b = ab)) (h2 : Hid (gm b a = ab)) (h3 : Hid (gm ab c = l)) (h4 : Hid (gm b c = bc)) (h5 : Hid (gm a bc = l))
    (h6 : bits .xor .u8 (b : Int) (c : Int) = (d : Int)) (h7 : Hid (gm a d = s)) (h8 : Hid (gm a c = ac)) (h9 : bits .xor .u8 (ab : Int) (ac : Int) = (s : Int))
    (h10 : Hid (gi a = i)) (h11 : Hid (gm a i = o)) (h12 : Hid (gm a 1 = a)) (lab : ab < 256) (lbc : bc < 256) (ld : d < 256) (li : i < 256) (z : Bool)
    (z1 : ((a : Int) == 0) = z) (z2 : ((o : Int) == 0) = z) (z3 : ((o : Int) == 1) = !z) (z4 : ((a : Int) != 0) = !z) (y x : Bool) (y1 : ((ab : Int) != 0) = !y) (y2 : ((b : Int) == 0) = x) (y3 : y = true → z = true ∨ x = true) :
    Calls Try.prog 9 #[.int .u8 (a : Int), .int .u8 (b : Int), .int .u8 (c : Int)] w fun e w' => e = .returned (.bool true) ∧ Below w.heap.size w w' := by
  cases z <;> cases y <;> cases x <;> simp only [Bool.not_true, Bool.not_false, reduceCtorEq, or_self, imp_false, not_true_eq_false] at z3 z4 y1 y3
  all_goals
    clear y3
    go_enter Try.func9, Try.ntmps9
    go_wp2_with fail
    refine (mul_is a b ab h1 _ ha hb).mono ?_
    rintro e w' ⟨rfl, rfl⟩
    go_wp2_with fail
    refine (mul_is b a ab h2 _ hb ha).mono ?_
    rintro e w' ⟨rfl, rfl⟩
    go_wp2_with fail
    refine (mul_is ab c l h3 _ lab hc).mono ?_
    rintro e w' ⟨rfl, rfl⟩
    go_wp2_with fail
    refine (mul_is b c bc h4 _ hb hc).mono ?_
    rintro e w' ⟨rfl, rfl⟩
    go_wp2_with fail
    refine (mul_is a bc l h5 _ ha lbc).mono ?_
    rintro e w' ⟨rfl, rfl⟩
    go_wp2_with fail
    refine (mul_is a d s h7 _ ha ld).mono ?_
    rintro e w' ⟨rfl, rfl⟩
    go_wp2_with fail
    refine (mul_is a c ac h8 _ ha hc).mono ?_
    rintro e w' ⟨rfl, rfl⟩
    go_wp2_with fail
    refine (inv_any a _ ha).mono ?_
    rw [h10.out]
    rintro e w' ⟨rfl, rfl⟩
    go_wp2_with fail
    refine (mul_is a i o h11 _ ha li).mono ?_
    rintro e w' ⟨rfl, rfl⟩
    go_wp2_with fail
    refine (mul_is a 1 a h12 _ ha (by omega)).mono ?_
    rintro e w' ⟨rfl, rfl⟩
    go_wp2_with fail
    refine (known02_any _).mono ?_
    rintro e w' ⟨rfl, rfl⟩
    go_wp2_with fail
    go_ret
    exact ⟨rfl, Below.refl _ _⟩

theorem gfield_any (a b c : Nat) (w : World) (ha : a < 256) (hb : b < 256) (hc : c < 256) :
    Calls Try.prog 9 #[.int .u8 (a : Int), .int .u8 (b : Int), .int .u8 (c : Int)] w fun e w' => e = .returned (.bool true) ∧ Below w.heap.size w w' := by
  have lab := gm_lt a b hb
  have lac := gm_lt a c hc
  have ld : b ^^^ c < 256 := Nat.xor_lt_two_pow (n := 8) hb hc
  have lo := gm_lt a (gi a) (gi_lt a ha)
  have ho : a = 0 ∧ gm a (gi a) = 0 ∨ a ≠ 0 ∧ gm a (gi a) = 1 := by
    by_cases h : a = 0
    · left; exact ⟨h, by rw [h]; exact gm_nought_l _⟩
    · right; exact ⟨h, gm_gi a ha h⟩
  refine gfield_walk a b c (gm a b) (gm b c) (gm (gm a b) c) (b ^^^ c) (gm a (b ^^^ c)) (gm a c) (gi a) (gm a (gi a)) w ha hb hc
    (Lib.hid rfl) (Lib.hid (gm_comm b a hb ha)) (Lib.hid rfl) (Lib.hid rfl) (Lib.hid (gm_assoc a b c hb hc).symm) (nbits_xor b c hb hc) (Lib.hid rfl) (Lib.hid rfl) ?_
    (Lib.hid rfl) (Lib.hid rfl) (Lib.hid (gm_one a ha)) lab (gm_lt _ _ hc) ld (gi_lt a ha) (decide (a = 0)) ?_ ?_ ?_ ?_ (decide (gm a b = 0)) (decide (b = 0)) ?_ ?_ ?_
  · rw [nbits_xor _ _ lab lac, gm_add_r]
  · rw [Bool.eq_iff_iff]; simp
  · rw [Bool.eq_iff_iff]; simp only [beq_iff_eq, decide_eq_true_eq]; omega
  · rw [Bool.eq_iff_iff]; simp only [beq_iff_eq, Bool.not_eq_true', decide_eq_false_iff_not]; omega
  · rw [Bool.eq_iff_iff]; simp
  · rw [Bool.eq_iff_iff]; simp
  · rw [Bool.eq_iff_iff]; simp
  · intro h
    have := gm_zero a b ha hb (by simpa using h)
    simpa using this

set_option maxRecDepth 100000 in
theorem gfield_lifted (os : Os) (started : os.Started) (H : Type) (enc : TypeId × Value → H) :
    ReturnsInHanded {} Try.checked os 9 .any (Rows.galoisFieldSpec.pre6 enc Try.prog Try.f9 Rows.galoisFieldRow.domain false) (Rows.galoisFieldSpec.post enc Try.prog Try.f9 false true false false) := by
  refine returnsInHanded_of_change_sized (C := Try.checked) Try.own started (by kernel_rfl) Try.func9
    (ChangeSpec.witness6 (enc := enc) (C := Try.checked) false ⟨#[], #[.int .u8 0, .int .u8 0, .int .u8 0], []⟩ 8 (by kernel_rfl) (by kernel_rfl) (by kernel_rfl) (by kernel_rfl)) ?_
  intro W base args ds gs before hval0 hW _ hsz0 _
  have hsz : (DataW.weightsEach Try.prog (Try.f9.params.toList ++ Rows.galoisFieldSpec.plain.varTypes Try.prog) (ds ++ gs)).all (· ≤ reachBytes) = true := hsz0
  have hval : ∀ (j : Nat) t v, Try.f9.params[j]? = some t → args[j]? = some v → Value.okWide Try.prog W .any base t v := hval0
  have hW' := hW
  obtain ⟨p, q, hA0, hV, rfl, _, _⟩ := hW
  have hA : DataW.TrodAll enc Try.prog W 0 (fun _ => true) true Try.f9.params.toList args.toList ds p := hA0
  rw [Try.params9] at hA hval hsz
  have hlt := hW'.lt
  clear hA0 hval0 hsz0
  obtain ⟨v0, vs0, d0, ds0, p0, q0, hv0, rfl, rfl, h0, r0⟩ := trodAll_cons hA
  obtain ⟨v1, vs1, d1, ds1, p1, q1, hv1, rfl, rfl, h1, r1⟩ := trodAll_cons r0
  subst hv1
  obtain ⟨v2, vs2, d2, ds2, p2, q2, hv2, rfl, rfl, h2, r2⟩ := trodAll_cons r1
  subst hv2
  obtain ⟨rfl, rfl, rfl⟩ := trodAll_nil r2
  obtain rfl : args = #[v0, v1, v2] := by cases args; simp_all
  obtain ⟨rfl, rfl⟩ := trodVars_none hV
  obtain ⟨a0, rfl, rfl, rfl, w0⟩ := open_int Try.underlying5 (hval 0 5 v0 rfl rfl) h0
  have b0 : 0 ≤ a0 ∧ a0 ≤ 255 := by simpa [Lit.wf, IntKind.min, IntKind.max, IntKind.signed, IntKind.bits] using w0
  obtain ⟨n0, rfl⟩ : ∃ n0 : Nat, a0 = n0 := ⟨a0.toNat, by omega⟩
  obtain ⟨a1, rfl, rfl, rfl, w1⟩ := open_int Try.underlying5 (hval 1 5 v1 rfl rfl) h1
  have b1 : 0 ≤ a1 ∧ a1 ≤ 255 := by simpa [Lit.wf, IntKind.min, IntKind.max, IntKind.signed, IntKind.bits] using w1
  obtain ⟨n1, rfl⟩ : ∃ n1 : Nat, a1 = n1 := ⟨a1.toNat, by omega⟩
  obtain ⟨a2, rfl, rfl, rfl, w2⟩ := open_int Try.underlying5 (hval 2 5 v2 rfl rfl) h2
  have b2 : 0 ≤ a2 ∧ a2 ≤ 255 := by simpa [Lit.wf, IntKind.min, IntKind.max, IntKind.signed, IntKind.bits] using w2
  obtain ⟨n2, rfl⟩ : ∃ n2 : Nat, a2 = n2 := ⟨a2.toNat, by omega⟩
  refine (gfield_any n0 n1 n2 W (by omega) (by omega) (by omega)).mono fun e W' ⟨he, hb⟩ => ⟨_, he, ?_⟩
  exact law_post 4 Try.underlying4 (by kernel_rfl) rfl Try.laidOut (by kernel_rfl) hW' ⟨rfl, rfl, rfl⟩ hb

theorem gfield_holds : Rows.GaloisFieldSaid :=
  OpenClaim.holds_of_wide 9 Try.f9 rfl rfl rfl rfl rfl rfl rfl ⟨rfl, rfl, rfl, rfl, rfl⟩ rfl rfl rfl rfl rfl (by kernel_rfl) Try.func9 (by kernel_rfl)
    (of_decide_eq_true (by kernel_rfl)) (by unfold Func.isWrapper; first | (rw [if_pos (by decide +kernel)]; kernel_rfl) | (rw [if_neg (by decide +kernel)]; exact ⟨rfl, rfl⟩))
    (fun os started H enc _ => gfield_lifted os started H enc)
end Go.Proofs.Ytffpicjecmfchaa
