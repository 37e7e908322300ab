/-
  octet.Put answers what the document's Put answers, for any number and any count of bytes: OctetNumbers, for every input.
-/
import Derived.Test.YtlafndoidioomaaLaw
import Derived.Test.YtlafndoidioomaaOctA
import Derived.Test.YtlafndoidioomaaOctC
import Derived.Test.YtlafndoidioomaaOctG
namespace Go.Proofs.Ytlafndoidioomaa
open Go Go.RowKit Go.ChangeShapes Go.WideShapes Go.ChangeAt
set_option linter.unusedVariables false

/-- What Put answers: the bytes, and the error. -/
def putOut (n : Nat) (size : Int) : List UInt8 × Int :=
  if size < 1 ∨ 8 < size then ([], 2) else if 256 ^ size.toNat ≤ n then ([], 6) else (be n size.toNat, 0)

/-- A call's answer: bytes that can be read, and an error; all older memory as it was. -/
def Gives2 (l : List UInt8) (k : Int) (w : World) (e : Ending) (w' : World) : Prop :=
  ∃ A n cap, n = l.length ∧ e = .returned (.tuple #[.slice A n cap, .int .i64 k]) ∧ Rd w' w'.heap.size A (vb l) ∧ Below w.heap.size w w'

theorem Gives2.none_ {k : Int} {w w' : World} (h : Below w.heap.size w w') : Gives2 [] k w (.returned (.tuple #[.slice none 0 0, .int .i64 k])) w' :=
  ⟨none, 0, 0, rfl, rfl, Rd.nil _ _ _, h⟩
theorem Gives2.own {l : List UInt8} {n base e : Nat} {v : Value} {k : Int} {w w' : World} (hn : l.length = n) (h : w'.ownsRow base e 1 v n (vb l)) (hb : Below w.heap.size w w') : Gives2 l k w (.returned (.tuple #[v, .int .i64 k])) w' := by
  obtain ⟨A, c, rfl, _, hrd⟩ := Rd.of_own h
  exact ⟨A, n, c, hn.symm, rfl, hrd, hb⟩

theorem put_all (n : Nat) (size : Int) (w : World) (h64 : n < 18446744073709551616) :
    Calls Try.prog 11 #[.int .u64 n, .int .i64 size] w (Gives2 (putOut n size).1 (putOut n size).2 w) := by
  by_cases h1 : size < 1 ∨ 8 < size
  · rw [show putOut n size = ([], 2) from if_pos h1]
    exact (put_arg n size w h1).mono fun e w' ⟨he, hw⟩ => by subst he; subst hw; exact Gives2.none_ (Below.refl _ _)
  · obtain ⟨s, rfl⟩ : ∃ s : Nat, size = s := ⟨size.toNat, by omega⟩
    by_cases h2 : 256 ^ s ≤ n
    · rw [show putOut n s = ([], 6) from by simp [putOut, h1, h2]]
      exact (put_range n s w h64 h2 (by omega) (by omega)).mono fun e w' ⟨he, hw⟩ => by subst he; subst hw; exact Gives2.none_ (Below.refl _ _)
    · rw [show putOut n s = (be n s, 0) from by simp [putOut, h1, h2]]
      exact (put_any n s w h64 (by omega) (by omega) (by omega)).mono fun e w' ⟨v, he, hown, hb⟩ => by subst he; exact Gives2.own (be_len n s) hown hb

theorem rput_all (n : Nat) (size : Int) (w : World) (h64 : n < 18446744073709551616) :
    Calls Try.prog 12 #[.int .u64 n, .int .i64 size] w (Gives2 (putOut n size).1 (putOut n size).2 w) := by
  by_cases h1 : size < 1 ∨ 8 < size
  · rw [show putOut n size = ([], 2) from if_pos h1]
    exact (rput_arg n size w h1).mono fun e w' ⟨he, hw⟩ => by subst he; subst hw; exact Gives2.none_ (Below.refl _ _)
  · obtain ⟨s, rfl⟩ : ∃ s : Nat, size = s := ⟨size.toNat, by omega⟩
    by_cases h2 : 256 ^ s ≤ n
    · rw [show putOut n s = ([], 6) from by simp [putOut, h1, h2]]
      exact (rput_range n s w h64 h2 (by omega) (by omega)).mono fun e w' ⟨he, hb⟩ => by subst he; exact Gives2.none_ hb
    · rw [show putOut n s = (be n s, 0) from by simp [putOut, h1, h2]]
      exact (rput_any n s w h64 (by omega) (by omega) (by omega)).mono fun e w' ⟨v, he, hown, hb⟩ => by subst he; exact Gives2.own (be_len n s) hown hb

set_option maxHeartbeats 1000000 in
theorem numbers_any (n : Nat) (size : Int) (w : World) (h64 : n < 18446744073709551616) :
    Calls Try.prog 3 #[.int .u64 n, .int .i64 size] w fun e w' => e = .returned (.bool true) ∧ Below w.heap.size w w' := by
  have C1 := fun w => put_all n size w h64
  have C2 := fun w => rput_all n size w h64
  generalize (putOut n size).1 = l at C1 C2
  generalize (putOut n size).2 = k at C1 C2
  have HC1 := Lib.hid C1; clear C1
  have HC2 := Lib.hid C2; clear C2
  go_enter Try.func3, Try.ntmps3
  go_wp2_with fail
  refine (HC1.out _).mono ?_
  rintro e w1 ⟨A, a, ca, hal, rfl, hr1, hb1⟩
  have HA := Lib.hid hal; clear hal
  go_wp2_with fail
  refine (HC2.out _).mono ?_
  rintro e w2 ⟨B, b, cb, hbl, rfl, hr2, hb2⟩
  have HB := Lib.hid hbl; clear hbl
  go_wp2_with fail
  refine (rsame_any A B l l a b ca cb HA.out.symm HB.out.symm _ (hr1.below hb2) hr2).mono ?_
  rintro e w3 ⟨rfl, rfl⟩
  rw [beq_self_eq_true]
  go_wp2_with fail
  refine (known_any _).mono ?_
  rintro e w4 ⟨rfl, hb4⟩
  go_wp2_with fail
  go_ret
  exact ⟨rfl, (hb1.trans (hb2.mono hb1.size)).trans (hb4.mono (by have := hb1.size; have := hb2.size; omega))⟩

set_option maxRecDepth 100000 in
theorem numbers_lifted (os : Os) (started : os.Started) (H : Type) (enc : TypeId × Value → H) :
    ReturnsInHanded {} Try.checked os 3 .any (Rows.octetNumbersSpec.pre6 enc Try.prog Try.f3 Rows.octetNumbersRow.domain false) (Rows.octetNumbersSpec.post enc Try.prog Try.f3 false true false false) := by
  refine returnsInHanded_of_change_sized (C := Try.checked) Try.own started (by kernel_rfl) Try.func3
    (ChangeSpec.witness6 (enc := enc) (C := Try.checked) false ⟨#[], #[.int .u64 0, .int .i64 0], []⟩ 8 (by kernel_rfl) (by kernel_rfl) (by kernel_rfl) (by kernel_rfl)) ?_
  intro W base args ds gs before hval0 hW _ hsz0 _
  have hval : ∀ (j : Nat) t v, Try.f3.params[j]? = some t → args[j]? = some v → Value.okWide Try.prog W .any base t v := hval0
  have hW' := hW
  obtain ⟨p, q, hA0, hV, rfl, _, _⟩ := hW
  have hA : DataW.TrodAll enc Try.prog W 0 (fun _ => true) true Try.f3.params.toList args.toList ds p := hA0
  rw [Try.params3] at hA hval
  obtain ⟨v0, v1, d0, d1, p0, p1, rfl, rfl, rfl, h0, h1⟩ := trodAll_two hA
  obtain ⟨rfl, rfl⟩ := trodVars_none hV
  obtain ⟨a, rfl, rfl, rfl, wa⟩ := open_int Try.underlying22 (hval 0 22 v0 rfl rfl) h0
  obtain ⟨b, rfl, rfl, rfl, wb⟩ := open_int Try.underlying3 (hval 1 3 v1 rfl rfl) h1
  have ha : 0 ≤ a ∧ a ≤ 18446744073709551615 := by simpa [Lit.wf, IntKind.min, IntKind.max, IntKind.signed, IntKind.bits] using wa
  obtain ⟨n, rfl⟩ : ∃ n : Nat, a = n := ⟨a.toNat, by omega⟩
  refine (numbers_any n b W (by omega)).mono fun e W' ⟨he, hb⟩ => ⟨_, he, ?_⟩
  exact law_post 4 Try.underlying4 (by kernel_rfl) rfl Try.laidOut (by kernel_rfl) hW' ⟨rfl, rfl, rfl⟩ hb

theorem numbers_holds : Rows.OctetNumbersSaid :=
  OpenClaim.holds_of_wide 3 Try.f3 rfl rfl rfl rfl rfl rfl rfl ⟨rfl, rfl, rfl, rfl, rfl⟩ rfl rfl rfl rfl rfl (by kernel_rfl) Try.func3 (by kernel_rfl)
    (of_decide_eq_true (by kernel_rfl)) (by unfold Func.isWrapper; first | (rw [if_pos (by decide +kernel)]; kernel_rfl) | (rw [if_neg (by decide +kernel)]; exact ⟨rfl, rfl⟩))
    (fun os started H enc _ => numbers_lifted os started H enc)
end Go.Proofs.Ytlafndoidioomaa
