/-
  octet.Unhex answers what the document's Unhex answers, for any digits: OctetUnhex, for every input.
-/
import Derived.Test.YtlafndoidioomaaLaw
import Derived.Test.YtlafndoidioomaaOctA
import Derived.Test.YtlafndoidioomaaOctH
import Derived.Test.YtlafndoidioomaaOctG
namespace Go.Proofs.Ytlafndoidioomaa
open Go Go.RowKit Go.ChangeShapes Go.WideShapes Go.ChangeAt
set_option linter.unusedVariables false

set_option maxHeartbeats 1000000 in
theorem unhexlaw_any (s : List UInt8) (w : World) (hl : s.length ≤ 140737488351232) :
    Calls Try.prog 7 #[.string ⟨s.toArray⟩] w fun e w' => e = .returned (.bool true) ∧ Below w.heap.size w w' := by
  have C1 := fun w => unhex_any s s.length rfl w hl
  have C2 := fun w => runhex_any s s.length rfl w hl
  generalize unhexOut s = o at C1 C2
  obtain ⟨l, x, y⟩ := o
  have HC1 := Lib.hid C1; clear C1
  have HC2 := Lib.hid C2; clear C2
  go_enter Try.func7, Try.ntmps7
  go_wp2_with fail
  refine (HC1.out _).mono ?_
  rintro e w1 ⟨A, a, ca, hal, rfl, hr1, hb1⟩
  have HA := Lib.hid hal; clear hal
  go_wp2_with fail
  refine (HC2.out _).mono ?_
  rintro e w2 ⟨B, b, cb, hbl, rfl, hr2, hb2⟩
  have HB := Lib.hid hbl; clear hbl
  go_wp2_with fail
  refine (rsame_any A B l l a b ca cb HA.out.symm HB.out.symm _ (hr1.below hb2) hr2).mono ?_
  rintro e w3 ⟨rfl, rfl⟩
  rw [beq_self_eq_true]
  go_wp2_with fail
  refine (known_any _).mono ?_
  rintro e w4 ⟨rfl, hb4⟩
  go_wp2_with fail
  go_ret
  have bb := hb1.trans (hb2.mono hb1.size)
  exact ⟨rfl, bb.trans (hb4.mono bb.size)⟩

set_option maxRecDepth 100000 in
theorem unhexlaw_lifted (os : Os) (started : os.Started) (H : Type) (enc : TypeId × Value → H) :
    ReturnsInHanded {} Try.checked os 7 .any (Rows.octetUnhexSpec.pre6 enc Try.prog Try.f7 Rows.octetUnhexRow.domain false) (Rows.octetUnhexSpec.post enc Try.prog Try.f7 false true false false) := by
  refine returnsInHanded_of_change_sized (C := Try.checked) Try.own started (by kernel_rfl) Try.func7
    (ChangeSpec.witness6 (enc := enc) (C := Try.checked) false ⟨#[], #[.string ⟨#[]⟩], []⟩ 8 (by kernel_rfl) (by kernel_rfl) (by kernel_rfl) (by kernel_rfl)) ?_
  intro W base args ds gs before hval0 hW _ hsz0 _
  have hsz : (DataW.weightsEach Try.prog (Try.f7.params.toList ++ Rows.octetUnhexSpec.plain.varTypes Try.prog) (ds ++ gs)).all (· ≤ reachBytes) = true := hsz0
  have hval : ∀ (j : Nat) t v, Try.f7.params[j]? = some t → args[j]? = some v → Value.okWide Try.prog W .any base t v := hval0
  have hW' := hW
  obtain ⟨p, q, hA0, hV, rfl, _, _⟩ := hW
  have hA : DataW.TrodAll enc Try.prog W 0 (fun _ => true) true Try.f7.params.toList args.toList ds p := hA0
  rw [Try.params7] at hA hval hsz
  have hlt := hW'.lt
  clear hA0 hval0 hsz0
  obtain ⟨v0, vs0, d0, ds0, p0, q0, hv0, rfl, rfl, h0, r0⟩ := trodAll_cons hA
  obtain ⟨rfl, rfl, rfl⟩ := trodAll_nil r0
  obtain rfl : args = #[v0] := by cases args; simp_all
  obtain ⟨rfl, rfl⟩ := trodVars_none hV
  obtain ⟨s0, rfl, rfl, rfl, le0⟩ := open_str Try.underlying9 (hval 0 9 v0 rfl rfl) h0 (fun bs he => by subst he; exact sized_string hsz (j := 0) (t := 9) rfl rfl)
  refine (unhexlaw_any s0 W le0).mono fun e W' ⟨he, hb⟩ => ⟨_, he, ?_⟩
  exact law_post 4 Try.underlying4 (by kernel_rfl) rfl Try.laidOut (by kernel_rfl) hW' ⟨rfl, rfl, rfl⟩ hb

theorem unhexlaw_holds : Rows.OctetUnhexSaid :=
  OpenClaim.holds_of_wide 7 Try.f7 rfl rfl rfl rfl rfl rfl rfl ⟨rfl, rfl, rfl, rfl, rfl⟩ rfl rfl rfl rfl rfl (by kernel_rfl) Try.func7 (by kernel_rfl)
    (of_decide_eq_true (by kernel_rfl)) (by unfold Func.isWrapper; first | (rw [if_pos (by decide +kernel)]; kernel_rfl) | (rw [if_neg (by decide +kernel)]; exact ⟨rfl, rfl⟩))
    (fun os started H enc _ => unhexlaw_lifted os started H enc)
end Go.Proofs.Ytlafndoidioomaa
