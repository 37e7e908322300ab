/-
  octet.Hex answers the document's digits, for any bytes (of more than 4096 the law asks nothing): OctetHex, for every input.
-/
import Derived.Test.YtlafndoidioomaaLaw
import Derived.Test.YtlafndoidioomaaOctD
import Derived.Test.YtlafndoidioomaaOctF
import Derived.Test.YtlafndoidioomaaOctG
namespace Go.Proofs.Ytlafndoidioomaa
open Go Go.RowKit Go.ChangeShapes Go.WideShapes Go.ChangeAt
set_option linter.unusedVariables false

set_option maxHeartbeats 1000000 in
theorem hexlaw_any (A : Option Addr) (l : List UInt8) (n cap : Nat) (hn : l.length = n) (w : World) (hl : n ≤ 140737488351232) (h : Rd w w.heap.size A (vb l)) :
    Calls Try.prog 6 #[.slice A n cap] w fun e w' => e = .returned (.bool true) ∧ Below w.heap.size w w' := by
  have HN := Lib.hid hn; clear hn
  by_cases h4 : n ≤ 4096
  · go_enter Try.func6, Try.ntmps6
    go_wp2_with fail
    refine (copy_any A l n cap HN.out _ hl h).mono ?_
    rintro e w1 ⟨v, rfl, hown, hb1⟩
    obtain ⟨B, c, rfl, _, hrd⟩ := Rd.of_own hown
    clear hown
    go_wp2_with fail
    refine (hex_any B l n c HN.out _ (by omega) hrd).mono ?_
    rintro e w2 ⟨rfl, hb2⟩
    have bb := hb1.trans (hb2.mono hb1.size)
    go_wp2_with fail
    refine (rhex_any A l n cap HN.out _ (by omega) (h.go bb)).mono ?_
    rintro e w3 ⟨rfl, d, rfl⟩
    go_wp2_with fail
    refine (known_any _).mono ?_
    rintro e w4 ⟨rfl, hb4⟩
    go_wp2_with fail
    go_ret
    exact ⟨rfl, (bdrewN bb d).trans (hb4.mono bb.size)⟩
  · go_enter Try.func6, Try.ntmps6
    go_wp2_with fail
    refine (known_any _).mono ?_
    rintro e w4 ⟨rfl, hb4⟩
    go_wp2_with fail
    go_ret
    exact ⟨rfl, hb4⟩

set_option maxRecDepth 100000 in
theorem hexlaw_lifted (os : Os) (started : os.Started) (H : Type) (enc : TypeId × Value → H) :
    ReturnsInHanded {} Try.checked os 6 .any (Rows.octetHexSpec.pre6 enc Try.prog Try.f6 Rows.octetHexRow.domain false) (Rows.octetHexSpec.post enc Try.prog Try.f6 false true false false) := by
  refine returnsInHanded_of_change_sized (C := Try.checked) Try.own started (by kernel_rfl) Try.func6
    (ChangeSpec.witness6 (enc := enc) (C := Try.checked) false ⟨#[], #[.slice none 0 0], []⟩ 8 (by kernel_rfl) (by kernel_rfl) (by kernel_rfl) (by kernel_rfl)) ?_
  intro W base args ds gs before hval0 hW _ hsz0 _
  have hsz : (DataW.weightsEach Try.prog (Try.f6.params.toList ++ Rows.octetHexSpec.plain.varTypes Try.prog) (ds ++ gs)).all (· ≤ reachBytes) = true := hsz0
  have hval : ∀ (j : Nat) t v, Try.f6.params[j]? = some t → args[j]? = some v → Value.okWide Try.prog W .any base t v := hval0
  have hW' := hW
  obtain ⟨p, q, hA0, hV, rfl, _, _⟩ := hW
  have hA : DataW.TrodAll enc Try.prog W 0 (fun _ => true) true Try.f6.params.toList args.toList ds p := hA0
  rw [Try.params6] at hA hval hsz
  have hlt := hW'.lt
  clear hA0 hval0 hsz0
  obtain ⟨v0, vs0, d0, ds0, p0, q0, hv0, rfl, rfl, h0, r0⟩ := trodAll_cons hA
  obtain ⟨rfl, rfl, rfl⟩ := trodAll_nil r0
  obtain rfl : args = #[v0] := by cases args; simp_all
  obtain ⟨rfl, rfl⟩ := trodVars_none hV
  obtain ⟨A0, l0, c0, rfl, rd0, le0⟩ := open_bytes Try.underlying23 Try.underlying5 Try.cellsU8 (hval 0 23 v0 rfl rfl) h0 (fun x hx => hlt x (by simp [hx])) (fun es sp he => by subst he; have := sized_slice hsz (j := 0) (t := 23) (e := 5) rfl rfl Try.underlying23; rw [Try.bytesU8, Nat.mul_one] at this; exact this)
  refine (hexlaw_any A0 l0 l0.length c0 rfl W le0 rd0).mono fun e W' ⟨he, hb⟩ => ⟨_, he, ?_⟩
  exact law_post 4 Try.underlying4 (by kernel_rfl) rfl Try.laidOut (by kernel_rfl) hW' ⟨rfl, rfl, rfl⟩ hb

theorem hexlaw_holds : Rows.OctetHexSaid :=
  OpenClaim.holds_of_wide 6 Try.f6 rfl rfl rfl rfl rfl rfl rfl ⟨rfl, rfl, rfl, rfl, rfl⟩ rfl rfl rfl rfl rfl (by kernel_rfl) Try.func6 (by kernel_rfl)
    (of_decide_eq_true (by kernel_rfl)) (by unfold Func.isWrapper; first | (rw [if_pos (by decide +kernel)]; kernel_rfl) | (rw [if_neg (by decide +kernel)]; exact ⟨rfl, rfl⟩))
    (fun os started H enc _ => hexlaw_lifted os started H enc)
end Go.Proofs.Ytlafndoidioomaa
