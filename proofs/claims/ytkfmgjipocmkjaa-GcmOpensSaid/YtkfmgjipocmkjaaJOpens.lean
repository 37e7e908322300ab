/-
  Any sealed bytes are opened as the document has it, or refused; they stay: GcmOpens, for every input.
-/
import Derived.Test.YtkfmgjipocmkjaaFoldA
import Derived.Test.YtkfmgjipocmkjaaFoldI
namespace Go.Proofs.Ytkfmgjipocmkjaa
open Go Go.RowKit Go.ChangeShapes Go.WideShapes Go.ChangeAt
set_option linter.unusedVariables false
set_option linter.unusedSimpArgs false

set_option maxRecDepth 100000 in
set_option maxHeartbeats 20000000 in
theorem jopens_any (K : Option Addr) (kl : List UInt8) (nk ck : Nat) (hkn : kl.length = nk) (A : Option Addr) (nl : List UInt8) (nn cn : Nat) (hnn : nl.length = nn) (D : Option Addr) (al : List UInt8) (na ca : Nat) (hna : al.length = na) (B : Option Addr) (tl : List UInt8) (nt ct : Nat) (hnt : tl.length = nt) (w : World)
    (hl1 : nk ≤ 140737488351232) (c1 : nk ≤ ck) (h1 : Rd w w.heap.size K (vb kl)) (hl2 : nn ≤ 140737488351232) (c2 : nn ≤ cn) (h2 : Rd w w.heap.size A (vb nl)) (hl3 : na ≤ 140737488351232) (c3 : na ≤ ca) (h3 : Rd w w.heap.size D (vb al)) (hl4 : nt ≤ 140737488351232) (c4 : nt ≤ ct) (h4 : Rd w w.heap.size B (vb tl)) :
    Calls Try.prog 4 #[.slice K nk ck, .slice A nn cn, .slice D na ca, .slice B nt ct] w fun e w' => e = .returned (.bool true) ∧ Below w.heap.size w w' := by
  have HK := Lib.hid hkn; clear hkn
  have HA := Lib.hid hnn; clear hnn
  have HD := Lib.hid hna; clear hna
  have HT := Lib.hid hnt; clear hnt
  have R1 := Lib.hid h1; clear h1
  have R2 := Lib.hid h2; clear h2
  have R3 := Lib.hid h3; clear h3
  have R4 := Lib.hid h4; clear h4
  have hf1 := few_any D na ca
  have hf2 := few_any B nt ct
  rcases Bool.eq_false_or_eq_true (fewB na) with e1 | e1
  · rw [e1] at hf1
    have F1 := Lib.hid hf1; clear hf1
    rcases Bool.eq_false_or_eq_true (fewB nt) with e2 | e2
    · rw [e2] at hf2
      have F2 := Lib.hid hf2; clear hf2
      clear e1 e2
      go_enter Try.func4, Try.ntmps4
      go_wp2_with fail
      refine (F1.out _).mono ?_
      rintro e wq ⟨rfl, rfl⟩
      go_wp2_with fail
      refine (F2.out _).mono ?_
      rintro e wq ⟨rfl, rfl⟩
      go_wp2_with fail
      refine (copyv_any B (vb tl) nt ct (by simpa using HT.out) (vb_onec tl) _ hl4 R4.out).mono ?_
      rintro e w4 ⟨v2, rfl, ho2, hb2⟩
      obtain ⟨X4, k4, rfl, _, r2⟩ := Rd.of_own ho2
      have hk4 := own_cap ho2
      have Q4 := Lib.hid r2; clear r2 ho2
      replace R1 := Lib.hid (R1.out.go hb2)
      replace R2 := Lib.hid (R2.out.go hb2)
      replace R3 := Lib.hid (R3.out.go hb2)
      replace R4 := Lib.hid (R4.out.go hb2)
      have HB := Lib.hid hb2; clear hb2
      go_wp2_with fail
      have hs := gopen_all K A D X4 kl nl al tl nk nn na nt ck cn ca k4 HK.out HA.out HD.out HT.out c1 c2 c3 hk4 (by omega) (by omega) (by omega) (by omega) w4 R1.out R2.out R3.out Q4.out
      have hr := fun (W : World) (r1 : Rd W W.heap.size K (vb kl)) (r2 : Rd W W.heap.size A (vb nl)) (r3 : Rd W W.heap.size D (vb al)) (r4 : Rd W W.heap.size B (vb tl)) => ropen_all K A D B kl nl al tl nk nn na nt ck cn ca ct HK.out HA.out HD.out HT.out c4 W r1 r2 r3 r4
      generalize opnB kl nl al tl = bs at *
      generalize opnR kl nl al tl = R at *
      have HRS := Lib.hid hr; clear hr
      refine hs.mono ?_
      clear hs
      rintro e w5 ⟨C, c, rfl, hcc, rc, hb5⟩
      have S1 := Lib.hid rc; clear rc
      replace R1 := Lib.hid (R1.out.go hb5)
      replace R2 := Lib.hid (R2.out.go hb5)
      replace R3 := Lib.hid (R3.out.go hb5)
      replace R4 := Lib.hid (R4.out.go hb5)
      replace Q4 := Lib.hid (Q4.out.go hb5)
      replace HB := Lib.hid (HB.out.trans (hb5.mono HB.out.size)); clear hb5
      go_wp2_with fail
      refine (HRS.out _ R1.out R2.out R3.out R4.out).mono ?_
      rintro e w6 ⟨E, d, rfl, hdd, rd, hb5⟩
      have S2 := Lib.hid rd; clear rd
      replace R1 := Lib.hid (R1.out.go hb5)
      replace R2 := Lib.hid (R2.out.go hb5)
      replace R3 := Lib.hid (R3.out.go hb5)
      replace R4 := Lib.hid (R4.out.go hb5)
      replace Q4 := Lib.hid (Q4.out.go hb5)
      replace S1 := Lib.hid (S1.out.go hb5)
      replace HB := Lib.hid (HB.out.trans (hb5.mono HB.out.size)); clear hb5
      go_wp2_with fail
      refine (same_self X4 B tl nt k4 ct HT.out _ Q4.out R4.out).mono ?_
      rintro e wq ⟨rfl, rfl⟩
      go_wp2_with fail
      refine (same_self C E bs bs.length c d rfl _ S1.out S2.out).mono ?_
      rintro e wq ⟨rfl, rfl⟩
      go_wp2_with fail
      refine (known06_any _).mono ?_
      rintro e wz ⟨rfl, hz⟩
      go_wp2_with fail
      go_ret
      exact ⟨rfl, HB.out.trans (hz.mono HB.out.size)⟩
    · rw [e2] at hf2
      have F2 := Lib.hid hf2; clear hf2
      clear e1 e2
      go_enter Try.func4, Try.ntmps4
      go_wp2_with fail
      refine (F1.out _).mono ?_
      rintro e wq ⟨rfl, rfl⟩
      go_wp2_with fail
      refine (F2.out _).mono ?_
      rintro e wq ⟨rfl, rfl⟩
      go_wp2_with fail
      refine (known06_any _).mono ?_
      rintro e wz ⟨rfl, hz⟩
      go_wp2_with fail
      go_ret
      exact ⟨rfl, hz⟩
  · rw [e1] at hf1
    have F1 := Lib.hid hf1; clear hf1
    clear e1 hf2
    go_enter Try.func4, Try.ntmps4
    go_wp2_with fail
    refine (F1.out _).mono ?_
    rintro e wq ⟨rfl, rfl⟩
    go_wp2_with fail
    refine (known06_any _).mono ?_
    rintro e wz ⟨rfl, hz⟩
    go_wp2_with fail
    go_ret
    exact ⟨rfl, hz⟩

set_option maxRecDepth 100000 in
theorem jopens_lifted (os : Os) (started : os.Started) (H : Type) (enc : TypeId × Value → H) :
    ReturnsInHanded {} Try.checked os 4 .any (Rows.gcmOpensSpec.pre6 enc Try.prog Try.f4 Rows.gcmOpensRow.domain false) (Rows.gcmOpensSpec.post enc Try.prog Try.f4 false true false false) := by
  refine returnsInHanded_of_change_sized (C := Try.checked) Try.own started (by kernel_rfl) Try.func4
    (ChangeSpec.witness6 (enc := enc) (C := Try.checked) false ⟨#[], #[.slice none 0 0, .slice none 0 0, .slice none 0 0, .slice none 0 0], []⟩ 8 (by kernel_rfl) (by kernel_rfl) (by kernel_rfl) (by kernel_rfl)) ?_
  intro W base args ds gs before hval0 hW _ hsz0 _
  have hsz : (DataW.weightsEach Try.prog (Try.f4.params.toList ++ Rows.gcmOpensSpec.plain.varTypes Try.prog) (ds ++ gs)).all (· ≤ reachBytes) = true := hsz0
  have hval : ∀ (j : Nat) t v, Try.f4.params[j]? = some t → args[j]? = some v → Value.okWide Try.prog W .any base t v := hval0
  have hW' := hW
  obtain ⟨p, q, hA0, hV, rfl, _, _⟩ := hW
  have hA : DataW.TrodAll enc Try.prog W 0 (fun _ => true) true Try.f4.params.toList args.toList ds p := hA0
  rw [Try.params4] at hA hval hsz
  have hlt := hW'.lt
  clear hA0 hval0 hsz0
  obtain ⟨v0, vs0, d0, ds0, p0, q0, hv0, rfl, rfl, h0, r0⟩ := trodAll_cons hA
  obtain ⟨v1, vs1, d1, ds1, p1, q1, hv1, rfl, rfl, h1, r1⟩ := trodAll_cons r0
  subst hv1
  obtain ⟨v2, vs2, d2, ds2, p2, q2, hv2, rfl, rfl, h2, r2⟩ := trodAll_cons r1
  subst hv2
  obtain ⟨v3, vs3, d3, ds3, p3, q3, hv3, rfl, rfl, h3, r3⟩ := trodAll_cons r2
  subst hv3
  obtain ⟨rfl, rfl, rfl⟩ := trodAll_nil r3
  obtain rfl : args = #[v0, v1, v2, v3] := by cases args; simp_all
  obtain ⟨rfl, rfl⟩ := trodVars_none hV
  obtain ⟨A0, l0, c0, rfl, rd0, le0, lc0⟩ := open_bytes_cap Try.underlying22 Try.underlying5 Try.cellsU8 (hval 0 22 v0 rfl rfl) h0 (fun x hx => hlt x (by simp [hx])) (fun es sp he => by subst he; have := sized_slice hsz (j := 0) (t := 22) (e := 5) rfl rfl Try.underlying22; rw [Try.bytesU8, Nat.mul_one] at this; exact this)
  obtain ⟨A1, l1, c1, rfl, rd1, le1, lc1⟩ := open_bytes_cap Try.underlying22 Try.underlying5 Try.cellsU8 (hval 1 22 v1 rfl rfl) h1 (fun x hx => hlt x (by simp [hx])) (fun es sp he => by subst he; have := sized_slice hsz (j := 1) (t := 22) (e := 5) rfl rfl Try.underlying22; rw [Try.bytesU8, Nat.mul_one] at this; exact this)
  obtain ⟨A2, l2, c2, rfl, rd2, le2, lc2⟩ := open_bytes_cap Try.underlying22 Try.underlying5 Try.cellsU8 (hval 2 22 v2 rfl rfl) h2 (fun x hx => hlt x (by simp [hx])) (fun es sp he => by subst he; have := sized_slice hsz (j := 2) (t := 22) (e := 5) rfl rfl Try.underlying22; rw [Try.bytesU8, Nat.mul_one] at this; exact this)
  obtain ⟨A3, l3, c3, rfl, rd3, le3, lc3⟩ := open_bytes_cap Try.underlying22 Try.underlying5 Try.cellsU8 (hval 3 22 v3 rfl rfl) h3 (fun x hx => hlt x (by simp [hx])) (fun es sp he => by subst he; have := sized_slice hsz (j := 3) (t := 22) (e := 5) rfl rfl Try.underlying22; rw [Try.bytesU8, Nat.mul_one] at this; exact this)
  refine (jopens_any A0 l0 l0.length c0 rfl A1 l1 l1.length c1 rfl A2 l2 l2.length c2 rfl A3 l3 l3.length c3 rfl W le0 lc0 rd0 le1 lc1 rd1 le2 lc2 rd2 le3 lc3 rd3).mono fun e W' ⟨he, hb⟩ => ⟨_, he, ?_⟩
  exact law_post 4 Try.underlying4 (by kernel_rfl) rfl Try.laidOut (by kernel_rfl) hW' ⟨rfl, rfl, rfl⟩ hb

theorem jopens_holds : Rows.GcmOpensSaid :=
  OpenClaim.holds_of_wide 4 Try.f4 rfl rfl rfl rfl rfl rfl rfl ⟨rfl, rfl, rfl, rfl, rfl⟩ rfl rfl rfl rfl rfl (by kernel_rfl) Try.func4 (by kernel_rfl)
    (of_decide_eq_true (by kernel_rfl)) (by unfold Func.isWrapper; first | (rw [if_pos (by decide +kernel)]; kernel_rfl) | (rw [if_neg (by decide +kernel)]; exact ⟨rfl, rfl⟩))
    (fun os started H enc _ => jopens_lifted os started H enc)
end Go.Proofs.Ytkfmgjipocmkjaa
