/-
  Any text under any key and nonce is the document's, or refused as it says; all three stay: CtrCrypts, for every input.
-/
import Derived.Test.YtfgigoheaoanpaaLaw
import Derived.Test.YtfgigoheaoanpaaCtrM
namespace Go.Proofs.Ytfgigoheaoanpaa
open Go Go.RowKit Go.ChangeShapes Go.WideShapes Go.ChangeAt
set_option linter.unusedVariables false
set_option linter.unusedSimpArgs false

set_option maxRecDepth 100000 in
set_option maxHeartbeats 20000000 in
theorem kcrypts_any (K : Option Addr) (kl : List UInt8) (nk ck : Nat) (hkn : kl.length = nk) (A : Option Addr) (nl : List UInt8) (nn cn : Nat) (hnn : nl.length = nn) (B : Option Addr) (l : List UInt8) (n ct : Nat) (hn : l.length = n) (w : World)
    (hl1 : nk ≤ 140737488351232) (h1 : Rd w w.heap.size K (vb kl)) (hl2 : nn ≤ 140737488351232) (h2 : Rd w w.heap.size A (vb nl)) (hl3 : n ≤ 140737488351232) (h3 : Rd w w.heap.size B (vb l)) :
    Calls Try.prog 4 #[.slice K nk ck, .slice A nn cn, .slice B n ct] w fun e w' => e = .returned (.bool true) ∧ Below w.heap.size w w' := by
  have HK := Lib.hid hkn; clear hkn
  have HA := Lib.hid hnn; clear hnn
  have HL := Lib.hid hn; clear hn
  have R1 := Lib.hid h1; clear h1
  have R2 := Lib.hid h2; clear h2
  have R3 := Lib.hid h3; clear h3
  have hcase : n ≤ 400 ∨ 65536 < n ∨ (400 < n ∧ n ≤ 65536) := by omega
  rcases hcase with hs | hs | ⟨hs, hs2⟩
  · have i1 : ¬ (400 : Int) < (n : Int) := by omega
    go_enter Try.func4, Try.ntmps4
    go_wp2_with fail
    refine (copyv_any K (vb kl) nk ck (by simpa using HK.out) (vb_onec kl) w hl1 R1.out).mono ?_
    rintro e w1 ⟨v2, rfl, ho2, hb2⟩
    obtain ⟨X1, k1, rfl, _, r2⟩ := Rd.of_own ho2
    have hk1 := own_cap ho2
    have Q1 := Lib.hid r2; clear r2 ho2
    replace R1 := Lib.hid (R1.out.go hb2)
    replace R2 := Lib.hid (R2.out.go hb2)
    replace R3 := Lib.hid (R3.out.go hb2)
    have HB := Lib.hid hb2; clear hb2
    go_wp2_with fail
    refine (copyv_any A (vb nl) nn cn (by simpa using HA.out) (vb_onec nl) w1 hl2 R2.out).mono ?_
    rintro e w2 ⟨v2, rfl, ho2, hb2⟩
    obtain ⟨X2, k2, rfl, _, r2⟩ := Rd.of_own ho2
    have hk2 := own_cap ho2
    have Q2 := Lib.hid r2; clear r2 ho2
    replace R1 := Lib.hid (R1.out.go hb2)
    replace R2 := Lib.hid (R2.out.go hb2)
    replace R3 := Lib.hid (R3.out.go hb2)
    replace Q1 := Lib.hid (Q1.out.go hb2)
    replace HB := Lib.hid (HB.out.trans (hb2.mono HB.out.size)); clear hb2
    try clear w1
    go_wp2_with fail
    refine (copyv_any B (vb l) n ct (by simpa using HL.out) (vb_onec l) w2 hl3 R3.out).mono ?_
    rintro e w3 ⟨v2, rfl, ho2, hb2⟩
    obtain ⟨X3, k3, rfl, _, r2⟩ := Rd.of_own ho2
    have hk3 := own_cap ho2
    have Q3 := Lib.hid r2; clear r2 ho2
    replace R1 := Lib.hid (R1.out.go hb2)
    replace R2 := Lib.hid (R2.out.go hb2)
    replace R3 := Lib.hid (R3.out.go hb2)
    replace Q1 := Lib.hid (Q1.out.go hb2)
    replace Q2 := Lib.hid (Q2.out.go hb2)
    replace HB := Lib.hid (HB.out.trans (hb2.mono HB.out.size)); clear hb2
    try clear w2
    go_wp2_with fail
    by_cases ho : opE nk nn n = 0
    · skip
      obtain ⟨hk16, h12, _⟩ := opE_ok _ _ _ ho
      have hop := fun w : World => opens_any K A B nk nn n ck cn ct w
      rw [ho] at hop
      have HO := Lib.hid hop; clear hop ho
      subst h12
      refine (ccryptb_any X1 kl nk k1 HK.out hk16 hk1 X2 nl k2 HA.out hk2 X3 l n k3 HL.out hk3 (by omega) w3 Q1.out Q2.out Q3.out).mono ?_
      rintro e w5 ⟨C, c, rfl, hcc, rc, hb5⟩
      have S1 := Lib.hid rc; clear rc
      replace R1 := Lib.hid (R1.out.go hb5)
      replace R2 := Lib.hid (R2.out.go hb5)
      replace R3 := Lib.hid (R3.out.go hb5)
      replace Q1 := Lib.hid (Q1.out.go hb5)
      replace Q2 := Lib.hid (Q2.out.go hb5)
      replace Q3 := Lib.hid (Q3.out.go hb5)
      replace HB := Lib.hid (HB.out.trans (hb5.mono HB.out.size)); clear hb5
      go_wp2_with fail
      refine (same_self X1 K kl nk k1 ck HK.out _ Q1.out R1.out).mono ?_
      rintro e wq ⟨rfl, rfl⟩
      go_wp2_with fail
      refine (same_self X2 A nl 12 k2 cn HA.out _ Q2.out R2.out).mono ?_
      rintro e wq ⟨rfl, rfl⟩
      go_wp2_with fail
      refine (same_self X3 B l n k3 ct HL.out _ Q3.out R3.out).mono ?_
      rintro e wq ⟨rfl, rfl⟩
      go_wp2_with fail
      refine (HO.out _).mono ?_
      rintro e wq ⟨rfl, rfl⟩
      go_wp2_with fail
      refine (rcryptb_any K kl nk ck HK.out hk16 A nl cn HA.out B l n ct HL.out (by omega) _ R1.out R2.out R3.out).mono ?_
      rintro e w6 ⟨D, d, rfl, rd, hb5⟩
      have S2 := Lib.hid rd; clear rd
      replace S1 := Lib.hid (S1.out.go hb5)
      replace HB := Lib.hid (HB.out.trans (hb5.mono HB.out.size)); clear hb5
      go_wp2_with fail
      refine (same_self C D (cryb kl nl l) n c d (by rw [cryb_len, HL.out]) _ S1.out S2.out).mono ?_
      rintro e wq ⟨rfl, rfl⟩
      go_wp2_with fail
      refine (known05_any _).mono ?_
      rintro e wz ⟨rfl, hz⟩
      go_wp2_with fail
      go_ret
      exact ⟨rfl, HB.out.trans (hz.mono HB.out.size)⟩
    · skip
      have hno := ccryptb_no X1 X2 X3 kl nl l nk nn n k1 k2 k3 HK.out HA.out HL.out hk1 hk2 hk3 (by omega) (by omega) (by omega) ho w3 Q1.out Q2.out Q3.out
      have hop := fun w : World => opens_any K A B nk nn n ck cn ct w
      refine hno.mono ?_
      rintro e w5 ⟨rfl, hb5⟩
      clear hno
      have HO := Lib.hid hop; clear hop
      replace R1 := Lib.hid (R1.out.go hb5)
      replace R2 := Lib.hid (R2.out.go hb5)
      replace R3 := Lib.hid (R3.out.go hb5)
      replace Q1 := Lib.hid (Q1.out.go hb5)
      replace Q2 := Lib.hid (Q2.out.go hb5)
      replace Q3 := Lib.hid (Q3.out.go hb5)
      replace HB := Lib.hid (HB.out.trans (hb5.mono HB.out.size)); clear hb5
      generalize opE nk nn n = o at *
      have ho2 : ¬ (o : Int) = 0 := by omega
      go_wp2_with fail
      refine (same_self X1 K kl nk k1 ck HK.out _ Q1.out R1.out).mono ?_
      rintro e wq ⟨rfl, rfl⟩
      go_wp2_with fail
      refine (same_self X2 A nl nn k2 cn HA.out _ Q2.out R2.out).mono ?_
      rintro e wq ⟨rfl, rfl⟩
      go_wp2_with fail
      refine (same_self X3 B l n k3 ct HL.out _ Q3.out R3.out).mono ?_
      rintro e wq ⟨rfl, rfl⟩
      go_wp2_with fail
      refine (HO.out _).mono ?_
      rintro e wq ⟨rfl, rfl⟩
      go_wp2_with fail
      refine (known05_any _).mono ?_
      rintro e wz ⟨rfl, hz⟩
      go_wp2_with fail
      go_ret
      exact ⟨rfl, HB.out.trans (hz.mono HB.out.size)⟩
  · have i1 : (400 : Int) < (n : Int) := by omega
    have i2 : ¬ (n : Int) ≤ 65536 := by omega
    have ho : opE nk nn n ≠ 0 := fun h => by have := (opE_ok _ _ _ h).2.2; omega
    go_enter Try.func4, Try.ntmps4
    go_wp2_with fail
    refine (copyv_any K (vb kl) nk ck (by simpa using HK.out) (vb_onec kl) w hl1 R1.out).mono ?_
    rintro e w1 ⟨v2, rfl, ho2, hb2⟩
    obtain ⟨X1, k1, rfl, _, r2⟩ := Rd.of_own ho2
    have hk1 := own_cap ho2
    have Q1 := Lib.hid r2; clear r2 ho2
    replace R1 := Lib.hid (R1.out.go hb2)
    replace R2 := Lib.hid (R2.out.go hb2)
    replace R3 := Lib.hid (R3.out.go hb2)
    have HB := Lib.hid hb2; clear hb2
    go_wp2_with fail
    refine (copyv_any A (vb nl) nn cn (by simpa using HA.out) (vb_onec nl) w1 hl2 R2.out).mono ?_
    rintro e w2 ⟨v2, rfl, ho2, hb2⟩
    obtain ⟨X2, k2, rfl, _, r2⟩ := Rd.of_own ho2
    have hk2 := own_cap ho2
    have Q2 := Lib.hid r2; clear r2 ho2
    replace R1 := Lib.hid (R1.out.go hb2)
    replace R2 := Lib.hid (R2.out.go hb2)
    replace R3 := Lib.hid (R3.out.go hb2)
    replace Q1 := Lib.hid (Q1.out.go hb2)
    replace HB := Lib.hid (HB.out.trans (hb2.mono HB.out.size)); clear hb2
    try clear w1
    go_wp2_with fail
    refine (copyv_any B (vb l) n ct (by simpa using HL.out) (vb_onec l) w2 hl3 R3.out).mono ?_
    rintro e w3 ⟨v2, rfl, ho2, hb2⟩
    obtain ⟨X3, k3, rfl, _, r2⟩ := Rd.of_own ho2
    have hk3 := own_cap ho2
    have Q3 := Lib.hid r2; clear r2 ho2
    replace R1 := Lib.hid (R1.out.go hb2)
    replace R2 := Lib.hid (R2.out.go hb2)
    replace R3 := Lib.hid (R3.out.go hb2)
    replace Q1 := Lib.hid (Q1.out.go hb2)
    replace Q2 := Lib.hid (Q2.out.go hb2)
    replace HB := Lib.hid (HB.out.trans (hb2.mono HB.out.size)); clear hb2
    try clear w2
    go_wp2_with fail
    have hno := ccryptb_no X1 X2 X3 kl nl l nk nn n k1 k2 k3 HK.out HA.out HL.out hk1 hk2 hk3 (by omega) (by omega) (by omega) ho w3 Q1.out Q2.out Q3.out
    have hop := fun w : World => opens_any K A B nk nn n ck cn ct w
    refine hno.mono ?_
    rintro e w5 ⟨rfl, hb5⟩
    clear hno
    have HO := Lib.hid hop; clear hop
    replace R1 := Lib.hid (R1.out.go hb5)
    replace R2 := Lib.hid (R2.out.go hb5)
    replace R3 := Lib.hid (R3.out.go hb5)
    replace Q1 := Lib.hid (Q1.out.go hb5)
    replace Q2 := Lib.hid (Q2.out.go hb5)
    replace Q3 := Lib.hid (Q3.out.go hb5)
    replace HB := Lib.hid (HB.out.trans (hb5.mono HB.out.size)); clear hb5
    generalize opE nk nn n = o at *
    have ho2 : ¬ (o : Int) = 0 := by omega
    go_wp2_with fail
    refine (same_self X1 K kl nk k1 ck HK.out _ Q1.out R1.out).mono ?_
    rintro e wq ⟨rfl, rfl⟩
    go_wp2_with fail
    refine (same_self X2 A nl nn k2 cn HA.out _ Q2.out R2.out).mono ?_
    rintro e wq ⟨rfl, rfl⟩
    go_wp2_with fail
    refine (same_self X3 B l n k3 ct HL.out _ Q3.out R3.out).mono ?_
    rintro e wq ⟨rfl, rfl⟩
    go_wp2_with fail
    refine (HO.out _).mono ?_
    rintro e wq ⟨rfl, rfl⟩
    go_wp2_with fail
    refine (known05_any _).mono ?_
    rintro e wz ⟨rfl, hz⟩
    go_wp2_with fail
    go_ret
    exact ⟨rfl, HB.out.trans (hz.mono HB.out.size)⟩
  · have i1 : (400 : Int) < (n : Int) := by omega
    have i2 : (n : Int) ≤ 65536 := by omega
    go_enter Try.func4, Try.ntmps4
    go_wp2_with fail
    refine (known05_any _).mono ?_
    rintro e wz ⟨rfl, hz⟩
    go_wp2_with fail
    go_ret
    exact ⟨rfl, hz⟩

set_option maxRecDepth 100000 in
theorem kcrypts_lifted (os : Os) (started : os.Started) (H : Type) (enc : TypeId × Value → H) :
    ReturnsInHanded {} Try.checked os 4 .any (Rows.ctrCryptsSpec.pre6 enc Try.prog Try.f4 Rows.ctrCryptsRow.domain false) (Rows.ctrCryptsSpec.post enc Try.prog Try.f4 false true false false) := by
  refine returnsInHanded_of_change_sized (C := Try.checked) Try.own started (by kernel_rfl) Try.func4
    (ChangeSpec.witness6 (enc := enc) (C := Try.checked) false ⟨#[], #[.slice none 0 0, .slice none 0 0, .slice none 0 0], []⟩ 8 (by kernel_rfl) (by kernel_rfl) (by kernel_rfl) (by kernel_rfl)) ?_
  intro W base args ds gs before hval0 hW _ hsz0 _
  have hsz : (DataW.weightsEach Try.prog (Try.f4.params.toList ++ Rows.ctrCryptsSpec.plain.varTypes Try.prog) (ds ++ gs)).all (· ≤ reachBytes) = true := hsz0
  have hval : ∀ (j : Nat) t v, Try.f4.params[j]? = some t → args[j]? = some v → Value.okWide Try.prog W .any base t v := hval0
  have hW' := hW
  obtain ⟨p, q, hA0, hV, rfl, _, _⟩ := hW
  have hA : DataW.TrodAll enc Try.prog W 0 (fun _ => true) true Try.f4.params.toList args.toList ds p := hA0
  rw [Try.params4] at hA hval hsz
  have hlt := hW'.lt
  clear hA0 hval0 hsz0
  obtain ⟨v0, vs0, d0, ds0, p0, q0, hv0, rfl, rfl, h0, r0⟩ := trodAll_cons hA
  obtain ⟨v1, vs1, d1, ds1, p1, q1, hv1, rfl, rfl, h1, r1⟩ := trodAll_cons r0
  subst hv1
  obtain ⟨v2, vs2, d2, ds2, p2, q2, hv2, rfl, rfl, h2, r2⟩ := trodAll_cons r1
  subst hv2
  obtain ⟨rfl, rfl, rfl⟩ := trodAll_nil r2
  obtain rfl : args = #[v0, v1, v2] := by cases args; simp_all
  obtain ⟨rfl, rfl⟩ := trodVars_none hV
  obtain ⟨A0, l0, c0, rfl, rd0, le0⟩ := open_bytes Try.underlying22 Try.underlying5 Try.cellsU8 (hval 0 22 v0 rfl rfl) h0 (fun x hx => hlt x (by simp [hx])) (fun es sp he => by subst he; have := sized_slice hsz (j := 0) (t := 22) (e := 5) rfl rfl Try.underlying22; rw [Try.bytesU8, Nat.mul_one] at this; exact this)
  obtain ⟨A1, l1, c1, rfl, rd1, le1⟩ := open_bytes Try.underlying22 Try.underlying5 Try.cellsU8 (hval 1 22 v1 rfl rfl) h1 (fun x hx => hlt x (by simp [hx])) (fun es sp he => by subst he; have := sized_slice hsz (j := 1) (t := 22) (e := 5) rfl rfl Try.underlying22; rw [Try.bytesU8, Nat.mul_one] at this; exact this)
  obtain ⟨A2, l2, c2, rfl, rd2, le2⟩ := open_bytes Try.underlying22 Try.underlying5 Try.cellsU8 (hval 2 22 v2 rfl rfl) h2 (fun x hx => hlt x (by simp [hx])) (fun es sp he => by subst he; have := sized_slice hsz (j := 2) (t := 22) (e := 5) rfl rfl Try.underlying22; rw [Try.bytesU8, Nat.mul_one] at this; exact this)
  refine (kcrypts_any A0 l0 l0.length c0 rfl A1 l1 l1.length c1 rfl A2 l2 l2.length c2 rfl W le0 rd0 le1 rd1 le2 rd2).mono fun e W' ⟨he, hb⟩ => ⟨_, he, ?_⟩
  exact law_post 4 Try.underlying4 (by kernel_rfl) rfl Try.laidOut (by kernel_rfl) hW' ⟨rfl, rfl, rfl⟩ hb

theorem kcrypts_holds : Rows.CtrCryptsSaid :=
  OpenClaim.holds_of_wide 4 Try.f4 rfl rfl rfl rfl rfl rfl rfl ⟨rfl, rfl, rfl, rfl, rfl⟩ rfl rfl rfl rfl rfl (by kernel_rfl) Try.func4 (by kernel_rfl)
    (of_decide_eq_true (by kernel_rfl)) (by unfold Func.isWrapper; first | (rw [if_pos (by decide +kernel)]; kernel_rfl) | (rw [if_neg (by decide +kernel)]; exact ⟨rfl, rfl⟩))
    (fun os started H enc _ => kcrypts_lifted os started H enc)
end Go.Proofs.Ytfgigoheaoanpaa
