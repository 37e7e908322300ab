/-
  Examples that the standard's authors tell: GcmStandard.
-/
import Derived.Test.YtkfmgjipocmkjaaFoldA
import Derived.Test.YtkfmgjipocmkjaaFoldI
namespace Go.Proofs.Ytkfmgjipocmkjaa
open Go Go.RowKit Go.ChangeShapes Go.WideShapes Go.ChangeAt
set_option linter.unusedVariables false
set_option linter.unusedSimpArgs false

def goodT : List UInt8 := [3, 136, 218, 206, 96, 182, 163, 146, 243, 40, 194, 185, 113, 178, 254, 120, 171, 110, 71, 212, 44, 236, 19, 189, 245, 58, 103, 178, 18, 87, 189, 223]
theorem goodT_eq : outc ++ tag1 = goodT := by decide +kernel
theorem goodT_set : (vb goodT).set 31 (.int .u8 222) = vb badT := rfl
theorem selBZ1 : selB (List.replicate 16 0) (List.replicate 12 0) [] (List.replicate 16 0) = goodT := by unfold selB; rw [if_pos selZ1, sealZ1, goodT_eq]
theorem opnZgood : opnR (List.replicate 16 0) (List.replicate 12 0) [] goodT = 0 := by rw [← goodT_eq, ← sealZ1]; exact opnR_seal _ _ _ _ selZ1
theorem opnBgood : opnB (List.replicate 16 0) (List.replicate 12 0) [] goodT = List.replicate 16 0 := by rw [← goodT_eq, ← sealZ1]; exact opnB_seal _ _ _ _ selZ1
theorem opnBbad : opnB (List.replicate 16 0) (List.replicate 12 0) [] badT = [] := by unfold opnB; rw [if_neg (by rw [opnZbad]; decide)]
theorem opnBshort : opnB (List.replicate 16 0) (List.replicate 12 0) [] (badT.take 15) = [] := by unfold opnB; rw [if_neg (by rw [opnZshort]; decide)]
theorem rd12 {w : World} {B : Nat} {A : Option Addr} (h : Rd w B A (vb (List.replicate 16 (0 : UInt8)))) : Rd w B A (vb (List.replicate 12 (0 : UInt8))) := h.take 12
/-- Seal and Open of noughts' key. -/
theorem std_seal (A : Option Addr) (w : World) (h : Rd w w.heap.size A (vb (List.replicate 16 0))) :
    Calls Try.prog 11 #[.slice A 16 16, .slice A 12 16, .slice none 0 0, .slice A 16 16] w fun e w' => ∃ v, e = .returned (.tuple #[v, .int .i64 0]) ∧ w'.ownsRow w.heap.size 5 1 v 32 (vb goodT) ∧ Below w.heap.size w w' := by
  refine (gseal_own A A none A (List.replicate 16 0) (List.replicate 12 0) [] (List.replicate 16 0) 16 12 0 16 16 16 0 16 (by simp) (by simp) rfl (by simp) (by omega) (by omega) (by omega) (by omega) (by omega) (by omega) (by omega) (by omega) w h (rd12 h) (Rd.nil _ _ _) h).mono ?_
  rintro e w' ⟨v, rfl, ho, hb⟩
  rw [selBZ1] at ho
  rw [selZ1]
  exact ⟨v, rfl, ho, hb⟩
theorem std_open (A C : Option Addr) (sl : List UInt8) (n c : Nat) (hn : sl.length = n) (hc : n ≤ c) (hb : n ≤ 32) (w : World) (h : Rd w w.heap.size A (vb (List.replicate 16 0))) (h2 : Rd w w.heap.size C (vb sl)) (bs : List UInt8) (hbs : opnB (List.replicate 16 0) (List.replicate 12 0) [] sl = bs) (R : Nat) (hR : opnR (List.replicate 16 0) (List.replicate 12 0) [] sl = R) :
    Calls Try.prog 14 #[.slice A 16 16, .slice A 12 16, .slice none 0 0, .slice C n c] w (AnsO w bs R) := by
  rw [← hbs, ← hR]
  exact gopen_own A A none C (List.replicate 16 0) (List.replicate 12 0) [] sl 16 12 0 n 16 16 0 c (by simp) (by simp) rfl hn (by omega) (by omega) (by omega) hc (by omega) (by omega) (by omega) (by omega) w h (rd12 h) (Rd.nil _ _ _) h2

set_option maxRecDepth 100000 in
set_option maxHeartbeats 20000000 in
theorem jstandard_any (w : World) :
    Calls Try.prog 7 #[] w fun e w' => e = .returned (.bool true) ∧ Below w.heap.size w w' := by
  have mk16 : ∀ w : World, (Instr.makeSlice 22 (.int .i64 16) (.int .i64 16)).run Try.prog w = .ok (.slice (some ⟨w.heap.size, 0, none⟩) 16 16) (w.alloc (.cells (zrow 16) 5)) := zrow_make 16 (by omega)
  obtain ⟨j0, hi, hz0, hz1, hz2⟩ := info_parts info_b
  have HR0 := Lib.hid (rdZ (zrow_rd 16 w))
  have HB := Lib.hid ((Below.refl w.heap.size w).alloc (Nat.le_refl _) (.cells (zrow 16) 5))
  go_enter Try.func7, Try.ntmps7
  go_upto_region 2 with fail
  clear mk16
  generalize w.alloc (.cells (zrow 16) 5) = w1 at *
  obtain ⟨A, hA⟩ : ∃ A : Option Addr, A = some ⟨w.heap.size, 0, none⟩ := ⟨_, rfl⟩
  rw [← hA] at HR0
  rw [← hA]
  clear hA
  have r1 := run_head (P := Try.prog) 22 5 j0 Try.underlying22 hi A 16 16 12 (by omega)
  have HB1 := Lib.hid (Below.refl w1.heap.size w1)
  have hw1 : w.heap.size ≤ w1.heap.size := HB.out.size
  go_wp2_with fail
  refine (std_seal A w1 HR0.out).mono ?_
  rintro e w2 ⟨v, rfl, ho, hb5⟩
  obtain ⟨g, c, rfl, hg1, hg2⟩ := ho.form (by omega)
  have hcc := own_cap ho
  have hr : Rd w2 w2.heap.size (some ⟨g, 0, none⟩) (vb goodT) := by
    obtain ⟨A', c', e, _, hr⟩ := Rd.of_own ho
    injection e with e1 _ _
    rw [e1]; exact hr
  replace HB := Lib.hid (HB.out.trans (hb5.mono HB.out.size))
  replace HB1 := Lib.hid (HB1.out.trans (hb5.mono HB1.out.size))
  have ra := run_str (P := Try.prog) 22 9 5 Try.underlying22 Try.underlying5 Try.underlying9 (n := 32) rfl c hr
  clear hb5
  have HO := Lib.hid ho; clear ho
  have HRR := Lib.hid hr; clear hr
  go_wp2_with fail
  clear ra
  refine (std_open A (some ⟨g, 0, none⟩) goodT 32 c rfl hcc (by omega) w2 ((HR0.out.below HB1.out).more HB1.out.size) HRR.out (List.replicate 16 0) opnBgood 0 opnZgood).mono ?_
  rintro e w3 ⟨v, rfl, ho3, hb5⟩
  rw [List.length_replicate] at ho3
  obtain ⟨gd, d, rfl, hd1, hd2⟩ := ho3.form (by omega)
  replace HB := Lib.hid (HB.out.trans (hb5.mono HB.out.size))
  replace HB1 := Lib.hid (HB1.out.trans (hb5.mono HB1.out.size))
  replace HO := Lib.hid (own_below HO.out hb5)
  have HOD := Lib.hid ho3; clear ho3
  clear hb5 HRR
  have c31 : w3.cell? ⟨g, 31, none⟩ = some (.int .u8 223) := (HO.out.cellAt 31 (by omega)).trans rfl
  have f31 : w3.frozen? ⟨g, 31, none⟩ = false := HO.out.frozenAt 31
  have hx : bits .xor .u8 223 1 = 222 := by kernel_rfl
  go_upto_region 7 with fail
  have ho4 := (HO.out.stored 31 (.int .u8 222)).1
  rw [goodT_set] at ho4
  have hod4 := own_at HOD.out (w' := w3.setCell ⟨g, 31, none⟩ (.int .u8 222)) (heap_setCell_other _ _ _ _ (by show gd ≠ g; omega))
  replace HB : Hid (Below w.heap.size w (w3.setCell ⟨g, 31, none⟩ (.int .u8 222))) := Lib.hid (HB.out.setCell (by show w.heap.size ≤ g; omega) _)
  replace HB1 : Hid (Below w1.heap.size w1 (w3.setCell ⟨g, 31, none⟩ (.int .u8 222))) := Lib.hid (HB1.out.setCell (by show w1.heap.size ≤ g; omega) _)
  clear c31 f31 hx HO HOD
  generalize w3.setCell ⟨g, 31, none⟩ (.int .u8 222) = w4 at *
  have hr : Rd w4 w4.heap.size (some ⟨g, 0, none⟩) (vb badT) := by
    obtain ⟨A', c', e, _, hr⟩ := Rd.of_own ho4
    injection e with e1 _ _
    rw [e1]; exact hr
  have HRR := Lib.hid hr; clear hr ho4
  have HOD := Lib.hid hod4; clear hod4
  go_wp2_with fail
  refine (std_open A (some ⟨g, 0, none⟩) badT 32 c rfl hcc (by omega) w4 ((HR0.out.below HB1.out).more HB1.out.size) HRR.out [] opnBbad 60 opnZbad).mono ?_
  rintro e w5 ⟨v, rfl, ho5, hb5⟩
  obtain ⟨G, gc, rfl, _, _⟩ := Rd.of_own ho5
  replace HB := Lib.hid (HB.out.trans (hb5.mono HB.out.size))
  replace HB1 := Lib.hid (HB1.out.trans (hb5.mono HB1.out.size))
  replace HOD := Lib.hid (own_below HOD.out hb5)
  replace HRR := Lib.hid (HRR.out.go hb5)
  clear hb5 ho5
  have r15 := run_head (P := Try.prog) 22 5 j0 Try.underlying22 hi (some ⟨g, 0, none⟩) 32 c 15 (by omega)
  go_upto_region 8 with fail
  have h15 : Rd w5 w5.heap.size (some ⟨g, 0, none⟩) (vb (badT.take 15)) := by have := HRR.out.take 15; simpa [vb, List.map_take] using this
  have H15 := Lib.hid h15; clear h15
  have hcall := fun (W : World) (hb : Below w5.heap.size w5 W) => std_open A (some ⟨g, 0, none⟩) (badT.take 15) 15 c rfl (by omega) (by omega) W ((HR0.out.below (HB1.out.trans (hb.mono HB1.out.size))).more (Nat.le_trans HB1.out.size hb.size)) (H15.out.go hb) [] opnBshort 4 opnZshort
  have HCALL := Lib.hid hcall; clear hcall
  have q12 : ∀ w : World, (Instr.slice 22 (.slice A 16 16) none (some (.int .i64 12)) none).run Try.prog w = .ok (.slice A 12 16) w := r1
  have q15 : ∀ w : World, (Instr.slice 22 (.slice (some ⟨g, 0, none⟩) 32 c) none (some (.int .i64 15)) none).run Try.prog w = .ok (.slice (some ⟨g, 0, none⟩) 15 c) w := r15
  clear r1 r15
  go_cut [8, 9] (fun s8 s9 wx => ∃ E ec, s8 = .slice E 0 ec ∧ s9 = .int .i64 4 ∧ Hid (Below w5.heap.size w5 wx))
  case first =>
    refine wp_region_noPanic ?_
    refine wp_region_held_drew (S := (fun w' => Below w5.heap.size w5 w')) (by kernel_rfl) ?_ (fun hHeld => ?_)
    · exact (Below.refl w5.heap.size w5).drew
    have hs2 : Below w5.heap.size w5 w5.drew := (Below.refl w5.heap.size w5).drew
    generalize w5.drew = ws1 at *
    refine wpAnyH_take (i := 0) (v := ?_) rfl (by kernel_rfl) (by kernel_rfl) (by kernel_rfl) (fun _ _ _ h => h) (Or.inl ⟨by rfl, ?_⟩) hHeld ?_
    rotate_left
    · intro w' hSw
      (try dsimp only at hSw)
      go_simp
      try with_reducible rfl
    try simp only [Act.put, zq1, zq2, zq3, zq4, zq5, zq6]
    refine wpAnyH_take (i := 1) (v := ?_) rfl (by kernel_rfl) (by kernel_rfl) (by kernel_rfl) (fun _ _ _ h => h) (Or.inl ⟨by rfl, ?_⟩) hHeld ?_
    rotate_left
    · intro w' hSw
      (try dsimp only at hSw)
      go_simp
      try with_reducible rfl
    try simp only [Act.put, zq1, zq2, zq3, zq4, zq5, zq6]
    refine wpAnyH_take (i := 2) (v := ?_) rfl (by kernel_rfl) (by kernel_rfl) (by kernel_rfl) (fun _ _ _ h => h) (Or.inl ⟨by rfl, ?_⟩) hHeld ?_
    rotate_left
    · intro w' hSw
      (try dsimp only at hSw)
      go_simp
      try with_reducible rfl
    try simp only [Act.put, zq1, zq2, zq3, zq4, zq5, zq6]
    refine wpAnyH_take (i := 3) (v := ?_) rfl (by kernel_rfl) (by kernel_rfl) (by kernel_rfl) (fun _ _ _ h => h) (Or.inl ⟨by rfl, ?_⟩) hHeld ?_
    rotate_left
    · intro w' hSw
      (try dsimp only at hSw)
      go_simp
      try with_reducible rfl
    try simp only [Act.put, zq1, zq2, zq3, zq4, zq5, zq6]
    refine wpAnyH_take (i := 4) (v := ?_) rfl (by kernel_rfl) (by kernel_rfl) (by kernel_rfl) (fun _ _ _ h => h) (Or.inl ⟨by rfl, ?_⟩) hHeld ?_
    rotate_left
    · intro w' hSw
      (try dsimp only at hSw)
      go_simp
      try with_reducible rfl
    try simp only [Act.put, zq1, zq2, zq3, zq4, zq5, zq6]
    refine wpAnyH_ready (rs := [5]) (by kernel_rfl) (by simp) ?_
    refine AllReadyH.cons rfl (fun K hK => ?_) (AllReadyH.nil)
    try simp only [zq1, zq2, zq3]
    go_simp
    refine ((HCALL.out ws1 hs2).mono AnsO.ans).mono ?_
    rintro e w3 ⟨E, ec, rfl, _, _, hb4⟩
    have hw5 : Below w5.heap.size w5 w3 := hs2.trans (hb4.mono hs2.size)
    refine hK.out _ _ ?_ (fun hHeld => ?_)
    · exact hw5
    clear hK K
    try simp only [Act.put, zq1, zq2, zq3, zq4, zq5, zq6]
    clear hb4
    refine wpAnyH_take (i := 6) (v := ?_) rfl (by kernel_rfl) (by kernel_rfl) (by kernel_rfl) (fun _ _ _ h => h) (Or.inl ⟨by rfl, ?_⟩) hHeld ?_
    rotate_left
    · intro w' hSw
      (try dsimp only at hSw)
      go_simp
      try with_reducible rfl
    try simp only [Act.put, zq1, zq2, zq3, zq4, zq5, zq6]
    refine wpAnyH_take (i := 7) (v := ?_) rfl (by kernel_rfl) (by kernel_rfl) (by kernel_rfl) (fun _ _ _ h => h) (Or.inl ⟨by rfl, ?_⟩) hHeld ?_
    rotate_left
    · intro w' hSw
      (try dsimp only at hSw)
      go_simp
      try with_reducible rfl
    try simp only [Act.put, zq1, zq2, zq3, zq4, zq5, zq6]
    refine wpAnyH_take (i := 8) (v := ?_) rfl (by kernel_rfl) (by kernel_rfl) (by kernel_rfl) (fun _ _ _ h => h) (Or.inl ⟨by rfl, ?_⟩) hHeld ?_
    rotate_left
    · intro w' hSw
      (try dsimp only at hSw)
      go_simp
      try with_reducible rfl
    try simp only [Act.put, zq1, zq2, zq3, zq4, zq5, zq6]
    refine wpAnyH_take (i := 9) (v := ?_) rfl (by kernel_rfl) (by kernel_rfl) (by kernel_rfl) (fun _ _ _ h => h) (Or.inl ⟨by rfl, ?_⟩) hHeld ?_
    rotate_left
    · intro w' hSw
      (try dsimp only at hSw)
      go_simp
      try with_reducible rfl
    try simp only [Act.put, zq1, zq2, zq3, zq4, zq5, zq6]
    refine wpAnyH_take (i := 10) (v := ?_) rfl (by kernel_rfl) (by kernel_rfl) (by kernel_rfl) (fun _ _ _ h => h) (Or.inl ⟨by rfl, ?_⟩) hHeld ?_
    rotate_left
    · intro w' hSw
      (try dsimp only at hSw)
      go_simp
      try with_reducible rfl
    try simp only [Act.put, zq1, zq2, zq3, zq4, zq5, zq6]
    refine wpAnyH_done (by kernel_rfl) ?_ _
    refine NoPanic.normal ?_
    go_wp2_with fail
    go_meet
    refine ⟨_, _, rfl, rfl, Lib.hid hw5⟩
  case rest =>
    obtain ⟨E, ec, rfl, rfl, HW⟩ := hcut
    replace HB := Lib.hid (HB.out.trans (HW.out.mono HB.out.size))
    replace HB1 := Lib.hid (HB1.out.trans (HW.out.mono HB1.out.size))
    have ho9 := own_below HOD.out HW.out
    have hrd : Rd wc wc.heap.size (some ⟨gd, 0, none⟩) (vb (List.replicate 16 0)) := by
      obtain ⟨A', c', e, _, hr⟩ := Rd.of_own ho9
      injection e with e1 _ _
      rw [e1]; exact hr
    have ra := run_str (P := Try.prog) 22 9 5 Try.underlying22 Try.underlying5 Try.underlying9 (n := 16) (by simp) d hrd
    have rb := run_str (P := Try.prog) 22 9 5 Try.underlying22 Try.underlying5 Try.underlying9 (n := 16) (by simp) 16 (HR0.out.below HB1.out)
    generalize (List.replicate 16 (0 : UInt8)).toArray = za at *
    go_wp2_with fail
    refine (known06_any _).mono ?_
    rintro e wz ⟨rfl, hz⟩
    go_wp2_with fail
    go_ret
    exact ⟨rfl, HB.out.trans (hz.mono HB.out.size)⟩

set_option maxRecDepth 100000 in
theorem jstandard_lifted (os : Os) (started : os.Started) (H : Type) (enc : TypeId × Value → H) :
    ReturnsInHanded {} Try.checked os 7 .any (Rows.gcmStandardSpec.pre6 enc Try.prog Try.f7 Rows.gcmStandardRow.domain false) (Rows.gcmStandardSpec.post enc Try.prog Try.f7 false true false false) := by
  refine returnsInHanded_of_change_sized (C := Try.checked) Try.own started (by kernel_rfl) Try.func7
    (ChangeSpec.witness6 (enc := enc) (C := Try.checked) false ⟨#[], #[], []⟩ 8 (by kernel_rfl) (by kernel_rfl) (by kernel_rfl) (by kernel_rfl)) ?_
  intro W base args ds gs before hval0 hW _ hsz0 _
  have hsz : (DataW.weightsEach Try.prog (Try.f7.params.toList ++ Rows.gcmStandardSpec.plain.varTypes Try.prog) (ds ++ gs)).all (· ≤ reachBytes) = true := hsz0
  have hval : ∀ (j : Nat) t v, Try.f7.params[j]? = some t → args[j]? = some v → Value.okWide Try.prog W .any base t v := hval0
  have hW' := hW
  obtain ⟨p, q, hA0, hV, rfl, _, _⟩ := hW
  have hA : DataW.TrodAll enc Try.prog W 0 (fun _ => true) true Try.f7.params.toList args.toList ds p := hA0
  rw [Try.params7] at hA hval hsz
  have hlt := hW'.lt
  clear hA0 hval0 hsz0
  obtain ⟨ha0, rfl, rfl⟩ := trodAll_nil hA
  obtain rfl : args = #[] := by cases args; simp_all
  obtain ⟨rfl, rfl⟩ := trodVars_none hV
  refine (jstandard_any  W ).mono fun e W' ⟨he, hb⟩ => ⟨_, he, ?_⟩
  exact law_post 4 Try.underlying4 (by kernel_rfl) rfl Try.laidOut (by kernel_rfl) hW' ⟨rfl, rfl, rfl⟩ hb

theorem jstandard_holds : Rows.GcmStandardSaid :=
  OpenClaim.holds_of_wide 7 Try.f7 rfl rfl rfl rfl rfl rfl rfl ⟨rfl, rfl, rfl, rfl, rfl⟩ rfl rfl rfl rfl rfl (by kernel_rfl) Try.func7 (by kernel_rfl)
    (of_decide_eq_true (by kernel_rfl)) (by unfold Func.isWrapper; first | (rw [if_pos (by decide +kernel)]; kernel_rfl) | (rw [if_neg (by decide +kernel)]; exact ⟨rfl, rfl⟩))
    (fun os started H enc _ => jstandard_lifted os started H enc)
end Go.Proofs.Ytkfmgjipocmkjaa
