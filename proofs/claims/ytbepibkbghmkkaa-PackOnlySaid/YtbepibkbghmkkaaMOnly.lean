/-
  Bytes that are read as numbers without a fault are the numbers' own bytes: PackOnly, for every input.
-/
import Derived.Test.YtbepibkbghmkkaaLaw
import Derived.Test.YtbepibkbghmkkaaPkL
import Derived.Test.YtbepibkbghmkkaaZq
namespace Go.Proofs.Ytbepibkbghmkkaa
open Go Go.RowKit Go.ChangeShapes Go.WideShapes Go.ChangeAt
set_option linter.unusedVariables false
set_option linter.unusedSimpArgs false

set_option maxRecDepth 100000 in
set_option maxHeartbeats 20000000 in
theorem monly_any (B : Option Addr) (l : List UInt8) (n cap : Nat) (hn : l.length = n) (w : World) (hle : n ≤ 140737488351232) (hc : n ≤ cap) (h : Rd w w.heap.size B (vb l)) :
    Calls Try.prog 8 #[.slice B n cap] w fun e w' => e = .returned (.bool true) ∧ Below w.heap.size w w' := by
  by_cases hs : n ≤ 4096
  · have i1 : ¬ (4096 : Int) < (n : Int) := by omega
    obtain ⟨j0, hi, hz0, hz1, hz2⟩ := info_parts info_b
    have HJ := Lib.hid (And.intro hi (And.intro hz0 (And.intro hz1 hz2))); clear hi hz0 hz1 hz2
    obtain ⟨nm, hnm⟩ : ∃ nm, nm = l.map UInt8.toNat := ⟨_, rfl⟩
    have hnl : nm.length = n := by rw [hnm, List.length_map, hn]
    have hlt : ∀ x ∈ nm, x < 256 := by rw [hnm]; exact vb_ltP l
    have hv : vb l = vn nm := by rw [hnm]; exact vb_vnP l
    have HN := Lib.hid hnl; clear hnl hn
    have HL := Lib.hid hlt; clear hlt
    rw [hv] at h
    have R := Lib.hid h; clear h hv hnm
    go_enter Try.func8, Try.ntmps8
    go_wp2_with fail
    refine (cpnew_any B nm n cap HN.out HL.out (by omega) hc w R.out).mono ?_
    rintro e w1 ⟨p, g, rfl, hp, hg, hcr, hb⟩
    have HC := Lib.hid hcr; clear hcr
    have HB := Lib.hid hb; clear hb
    have hp1 := HC.out.lp
    have hg1 := HC.out.lg
    have hw1 : w.heap.size ≤ w1.heap.size := HB.out.size
    go_wp2_with fail
    go_loopw [4, 5] (fun v i wr => ∃ k a : Nat, k ≤ a ∧ a ≤ n ∧ i = .int .i64 (k : Int) ∧ Hid (wr.ownsRow w1.heap.size 5 1 v a (vn (nm.take a))) ∧ Hid (CR wr p g nm a 0) ∧ Hid (Below w.heap.size w wr) ∧ w1.heap.size ≤ wr.heap.size) (fun _ i _ => n + 1 - (intOf i).toNat)
    case atStart => exact ⟨0, 0, by omega, by omega, rfl, Lib.hid (World.ownsRow_nil _ _ _ _), HC, HB, Nat.le_refl _⟩
    case round =>
      rename_i wr _ _
      clear HC HB
      obtain ⟨k, a, hka, han, rfl, HO, HC, HB, hsz⟩ := hrel
      have hki : (k : Int) ≤ (n : Int) := by omega
      have hbd := tk_bounds (nm.drop a) (mem_dropP HL.out a)
      rw [List.length_drop, HN.out] at hbd
      go_wp2_with fail
      refine (cprleft_any wr p g nm a 0 (by rw [HN.out]; omega) HC.out).mono ?_
      rw [HN.out]
      rintro e w2 ⟨rfl, hcr, hgr⟩
      replace HC := Lib.hid hcr; clear hcr
      replace HO := Lib.hid (own_grownP HO.out hgr hp1)
      replace HB := Lib.hid (HB.out.trans (grown_low hgr HB.out.size (by omega)))
      have hsz2 := hgr.size; clear hgr
      go_wp2_with fail
      have hnum := cprnum_any w2 p g nm a 0 HL.out (by rw [HN.out]; omega) HC.out
      unfold rdNum at hnum
      rw [if_neg (by omega)] at hnum
      obtain ⟨v2, hv2⟩ : ∃ v2, v2 = (tk (nm.drop a)).1 := ⟨_, rfl⟩
      obtain ⟨kk, hkk⟩ : ∃ kk, kk = (tk (nm.drop a)).2.1 := ⟨_, rfl⟩
      obtain ⟨e0, he0⟩ : ∃ e0, e0 = (tk (nm.drop a)).2.2 := ⟨_, rfl⟩
      simp only [← hv2, ← hkk, ← he0] at hnum hbd
      have htk : tk (nm.drop a) = (v2, kk, e0) := by rw [hv2, hkk, he0]
      refine hnum.mono ?_
      clear hnum hv2 hkk he0
      rintro e w3 ⟨rfl, hcr, hgr⟩
      replace HC : Hid (CR w3 p g nm (a + kk) e0) := Lib.hid hcr; clear hcr
      replace HO := Lib.hid (own_grownP HO.out hgr hp1)
      replace HB := Lib.hid (HB.out.trans (grown_low hgr HB.out.size (by omega)))
      have hsz3 := hgr.size; clear hgr
      go_wp2_with fail
      refine (cprleft_any w3 p g nm (a + kk) e0 (by rw [HN.out]; omega) HC.out).mono ?_
      rw [HN.out]
      rintro e w4 ⟨rfl, hcr, hgr⟩
      replace HC := Lib.hid hcr; clear hcr
      replace HO := Lib.hid (own_grownP HO.out hgr hp1)
      replace HB := Lib.hid (HB.out.trans (grown_low hgr HB.out.size (by omega)))
      have hsz4 := hgr.size; clear hgr
      obtain ⟨b1, hb1⟩ : ∃ b1, b1 = n - a := ⟨_, rfl⟩
      obtain ⟨b2, hb2⟩ : ∃ b2, b2 = n - (a + kk) := ⟨_, rfl⟩
      rw [← hb1, ← hb2]
      by_cases hz : e0 = 0
      · subst hz
        obtain ⟨hv64, hkl, hkd, htake⟩ := tk_only _ (mem_dropP HL.out a) v2 kk htk
        have hkp := leb_pos v2
        have hk10 := leb_ten v2 hv64
        have ht2 : nm.take (a + kk) = nm.take a ++ leb v2 := by rw [List.take_add, htake]
        have HT := Lib.hid ht2; clear ht2 htk htake hkd
        have hne : ¬ (b2 : Int) = (b1 : Int) := by omega
        have hsub : IntKind.i64.wrap ((b1 : Int) - (b2 : Int)) = (kk : Int) := by rw [IntWalk.i64_in _ (by omega)]; omega
        have hgt : ¬ (10 : Int) < (kk : Int) := by omega
        have hk1 : 1 ≤ kk := by omega
        have hk2 : kk ≤ 10 := by omega
        have hk3 : a + kk ≤ n := by omega
        have HKL := Lib.hid hkl; clear hkl hkp hk10
        have HB12 := Lib.hid (And.intro hb1 hb2); clear hb1 hb2 hbd
        go_wp2_with fail
        refine (cpnum_any v2 hv64 w4).mono ?_
        rintro e w5 ⟨x, rfl, hox, hb⟩
        rw [← HKL.out] at hox
        obtain ⟨xd, cx, rfl, hx1, hx2⟩ : ∃ xd cx, x = .slice (some ⟨xd, 0, none⟩) kk cx ∧ w4.heap.size ≤ xd ∧ xd < w5.heap.size := hox.form (by omega)
        have HOX := Lib.hid hox; clear hox
        replace HO := Lib.hid (own_below HO.out hb)
        replace HC := Lib.hid (HC.out.call hb)
        replace HB := Lib.hid (HB.out.trans (hb.mono HB.out.size))
        have hsz5 := hb.size; clear hb
        go_wp2_with fail
        refine (cprleft_any w5 p g nm (a + kk) 0 (by rw [HN.out]; omega) HC.out).mono ?_
        rw [HN.out, ← HB12.out.2]
        rintro e w6 ⟨rfl, hcr, hgr⟩
        replace HC := Lib.hid hcr; clear hcr
        replace HO := Lib.hid (own_grownP HO.out hgr hp1)
        replace HOX := Lib.hid (own_grownP HOX.out hgr (by omega))
        replace HB := Lib.hid (HB.out.trans (grown_low hgr HB.out.size (by omega)))
        have hsz6 := hgr.size; clear hgr
        obtain ⟨_, _, ex, _, hrx⟩ := Rd.of_own HOX.out
        cases ex
        obtain ⟨_, exd, _, hxc⟩ := hrx (by rw [vn_len, ← HKL.out]; omega)
        cases exd
        have HXC := Lib.hid hxc; clear hxc hrx
        have hi := HJ.out.1
        have hz0 := HJ.out.2.1
        have hz1 := HJ.out.2.2.1
        have hz2 := HJ.out.2.2.2
        have hwr : IntKind.i64.wrap ((k : Int) + 1) = (k : Int) + 1 := IntWalk.i64_in _ (by omega)
        have hszz : w1.heap.size ≤ w6.heap.size := by omega
        go_wp2_with (at_builtin; refine wpList_append_lies _ rfl (.tmp 45) (.tmp 46) 24 rfl w1.heap.size 5 j0 (.int .u8 0) 1 1 Try.underlying24 hi hz0 hz1 hz2 rfl (by omega) u4 a (vn (nm.take a)) rfl HO.out ⟨xd, 0, none⟩ kk cx (vn (leb v2)) rfl (by rw [vn_len, Nat.mul_one, ← HKL.out]) HXC.out (vn_oneP _) (by omega) (by unfold maxLen; omega) (by omega) hszz w6.heap.size rfl ?_; intro g9 c9 w7 hown9 hgrow9 hat9 hlt9)
        go_roundw
        case rel =>
          refine ⟨k + 1, a + kk, by omega, by omega, by go_num, Lib.hid ?_, Lib.hid (HC.out.keep hgrow9.size (hgrow9.block _ (by omega) (fun e => by have := HO.out.lt p e.symm; omega)) (hgrow9.block _ (by omega) (fun e => by have := HO.out.lt g e.symm; omega))), Lib.hid (HB.out.grown hgrow9 (by omega) (fun q e => by have := HO.out.lt q e; omega)), by have := hgrow9.size; omega⟩
          rw [HT.out, vn_appP]
          exact hown9
        case measure => simp [intOf]; omega
      · have hk0 : kk = 0 := by
          rcases tk_fault (nm.drop a) (by rw [htk]; exact hz) with e | e | e <;> rw [htk] at e <;> simp only [Prod.mk.injEq] at e <;> exact e.2.1
        have heq : b2 = b1 := by rw [hb1, hb2, hk0]; rfl
        rw [heq]
        clear heq hb1 hb2 htk
        obtain ⟨u1, hu1⟩ : ∃ u1, u1 = w4 := ⟨_, rfl⟩
        rw [← hu1] at HO HB
        rw [← hu1]
        clear hu1 HC
        obtain ⟨A, c, rfl, _, hra⟩ := Rd.of_own HO.out
        have hlb : (nm.take a).length = a := by rw [List.length_take, HN.out]; omega
        have hvb : vb (u8p (nm.take a)) = vn (nm.take a) := u8p_vb _ (fun x hx => HL.out x (List.mem_of_mem_take hx))
        rw [← hvb] at hra
        have hrb : Rd u1 u1.heap.size B (vb (u8p (nm.take a))) := by
          rw [hvb, show vn (nm.take a) = (vn nm).take a from by simp [vn, List.map_take]]
          exact (R.out.go HB.out).take a
        have hul : (u8p (nm.take a)).length = a := by rw [u8p_len, hlb]
        generalize u8p (nm.take a) = ua at *
        have RA : Hid (∀ w' : World, Below u1.heap.size u1 w' → (convert 24 9 (.slice A a c)).run Try.prog w' = .ok (.string ⟨ua.toArray⟩) w') := Lib.hid fun w' hb => run_str (P := Try.prog) 24 9 5 Try.underlying24 Try.underlying5 Try.underlying9 hul c (hra.below hb)
        have RB : Hid (∀ w' : World, Below u1.heap.size u1 w' → (convert 24 9 (.slice B a cap)).run Try.prog w' = .ok (.string ⟨ua.toArray⟩) w') := Lib.hid fun w' hb => run_str (P := Try.prog) 24 9 5 Try.underlying24 Try.underlying5 Try.underlying9 hul cap (hrb.below hb)
        have rh := run_head (P := Try.prog) 24 5 j0 Try.underlying24 HJ.out.1 B n cap a (by omega)
        clear HO hra hrb hvb hlb
        go_upto_region 17 with fail
        refine wp_region_noPanic ?_
        refine wp_region_held_drew (S := (fun w' => Below u1.heap.size u1 w')) (by kernel_rfl) ?_ (fun hHeld => ?_)
        · exact (Below.refl u1.heap.size u1).drew
        have hs2 : Below u1.heap.size u1 u1.drew := (Below.refl u1.heap.size u1).drew
        generalize u1.drew = ws1 at *
        refine wpAnyH_take (i := 0) (v := ?_) rfl (by kernel_rfl) (by kernel_rfl) (by kernel_rfl) (fun _ _ _ h => h) (Or.inl ⟨by rfl, ?_⟩) hHeld ?_
        rotate_left
        · intro w' hSw
          (try dsimp only at hSw)
          go_simp
          try with_reducible rfl
        try simp only [Act.put, zq1, zq2, zq3, zq4, zq5, zq6]
        refine wpAnyH_take (i := 1) (v := ?_) rfl (by kernel_rfl) (by kernel_rfl) (by kernel_rfl) (fun _ _ _ h => h) (Or.inl ⟨by rfl, ?_⟩) hHeld ?_
        rotate_left
        · intro w' hSw
          (try dsimp only at hSw)
          have rr := RA.out w' hSw
          go_simp
          try with_reducible rfl
        try simp only [Act.put, zq1, zq2, zq3, zq4, zq5, zq6]
        refine wpAnyH_take (i := 2) (v := ?_) rfl (by kernel_rfl) (by kernel_rfl) (by kernel_rfl) (fun _ _ _ h => h) (Or.inl ⟨by rfl, ?_⟩) hHeld ?_
        rotate_left
        · intro w' hSw
          (try dsimp only at hSw)
          go_simp
          try with_reducible rfl
        try simp only [Act.put, zq1, zq2, zq3, zq4, zq5, zq6]
        refine wpAnyH_take (i := 3) (v := ?_) rfl (by kernel_rfl) (by kernel_rfl) (by kernel_rfl) (fun _ _ _ h => h) (Or.inl ⟨by rfl, ?_⟩) hHeld ?_
        rotate_left
        · intro w' hSw
          (try dsimp only at hSw)
          go_simp
          try with_reducible rfl
        try simp only [Act.put, zq1, zq2, zq3, zq4, zq5, zq6]
        refine wpAnyH_take (i := 4) (v := ?_) rfl (by kernel_rfl) (by kernel_rfl) (by kernel_rfl) (fun _ _ _ h => h) (Or.inl ⟨by rfl, ?_⟩) hHeld ?_
        rotate_left
        · intro w' hSw
          (try dsimp only at hSw)
          go_simp
          try with_reducible rfl
        try simp only [Act.put, zq1, zq2, zq3, zq4, zq5, zq6]
        refine wpAnyH_take (i := 5) (v := ?_) rfl (by kernel_rfl) (by kernel_rfl) (by kernel_rfl) (fun _ _ _ h => h) (Or.inl ⟨by rfl, ?_⟩) hHeld ?_
        rotate_left
        · intro w' hSw
          (try dsimp only at hSw)
          go_simp
          try with_reducible rfl
        try simp only [Act.put, zq1, zq2, zq3, zq4, zq5, zq6]
        refine wpAnyH_take (i := 6) (v := ?_) rfl (by kernel_rfl) (by kernel_rfl) (by kernel_rfl) (fun _ _ _ h => h) (Or.inl ⟨by rfl, ?_⟩) hHeld ?_
        rotate_left
        · intro w' hSw
          (try dsimp only at hSw)
          have rr := RB.out w' hSw
          go_simp
          try with_reducible rfl
        try simp only [Act.put, zq1, zq2, zq3, zq4, zq5, zq6]
        refine wpAnyH_take (i := 7) (v := ?_) rfl (by kernel_rfl) (by kernel_rfl) (by kernel_rfl) (fun _ _ _ h => h) (Or.inl ⟨by rfl, ?_⟩) hHeld ?_
        rotate_left
        · intro w' hSw
          (try dsimp only at hSw)
          go_simp
          try with_reducible rfl
        try simp only [Act.put, zq1, zq2, zq3, zq4, zq5, zq6]
        refine wpAnyH_take (i := 8) (v := ?_) rfl (by kernel_rfl) (by kernel_rfl) (by kernel_rfl) (fun _ _ _ h => h) (Or.inl ⟨by rfl, ?_⟩) hHeld ?_
        rotate_left
        · intro w' hSw
          (try dsimp only at hSw)
          go_simp
          try with_reducible rfl
        try simp only [Act.put, zq1, zq2, zq3, zq4, zq5, zq6]
        refine wpAnyH_ready (rs := [9]) (by kernel_rfl) (by simp) ?_
        refine AllReadyH.cons rfl (fun K hK => ?_) (AllReadyH.nil)
        try simp only [zq1, zq2, zq3]
        go_simp
        refine (known07_any ws1).mono ?_
        rintro e w3 ⟨rfl, hb4⟩
        have hw5 : Below u1.heap.size u1 w3 := hs2.trans (hb4.mono hs2.size)
        refine hK.out _ _ ?_ (fun hHeld => ?_)
        · exact hw5
        clear hK K
        try simp only [Act.put, zq1, zq2, zq3, zq4, zq5, zq6]
        clear hb4
        refine wpAnyH_take (i := 10) (v := ?_) rfl (by kernel_rfl) (by kernel_rfl) (by kernel_rfl) (fun _ _ _ h => h) (Or.inl ⟨by rfl, ?_⟩) hHeld ?_
        rotate_left
        · intro w' hSw
          (try dsimp only at hSw)
          go_simp
          try with_reducible rfl
        try simp only [Act.put, zq1, zq2, zq3, zq4, zq5, zq6]
        refine wpAnyH_take (i := 11) (v := ?_) rfl (by kernel_rfl) (by kernel_rfl) (by kernel_rfl) (fun _ _ _ h => h) (Or.inl ⟨by rfl, ?_⟩) hHeld ?_
        rotate_left
        · intro w' hSw
          (try dsimp only at hSw)
          go_simp
          try with_reducible rfl
        try simp only [Act.put, zq1, zq2, zq3, zq4, zq5, zq6]
        refine wpAnyH_done (by kernel_rfl) ?_ _
        refine NoPanic.normal ?_
        go_wp2_with fail
        go_ret
        exact ⟨rfl, HB.out.trans (hw5.mono HB.out.size)⟩
  · have i1 : (4096 : Int) < (n : Int) := by omega
    go_enter Try.func8, Try.ntmps8
    go_wp2_with fail
    refine (known07_any _).mono ?_
    rintro e wz ⟨rfl, hz⟩
    go_wp2_with fail
    go_ret
    exact ⟨rfl, hz⟩

set_option maxRecDepth 100000 in
theorem monly_lifted (os : Os) (started : os.Started) (H : Type) (enc : TypeId × Value → H) :
    ReturnsInHanded {} Try.checked os 8 .any (Rows.packOnlySpec.pre6 enc Try.prog Try.f8 Rows.packOnlyRow.domain false) (Rows.packOnlySpec.post enc Try.prog Try.f8 false true false false) := by
  refine returnsInHanded_of_change_sized (C := Try.checked) Try.own started (by kernel_rfl) Try.func8
    (ChangeSpec.witness6 (enc := enc) (C := Try.checked) false ⟨#[], #[.slice none 0 0], []⟩ 8 (by kernel_rfl) (by kernel_rfl) (by kernel_rfl) (by kernel_rfl)) ?_
  intro W base args ds gs before hval0 hW _ hsz0 _
  have hsz : (DataW.weightsEach Try.prog (Try.f8.params.toList ++ Rows.packOnlySpec.plain.varTypes Try.prog) (ds ++ gs)).all (· ≤ reachBytes) = true := hsz0
  have hval : ∀ (j : Nat) t v, Try.f8.params[j]? = some t → args[j]? = some v → Value.okWide Try.prog W .any base t v := hval0
  have hW' := hW
  obtain ⟨p, q, hA0, hV, rfl, _, _⟩ := hW
  have hA : DataW.TrodAll enc Try.prog W 0 (fun _ => true) true Try.f8.params.toList args.toList ds p := hA0
  rw [Try.params8] at hA hval hsz
  have hlt := hW'.lt
  clear hA0 hval0 hsz0
  obtain ⟨v0, vs0, d0, ds0, p0, q0, hv0, rfl, rfl, h0, r0⟩ := trodAll_cons hA
  obtain ⟨rfl, rfl, rfl⟩ := trodAll_nil r0
  obtain rfl : args = #[v0] := by cases args; simp_all
  obtain ⟨rfl, rfl⟩ := trodVars_none hV
  obtain ⟨A0, l0, c0, rfl, rd0, le0, lc0⟩ := open_bytes_cap Try.underlying24 Try.underlying5 Try.cellsU8 (hval 0 24 v0 rfl rfl) h0 (fun x hx => hlt x (by simp [hx])) (fun es sp he => by subst he; have := sized_slice hsz (j := 0) (t := 24) (e := 5) rfl rfl Try.underlying24; rw [Try.bytesU8, Nat.mul_one] at this; exact this)
  refine (monly_any A0 l0 l0.length c0 rfl W le0 lc0 rd0).mono fun e W' ⟨he, hb⟩ => ⟨_, he, ?_⟩
  exact law_post 4 Try.underlying4 (by kernel_rfl) rfl Try.laidOut (by kernel_rfl) hW' ⟨rfl, rfl, rfl⟩ hb

theorem monly_holds : Rows.PackOnlySaid :=
  OpenClaim.holds_of_wide 8 Try.f8 rfl rfl rfl rfl rfl rfl rfl ⟨rfl, rfl, rfl, rfl, rfl⟩ rfl rfl rfl rfl rfl (by kernel_rfl) Try.func8 (by kernel_rfl)
    (of_decide_eq_true (by kernel_rfl)) (by unfold Func.isWrapper; first | (rw [if_pos (by decide +kernel)]; kernel_rfl) | (rw [if_neg (by decide +kernel)]; exact ⟨rfl, rfl⟩))
    (fun os started H enc _ => monly_lifted os started H enc)
end Go.Proofs.Ytbepibkbghmkkaa
