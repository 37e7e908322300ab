/-
  Two texts of one length, sealed under one key and nonce, differ where they differ themselves, just there, ahead of the tag: GcmApart, for every input.
-/
import Derived.Test.YtkfmgjipocmkjaaFoldA
import Derived.Test.YtkfmgjipocmkjaaFoldI
namespace Go.Proofs.Ytkfmgjipocmkjaa
open Go Go.RowKit Go.ChangeShapes Go.WideShapes Go.ChangeAt
set_option linter.unusedVariables false
set_option linter.unusedSimpArgs false

theorem seal_at (kl nl al tl : List UInt8) (k : Nat) (hk : k < tl.length) : ((sealb kl nl al tl).map UInt8.toNat).getD k 0 = (tl.map UInt8.toNat).getD k 0 ^^^ ksB (encK (kl.map UInt8.toNat)) (stF (nl.map UInt8.toNat)) k := by
  have e : (cryb kl nl tl).map UInt8.toNat = crL (encK (kl.map UInt8.toNat)) (stF (nl.map UInt8.toNat)) (tl.map UInt8.toNat) tl.length := nm_u8s _ (cry_lt kl nl tl _)
  rw [← crL_at _ _ _ tl.length k hk, ← e]
  unfold sealb
  rw [List.map_append, List.getD_eq_getElem?_getD, List.getD_eq_getElem?_getD, List.getElem?_append_left (by rw [List.length_map, cryb_len]; exact hk)]
theorem seal_xor (kl nl al al' a b : List UInt8) (k : Nat) (ha : k < a.length) (hb : k < b.length) :
    ((sealb kl nl al a).map UInt8.toNat).getD k 0 ^^^ ((sealb kl nl al' b).map UInt8.toNat).getD k 0 = (a.map UInt8.toNat).getD k 0 ^^^ (b.map UInt8.toNat).getD k 0 := by
  rw [seal_at kl nl al a k ha, seal_at kl nl al' b k hb]
  generalize ksB (encK (kl.map UInt8.toNat)) (stF (nl.map UInt8.toNat)) k = s
  generalize (a.map UInt8.toNat).getD k 0 = x
  generalize (b.map UInt8.toNat).getD k 0 = y
  rw [Nat.xor_assoc, Nat.xor_comm y s, ← Nat.xor_assoc s, Nat.xor_self, Nat.zero_xor]
theorem nm_lt (l : List UInt8) (k : Nat) : (l.map UInt8.toNat).getD k 0 < 256 := by
  rw [List.getD_eq_getElem?_getD]
  cases h : (l.map UInt8.toNat)[k]? with
  | none => simp
  | some x => simpa using vb_lt l x (List.mem_of_getElem? h)

set_option maxRecDepth 100000 in
set_option maxHeartbeats 20000000 in
theorem japart_any (K : Option Addr) (kl : List UInt8) (nk ck : Nat) (hkn : kl.length = nk) (A : Option Addr) (nl : List UInt8) (nn cn : Nat) (hnn : nl.length = nn) (D : Option Addr) (al : List UInt8) (na ca : Nat) (hna : al.length = na)
    (P : Option Addr) (pl : List UInt8) (np cp : Nat) (hnp : pl.length = np) (Q : Option Addr) (ql : List UInt8) (nq cq : Nat) (hnq : ql.length = nq) (w : World)
    (hl1 : nk ≤ 140737488351232) (c1 : nk ≤ ck) (h1 : Rd w w.heap.size K (vb kl)) (hl2 : nn ≤ 140737488351232) (c2 : nn ≤ cn) (h2 : Rd w w.heap.size A (vb nl)) (hl3 : na ≤ 140737488351232) (c3 : na ≤ ca) (h3 : Rd w w.heap.size D (vb al))
    (hl4 : np ≤ 140737488351232) (c4 : np ≤ cp) (h4 : Rd w w.heap.size P (vb pl)) (hl5 : nq ≤ 140737488351232) (c5 : nq ≤ cq) (h5 : Rd w w.heap.size Q (vb ql)) :
    Calls Try.prog 6 #[.slice K nk ck, .slice A nn cn, .slice D na ca, .slice P np cp, .slice Q nq cq] w fun e w' => e = .returned (.bool true) ∧ Below w.heap.size w w' := by
  obtain ⟨n, hn⟩ : ∃ n, n = min (min np nq) 2000 := ⟨_, rfl⟩
  have hn1 : n ≤ np := by omega
  have hn2 : n ≤ nq := by omega
  have hn3 : n ≤ 2000 := by omega
  obtain ⟨j0, hi, hz0, hz1, hz2⟩ := info_parts info_b
  have r1 := run_head (P := Try.prog) 22 5 j0 Try.underlying22 hi P np cp n (by omega)
  have r2 := run_head (P := Try.prog) 22 5 j0 Try.underlying22 hi Q nq cq n (by omega)
  clear hi hz0 hz1 hz2
  have e4 : (pl.take n).length = n := by simp; omega
  have e5 : (ql.take n).length = n := by simp; omega
  have g4 : Rd w w.heap.size P (vb (pl.take n)) := by have := h4.take n; simpa [vb, List.map_take] using this
  have g5 : Rd w w.heap.size Q (vb (ql.take n)) := by have := h5.take n; simpa [vb, List.map_take] using this
  obtain ⟨q, hq⟩ : ∃ q, q = min np nq := ⟨_, rfl⟩
  have m1 : (if (nq : Int) < (np : Int) then (nq : Int) else (np : Int)) = (q : Int) := by rw [hq]; split <;> omega
  have m2 : (if (2000 : Int) < (q : Int) then (2000 : Int) else (q : Int)) = (n : Int) := by split <;> omega
  have hmin : ∀ w : World, (Builtin.min_ #[3, 3, 3] 3 #[.int .i64 (np : Int), .int .i64 (nq : Int), .int .i64 2000]).run Try.prog w = .ok (.int .i64 (n : Int)) w := fun w => by rw [run_min_int3, m1, m2]
  clear m1 m2 hq hn h4 h5 hnp hnq
  generalize pl.take n = a at *
  generalize ql.take n = b at *
  have HK := Lib.hid hkn; clear hkn
  have HA := Lib.hid hnn; clear hnn
  have HD := Lib.hid hna; clear hna
  have HP := Lib.hid e4; clear e4
  have HQ := Lib.hid e5; clear e5
  have R1 := Lib.hid h1; clear h1
  have R2 := Lib.hid h2; clear h2
  have R3 := Lib.hid h3; clear h3
  have R4 := Lib.hid g4; clear g4
  have R5 := Lib.hid g5; clear g5
  by_cases ha : na ≤ 2000
  · have i1 : ¬ (2000 : Int) < (na : Int) := by omega
    have hs1 := gseal_all K A D P kl nl al a nk nn na n ck cn ca cp HK.out HA.out HD.out HP.out c1 c2 c3 (by omega) (by omega) (by omega) (by omega) (by omega) w R1.out R2.out R3.out R4.out
    have hs2 := fun (W : World) (q1 : Rd W W.heap.size K (vb kl)) (q2 : Rd W W.heap.size A (vb nl)) (q3 : Rd W W.heap.size Q (vb b)) => gseal_all K A none Q kl nl [] b nk nn 0 n ck cn 0 cq HK.out HA.out rfl HQ.out c1 c2 (Nat.le_refl 0) (by omega) (by omega) (by omega) (by omega) (by omega) W q1 q2 (Rd.nil _ _ _) q3
    by_cases hok : (nk = 16 ∨ nk = 32) ∧ nn = 12
    · have s1 : selR kl nl al a = 0 := by unfold selR; rw [HK.out, HA.out, HD.out, HP.out]; exact selE_zero hok.1 hok.2 (by omega) (by omega)
      have s2 : selR kl nl [] b = 0 := by unfold selR; rw [HK.out, HA.out, HQ.out]; exact selE_zero hok.1 hok.2 (by simp) (by omega)
      have b1 : selB kl nl al a = sealb kl nl al a := by unfold selB; rw [if_pos s1]
      have b2 : selB kl nl [] b = sealb kl nl [] b := by unfold selB; rw [if_pos s2]
      have x1 : (sealb kl nl al a).length = n + 16 := by rw [sealb_len, HP.out]
      have x2 : (sealb kl nl [] b).length = n + 16 := by rw [sealb_len, HQ.out]
      have hxr : ∀ k, k < n → ((sealb kl nl al a).map UInt8.toNat).getD k 0 ^^^ ((sealb kl nl [] b).map UInt8.toNat).getD k 0 = (a.map UInt8.toNat).getD k 0 ^^^ (b.map UInt8.toNat).getD k 0 := fun k hk => seal_xor kl nl al [] a b k (by rw [HP.out]; exact hk) (by rw [HQ.out]; exact hk)
      rw [b1, s1] at hs1
      rw [b2, s2] at hs2
      clear b1 b2 s1 s2 hok
      generalize sealb kl nl al a = xl at *
      generalize sealb kl nl [] b = yl at *
      have HX := Lib.hid x1; clear x1
      have HY := Lib.hid x2; clear x2
      have HXR := Lib.hid hxr; clear hxr
      have HS2 := Lib.hid hs2; clear hs2
      go_enter Try.func6, Try.ntmps6
      go_wp2_with fail
      clear hmin
      refine hs1.mono ?_
      clear hs1
      rintro e w1 ⟨X, cx, rfl, hcx, rx, hb5⟩
      rw [HX.out]
      rw [HX.out] at hcx
      have S1 := Lib.hid rx; clear rx
      have HB := Lib.hid hb5
      replace R1 := Lib.hid (R1.out.go hb5)
      replace R2 := Lib.hid (R2.out.go hb5)
      replace R4 := Lib.hid (R4.out.go hb5)
      replace R5 := Lib.hid (R5.out.go hb5)
      clear hb5
      go_wp2_with fail
      refine (HS2.out _ R1.out R2.out R5.out).mono ?_
      clear HS2
      rintro e w2 ⟨Y, cy, rfl, hcy, ry, hb5⟩
      rw [HY.out]
      rw [HY.out] at hcy
      have S2 := Lib.hid ry; clear ry
      replace R4 := Lib.hid (R4.out.go hb5)
      replace R5 := Lib.hid (R5.out.go hb5)
      replace S1 := Lib.hid (S1.out.go hb5)
      replace HB := Lib.hid (HB.out.trans (hb5.mono HB.out.size))
      clear hb5 r1 r2
      have h16 : ((n + 16 : Nat) : Int) = (n : Int) + 16 := by omega
      have hwr : IntKind.i64.wrap ((n : Int) + 16) = (n : Int) + 16 := IntWalk.i64_in _ (by omega)
      simp only [h16]
      go_wp2_with fail
      go_loopw [75] (fun i wr => ∃ k : Nat, k ≤ n ∧ i = .int .i64 (k : Int) ∧ Hid (Below w2.heap.size w2 wr)) (fun i _ => n - (intOf i).toNat)
      case atStart => exact ⟨0, by omega, rfl, Lib.hid (Below.refl _ _)⟩
      case round =>
        obtain ⟨k, hk, rfl, HBr⟩ := hrel
        by_cases hlt : k < n
        · have q1 : Rd wr w2.heap.size X (vn (xl.map UInt8.toNat)) := by rw [← vb_vn]; exact S1.out.below HBr.out
          have q2 : Rd wr w2.heap.size Y (vn (yl.map UInt8.toNat)) := by rw [← vb_vn]; exact S2.out.below HBr.out
          have q3 : Rd wr w2.heap.size P (vn (a.map UInt8.toNat)) := by rw [← vb_vn]; exact R4.out.below HBr.out
          have q4 : Rd wr w2.heap.size Q (vn (b.map UInt8.toNat)) := by rw [← vb_vn]; exact R5.out.below HBr.out
          obtain ⟨xd, rfl, _, cell1⟩ := q1.num (k := k) (by rw [List.length_map, HX.out]; omega)
          obtain ⟨yd, rfl, _, cell2⟩ := q2.num (k := k) (by rw [List.length_map, HY.out]; omega)
          obtain ⟨pd, rfl, _, cell3⟩ := q3.num (k := k) (by rw [List.length_map, HP.out]; omega)
          obtain ⟨qd, rfl, _, cell4⟩ := q4.num (k := k) (by rw [List.length_map, HQ.out]; omega)
          have hxr := HXR.out k hlt
          have l1 := nm_lt xl k
          have l2 := nm_lt yl k
          have l3 := nm_lt a k
          have l4 := nm_lt b k
          generalize (xl.map UInt8.toNat).getD k 0 = v1 at *
          generalize (yl.map UInt8.toNat).getD k 0 = v2 at *
          generalize (a.map UInt8.toNat).getD k 0 = v3 at *
          generalize (b.map UInt8.toNat).getD k 0 = v4 at *
          have x1 : bits .xor .u8 (v1 : Int) (v2 : Int) = ((v1 ^^^ v2 : Nat) : Int) := xor_u8 v1 v2 l1 l2
          have x2 : bits .xor .u8 (v3 : Int) (v4 : Int) = ((v1 ^^^ v2 : Nat) : Int) := by rw [hxr]; exact xor_u8 v3 v4 l3 l4
          generalize v1 ^^^ v2 = z at *
          have k1 : (k : Int) < ((n + 16 : Nat) : Int) := by omega
          have k2 : (k : Int) < (np : Int) := by omega
          have k3 : (k : Int) < (nq : Int) := by omega
          have k4 : (k : Int) < (n : Int) := by omega
          clear q1 q2 q3 q4 hxr l1 l2 l3 l4
          go_upto_region 13 with fail
          go_quiet (fail)
          go_wp2_with fail
          go_roundw
          case rel => exact ⟨k + 1, by omega, by go_num, Lib.hid (bdrewN HBr.out _)⟩
          case measure => simp [intOf]; omega
        · obtain rfl : k = n := by omega
          replace HB := Lib.hid (HB.out.trans (HBr.out.mono HB.out.size))
          go_wp2_with fail
          refine (known06_any _).mono ?_
          rintro e wz ⟨rfl, hz⟩
          go_wp2_with fail
          go_ret
          exact ⟨rfl, HB.out.trans (hz.mono HB.out.size)⟩
    · have s1 : selR kl nl al a = 2 := by unfold selR selE; rw [HK.out, HA.out, if_neg hok]
      have s2 : selR kl nl [] b = 2 := by unfold selR selE; rw [HK.out, HA.out, if_neg hok]
      have b1 : selB kl nl al a = [] := by unfold selB; rw [if_neg (by rw [s1]; decide)]
      have b2 : selB kl nl [] b = [] := by unfold selB; rw [if_neg (by rw [s2]; decide)]
      rw [b1, s1] at hs1
      rw [b2, s2] at hs2
      clear b1 b2 s1 s2 hok
      have HS2 := Lib.hid hs2; clear hs2
      go_enter Try.func6, Try.ntmps6
      go_wp2_with fail
      clear hmin
      refine hs1.mono ?_
      clear hs1
      rintro e w1 ⟨X, cx, rfl, hcx, rx, hb5⟩
      have HB := Lib.hid hb5
      replace R1 := Lib.hid (R1.out.go hb5)
      replace R2 := Lib.hid (R2.out.go hb5)
      replace R5 := Lib.hid (R5.out.go hb5)
      clear hb5 rx
      go_wp2_with fail
      refine (HS2.out _ R1.out R2.out R5.out).mono ?_
      clear HS2
      rintro e w2 ⟨Y, cy, rfl, hcy, ry, hb5⟩
      replace HB := Lib.hid (HB.out.trans (hb5.mono HB.out.size))
      clear hb5 r1 r2 ry
      go_wp2_with fail
      refine (known06_any _).mono ?_
      rintro e wz ⟨rfl, hz⟩
      go_wp2_with fail
      go_ret
      exact ⟨rfl, HB.out.trans (hz.mono HB.out.size)⟩
  · have i1 : (2000 : Int) < (na : Int) := by omega
    go_enter Try.func6, Try.ntmps6
    go_wp2_with fail
    refine (known06_any _).mono ?_
    rintro e wz ⟨rfl, hz⟩
    go_wp2_with fail
    go_ret
    exact ⟨rfl, hz⟩

set_option maxRecDepth 100000 in
theorem japart_lifted (os : Os) (started : os.Started) (H : Type) (enc : TypeId × Value → H) :
    ReturnsInHanded {} Try.checked os 6 .any (Rows.gcmApartSpec.pre6 enc Try.prog Try.f6 Rows.gcmApartRow.domain false) (Rows.gcmApartSpec.post enc Try.prog Try.f6 false true false false) := by
  refine returnsInHanded_of_change_sized (C := Try.checked) Try.own started (by kernel_rfl) Try.func6
    (ChangeSpec.witness6 (enc := enc) (C := Try.checked) false ⟨#[], #[.slice none 0 0, .slice none 0 0, .slice none 0 0, .slice none 0 0, .slice none 0 0], []⟩ 8 (by kernel_rfl) (by kernel_rfl) (by kernel_rfl) (by kernel_rfl)) ?_
  intro W base args ds gs before hval0 hW _ hsz0 _
  have hsz : (DataW.weightsEach Try.prog (Try.f6.params.toList ++ Rows.gcmApartSpec.plain.varTypes Try.prog) (ds ++ gs)).all (· ≤ reachBytes) = true := hsz0
  have hval : ∀ (j : Nat) t v, Try.f6.params[j]? = some t → args[j]? = some v → Value.okWide Try.prog W .any base t v := hval0
  have hW' := hW
  obtain ⟨p, q, hA0, hV, rfl, _, _⟩ := hW
  have hA : DataW.TrodAll enc Try.prog W 0 (fun _ => true) true Try.f6.params.toList args.toList ds p := hA0
  rw [Try.params6] at hA hval hsz
  have hlt := hW'.lt
  clear hA0 hval0 hsz0
  obtain ⟨v0, vs0, d0, ds0, p0, q0, hv0, rfl, rfl, h0, r0⟩ := trodAll_cons hA
  obtain ⟨v1, vs1, d1, ds1, p1, q1, hv1, rfl, rfl, h1, r1⟩ := trodAll_cons r0
  subst hv1
  obtain ⟨v2, vs2, d2, ds2, p2, q2, hv2, rfl, rfl, h2, r2⟩ := trodAll_cons r1
  subst hv2
  obtain ⟨v3, vs3, d3, ds3, p3, q3, hv3, rfl, rfl, h3, r3⟩ := trodAll_cons r2
  subst hv3
  obtain ⟨v4, vs4, d4, ds4, p4, q4, hv4, rfl, rfl, h4, r4⟩ := trodAll_cons r3
  subst hv4
  obtain ⟨rfl, rfl, rfl⟩ := trodAll_nil r4
  obtain rfl : args = #[v0, v1, v2, v3, v4] := by cases args; simp_all
  obtain ⟨rfl, rfl⟩ := trodVars_none hV
  obtain ⟨A0, l0, c0, rfl, rd0, le0, lc0⟩ := open_bytes_cap Try.underlying22 Try.underlying5 Try.cellsU8 (hval 0 22 v0 rfl rfl) h0 (fun x hx => hlt x (by simp [hx])) (fun es sp he => by subst he; have := sized_slice hsz (j := 0) (t := 22) (e := 5) rfl rfl Try.underlying22; rw [Try.bytesU8, Nat.mul_one] at this; exact this)
  obtain ⟨A1, l1, c1, rfl, rd1, le1, lc1⟩ := open_bytes_cap Try.underlying22 Try.underlying5 Try.cellsU8 (hval 1 22 v1 rfl rfl) h1 (fun x hx => hlt x (by simp [hx])) (fun es sp he => by subst he; have := sized_slice hsz (j := 1) (t := 22) (e := 5) rfl rfl Try.underlying22; rw [Try.bytesU8, Nat.mul_one] at this; exact this)
  obtain ⟨A2, l2, c2, rfl, rd2, le2, lc2⟩ := open_bytes_cap Try.underlying22 Try.underlying5 Try.cellsU8 (hval 2 22 v2 rfl rfl) h2 (fun x hx => hlt x (by simp [hx])) (fun es sp he => by subst he; have := sized_slice hsz (j := 2) (t := 22) (e := 5) rfl rfl Try.underlying22; rw [Try.bytesU8, Nat.mul_one] at this; exact this)
  obtain ⟨A3, l3, c3, rfl, rd3, le3, lc3⟩ := open_bytes_cap Try.underlying22 Try.underlying5 Try.cellsU8 (hval 3 22 v3 rfl rfl) h3 (fun x hx => hlt x (by simp [hx])) (fun es sp he => by subst he; have := sized_slice hsz (j := 3) (t := 22) (e := 5) rfl rfl Try.underlying22; rw [Try.bytesU8, Nat.mul_one] at this; exact this)
  obtain ⟨A4, l4, c4, rfl, rd4, le4, lc4⟩ := open_bytes_cap Try.underlying22 Try.underlying5 Try.cellsU8 (hval 4 22 v4 rfl rfl) h4 (fun x hx => hlt x (by simp [hx])) (fun es sp he => by subst he; have := sized_slice hsz (j := 4) (t := 22) (e := 5) rfl rfl Try.underlying22; rw [Try.bytesU8, Nat.mul_one] at this; exact this)
  refine (japart_any A0 l0 l0.length c0 rfl A1 l1 l1.length c1 rfl A2 l2 l2.length c2 rfl A3 l3 l3.length c3 rfl A4 l4 l4.length c4 rfl W le0 lc0 rd0 le1 lc1 rd1 le2 lc2 rd2 le3 lc3 rd3 le4 lc4 rd4).mono fun e W' ⟨he, hb⟩ => ⟨_, he, ?_⟩
  exact law_post 4 Try.underlying4 (by kernel_rfl) rfl Try.laidOut (by kernel_rfl) hW' ⟨rfl, rfl, rfl⟩ hb

theorem japart_holds : Rows.GcmApartSaid :=
  OpenClaim.holds_of_wide 6 Try.f6 rfl rfl rfl rfl rfl rfl rfl ⟨rfl, rfl, rfl, rfl, rfl⟩ rfl rfl rfl rfl rfl (by kernel_rfl) Try.func6 (by kernel_rfl)
    (of_decide_eq_true (by kernel_rfl)) (by unfold Func.isWrapper; first | (rw [if_pos (by decide +kernel)]; kernel_rfl) | (rw [if_neg (by decide +kernel)]; exact ⟨rfl, rfl⟩))
    (fun os started H enc _ => japart_lifted os started H enc)
end Go.Proofs.Ytkfmgjipocmkjaa
