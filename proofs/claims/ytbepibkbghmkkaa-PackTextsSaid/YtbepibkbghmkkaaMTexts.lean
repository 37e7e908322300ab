/-
  The bytes of any text are the document's; it stays: PackTexts, for every input.
-/
import Derived.Test.YtbepibkbghmkkaaLaw
import Derived.Test.YtbepibkbghmkkaaPkL
namespace Go.Proofs.Ytbepibkbghmkkaa
open Go Go.RowKit Go.ChangeShapes Go.WideShapes Go.ChangeAt
set_option linter.unusedVariables false
set_option linter.unusedSimpArgs false

theorem vb_one' (l : List UInt8) : ∀ v ∈ vb l, v.oneCell' = true := by
  intro v hv
  simp only [vb, List.mem_map] at hv
  obtain ⟨b, _, rfl⟩ := hv
  rfl
set_option maxRecDepth 100000 in
set_option maxHeartbeats 20000000 in
theorem mtexts_any (B : Option Addr) (l : List UInt8) (n cap : Nat) (hn : l.length = n) (w : World) (hle : n ≤ 140737488351232) (h : Rd w w.heap.size B (vb l)) :
    Calls Try.prog 4 #[.slice B n cap] w fun e w' => e = .returned (.bool true) ∧ Below w.heap.size w w' := by
  have HN := Lib.hid hn; clear hn
  have R := Lib.hid h; clear h
  by_cases hs : n ≤ 4096
  · have i1 : ¬ (4096 : Int) < (n : Int) := by omega
    go_enter Try.func4, Try.ntmps4
    go_wp2_with fail
    refine (copyv_any B (vb l) n cap (by simpa using HN.out) (vb_one' l) w hle R.out).mono ?_
    rintro e w1 ⟨v, rfl, ho, hb⟩
    obtain ⟨X, cx, rfl, _, rx⟩ := Rd.of_own ho
    have hcx := own_capP ho
    have QX := Lib.hid rx; clear rx ho
    have HB := Lib.hid hb; clear hb
    go_wp2_with fail
    refine (cptext_any X (l.map UInt8.toNat) n cx (by simpa using HN.out) (vb_ltP l) (by omega) hcx w1 (by rw [← vb_vnP]; exact QX.out)).mono ?_
    rintro e w2 ⟨v2, rfl, ho, hb⟩
    have hll := leb_ten n (by omega)
    have hlp := leb_pos n
    obtain ⟨g, c, rfl, hg1, hg2⟩ := ho.form (by omega)
    have HO := Lib.hid ho; clear ho
    have HQ := Lib.hid hb; clear hb
    go_wp2_with fail
    refine (rptext_any B (l.map UInt8.toNat) n cap (by simpa using HN.out) (by omega) w2 (by rw [← vb_vnP]; exact (R.out.go HB.out).go HQ.out)).mono ?_
    rintro e w3 ⟨v3, rfl, ho3, hb⟩
    replace HO := Lib.hid (own_below HO.out hb)
    replace HQ := Lib.hid (HQ.out.trans (hb.mono HQ.out.size)); clear hb
    obtain ⟨m, hm⟩ : ∃ m, m = (leb n).length + n := ⟨_, rfl⟩
    have hxl : ∀ x ∈ leb n ++ l.map UInt8.toNat, x < 256 := fun x hx => by
      rcases List.mem_append.1 hx with h | h
      · exact leb_lt n x h
      · exact vb_ltP l x h
    obtain ⟨xs, hxs⟩ : ∃ xs, xs = u8p (leb n ++ l.map UInt8.toNat) := ⟨_, rfl⟩
    have hxv : vb xs = vn (leb n ++ l.map UInt8.toNat) := by rw [hxs]; exact u8p_vb _ hxl
    have hxm : xs.length = m := by rw [hxs, u8p_len, hm, List.length_append, List.length_map, HN.out]
    rw [← hxv, ← hm] at ho3
    replace HO : Hid (w3.ownsRow w1.heap.size 5 1 (.slice (some ⟨g, 0, none⟩) m c) m (vb xs)) := Lib.hid (by rw [hxv, hm]; exact HO.out)
    rw [← hm]
    have hm0 : 0 < m := by omega
    have hmb : m ≤ 5000 := by omega
    clear hxs hxv hxl hm hlp hll
    obtain ⟨A2, c2, rfl, _, r2⟩ := Rd.of_own ho3
    obtain ⟨A1, c1, e1, _, r1⟩ := Rd.of_own HO.out
    cases e1
    go_wp2_with fail
    refine (rsamev_any (some ⟨g, 0, none⟩) A2 xs xs m m c c2 hxm hxm w3 r1 r2).mono ?_
    rintro e wq ⟨rfl, rfl⟩
    rw [beq_self_eq_true]
    clear r1 r2 ho3
    go_wp2_with fail
    go_loopw [21] (fun i wr => ∃ k : Nat, k ≤ m ∧ i = .int .i64 (k : Int) ∧ Hid (∃ ys, wr.ownsRow w1.heap.size 5 1 (.slice (some ⟨g, 0, none⟩) m c) m ys) ∧ Hid (Below w1.heap.size w1 wr)) (fun i _ => m - (intOf i).toNat)
    case atStart => exact ⟨0, by omega, rfl, Lib.hid ⟨_, HO.out⟩, HQ⟩
    case round =>
      rename_i wr _ _
      clear HO HQ
      obtain ⟨k, hk, rfl, HO, HQ⟩ := hrel
      by_cases hlt : k < m
      · have hki : (k : Int) < (m : Int) := by omega
        obtain ⟨ys, hy⟩ := HO.out
        have hyl : ys.length = m := by have := hy.1; omega
        have hce := (hy.cellAt k (by omega)).trans (List.getElem?_eq_getElem (by omega))
        have hfz := hy.frozenAt k
        have hwr : IntKind.i64.wrap ((k : Int) + 1) = (k : Int) + 1 := IntWalk.i64_in _ (by omega)
        go_wp2_with fail
        go_roundw
        case rel => exact ⟨k + 1, by omega, by go_num, Lib.hid ⟨_, (hy.stored k _).1⟩, Lib.hid (HQ.out.setCell hg1 _)⟩
        case measure => simp [intOf]; omega
      · obtain rfl : k = m := by omega
        have QW := Lib.hid (QX.out.below HQ.out)
        have RW := Lib.hid ((R.out.go HB.out).below HQ.out)
        replace HB := Lib.hid (HB.out.trans (HQ.out.mono HB.out.size))
        go_wp2_with fail
        refine (rsamev_any X B l l n n cx cap HN.out HN.out _ QW.out RW.out).mono ?_
        rintro e wq2 ⟨rfl, rfl⟩
        rw [beq_self_eq_true]
        go_wp2_with fail
        refine (known07_any _).mono ?_
        rintro e wz ⟨rfl, hz⟩
        go_wp2_with fail
        go_ret
        exact ⟨rfl, HB.out.trans (hz.mono HB.out.size)⟩
  · have i1 : (4096 : Int) < (n : Int) := by omega
    go_enter Try.func4, Try.ntmps4
    go_wp2_with fail
    refine (known07_any _).mono ?_
    rintro e wz ⟨rfl, hz⟩
    go_wp2_with fail
    go_ret
    exact ⟨rfl, hz⟩

set_option maxRecDepth 100000 in
theorem mtexts_lifted (os : Os) (started : os.Started) (H : Type) (enc : TypeId × Value → H) :
    ReturnsInHanded {} Try.checked os 4 .any (Rows.packTextsSpec.pre6 enc Try.prog Try.f4 Rows.packTextsRow.domain false) (Rows.packTextsSpec.post enc Try.prog Try.f4 false true false false) := by
  refine returnsInHanded_of_change_sized (C := Try.checked) Try.own started (by kernel_rfl) Try.func4
    (ChangeSpec.witness6 (enc := enc) (C := Try.checked) false ⟨#[], #[.slice none 0 0], []⟩ 8 (by kernel_rfl) (by kernel_rfl) (by kernel_rfl) (by kernel_rfl)) ?_
  intro W base args ds gs before hval0 hW _ hsz0 _
  have hsz : (DataW.weightsEach Try.prog (Try.f4.params.toList ++ Rows.packTextsSpec.plain.varTypes Try.prog) (ds ++ gs)).all (· ≤ reachBytes) = true := hsz0
  have hval : ∀ (j : Nat) t v, Try.f4.params[j]? = some t → args[j]? = some v → Value.okWide Try.prog W .any base t v := hval0
  have hW' := hW
  obtain ⟨p, q, hA0, hV, rfl, _, _⟩ := hW
  have hA : DataW.TrodAll enc Try.prog W 0 (fun _ => true) true Try.f4.params.toList args.toList ds p := hA0
  rw [Try.params4] at hA hval hsz
  have hlt := hW'.lt
  clear hA0 hval0 hsz0
  obtain ⟨v0, vs0, d0, ds0, p0, q0, hv0, rfl, rfl, h0, r0⟩ := trodAll_cons hA
  obtain ⟨rfl, rfl, rfl⟩ := trodAll_nil r0
  obtain rfl : args = #[v0] := by cases args; simp_all
  obtain ⟨rfl, rfl⟩ := trodVars_none hV
  obtain ⟨A0, l0, c0, rfl, rd0, le0⟩ := open_bytes Try.underlying24 Try.underlying5 Try.cellsU8 (hval 0 24 v0 rfl rfl) h0 (fun x hx => hlt x (by simp [hx])) (fun es sp he => by subst he; have := sized_slice hsz (j := 0) (t := 24) (e := 5) rfl rfl Try.underlying24; rw [Try.bytesU8, Nat.mul_one] at this; exact this)
  refine (mtexts_any A0 l0 l0.length c0 rfl W le0 rd0).mono fun e W' ⟨he, hb⟩ => ⟨_, he, ?_⟩
  exact law_post 4 Try.underlying4 (by kernel_rfl) rfl Try.laidOut (by kernel_rfl) hW' ⟨rfl, rfl, rfl⟩ hb

theorem mtexts_holds : Rows.PackTextsSaid :=
  OpenClaim.holds_of_wide 4 Try.f4 rfl rfl rfl rfl rfl rfl rfl ⟨rfl, rfl, rfl, rfl, rfl⟩ rfl rfl rfl rfl rfl (by kernel_rfl) Try.func4 (by kernel_rfl)
    (of_decide_eq_true (by kernel_rfl)) (by unfold Func.isWrapper; first | (rw [if_pos (by decide +kernel)]; kernel_rfl) | (rw [if_neg (by decide +kernel)]; exact ⟨rfl, rfl⟩))
    (fun os started H enc _ => mtexts_lifted os started H enc)
end Go.Proofs.Ytbepibkbghmkkaa
