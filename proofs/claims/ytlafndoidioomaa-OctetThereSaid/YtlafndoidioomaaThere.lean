/-
  octet.Hex and octet.Unhex lead back to each other, for any bytes and any digits: OctetThere, for every input.
-/
import Derived.Test.YtlafndoidioomaaLaw
import Derived.Test.YtlafndoidioomaaOctA
import Derived.Test.YtlafndoidioomaaOctF
import Derived.Test.YtlafndoidioomaaOctH
import Derived.Test.YtlafndoidioomaaOctG
import Derived.Test.YtlafndoidioomaaBack
namespace Go.Proofs.Ytlafndoidioomaa
open Go Go.RowKit Go.ChangeShapes Go.WideShapes Go.ChangeAt
set_option linter.unusedVariables false

set_option maxRecDepth 100000 in
theorem dig_dg_all : ∀ k : Fin 16, dig (dg k.val) = (k.val : Int) := by decide
theorem dig_dg (k : Nat) (h : k < 16) : dig (dg k) = (k : Int) := dig_dg_all ⟨k, h⟩
set_option maxRecDepth 100000 in
theorem dg_dig_all : ∀ k : Fin 256, dig (UInt8.ofNat k.val) = -1 ∨ dg (dig (UInt8.ofNat k.val)).toNat = UInt8.ofNat k.val := by decide
theorem dg_dig (c : UInt8) (h : dig c ≠ -1) : dg (dig c).toNat = c := by
  have := dg_dig_all ⟨c.toNat, c.toNat_lt⟩
  simp only [UInt8.ofNat_toNat] at this
  exact this.resolve_left h
theorem dg_dv (c : UInt8) (h : dig c ≠ -1) : dg (dv c).toNat = c := by
  have h1 := (dig_dv c h).1
  have h2 := dg_dig c h
  rwa [h1, Int.toNat_natCast] at h2
theorem dv_dg (k : Nat) (h : k < 16) : (dv (dg k)).toNat = k := by
  have h1 := (dig_dv (dg k) (by rw [dig_dg k h]; omega)).1
  rw [dig_dg k h] at h1
  omega
theorem byte_of (b : UInt8) : hiB (dg (b.toNat / 16)) ||| dv (dg (b.toNat % 16)) = b := by
  have hb := b.toNat_lt
  have h1 := dv_dg (b.toNat / 16) (by omega)
  have h2 := dv_dg (b.toNat % 16) (by omega)
  have h3 := hi_or (dg (b.toNat / 16)) (dg (b.toNat % 16)) (by omega) (by omega)
  rw [h1, h2] at h3
  apply UInt8.toNat_inj.mp
  omega
theorem ubp_hx : ∀ l : List UInt8, ubp (hx l) = l
  | [] => rfl
  | b :: l => by
    have ih := ubp_hx l
    have e : hx (b :: l) = dg (b.toNat / 16) :: dg (b.toNat % 16) :: hx l := by simp [hx]
    rw [e]
    simp only [ubp, byte_of, ih]
theorem hx_dig (l : List UInt8) : ∀ c ∈ hx l, dig c ≠ -1 := by
  intro c hc
  simp only [hx, List.mem_flatMap] at hc
  obtain ⟨b, _, hb⟩ := hc
  have hbb := b.toNat_lt
  simp only [List.mem_cons, List.not_mem_nil, or_false] at hb
  rcases hb with rfl | rfl
  · rw [dig_dg _ (by omega)]; omega
  · rw [dig_dg _ (by omega)]; omega
theorem unhexOut_hx (l : List UInt8) : unhexOut (hx l) = (l, 0, 0) := by
  rw [unhexOut_all _ (fun j hj => hx_dig l _ (List.getElem_mem hj)), hx_len, if_pos (by omega), ubp_hx]
theorem hx_ubp : ∀ s : List UInt8, s.length % 2 = 0 → (∀ c ∈ s, dig c ≠ -1) → hx (ubp s) = s
  | [], _, _ => rfl
  | [c], h, _ => by simp at h
  | c :: d :: r, h, hd => by
    have ih := hx_ubp r (by simp at h; omega) (fun x hx => hd x (by simp [hx]))
    have hc := hd c (by simp)
    have hd' := hd d (by simp)
    have c16 := (dig_dv c hc).2
    have d16 := (dig_dv d hd').2
    have h3 := hi_or c d c16 d16
    have e : hx ((hiB c ||| dv d) :: ubp r) = dg ((hiB c ||| dv d).toNat / 16) :: dg ((hiB c ||| dv d).toNat % 16) :: hx (ubp r) := by simp [hx]
    simp only [ubp]
    rw [e, ih, show (hiB c ||| dv d).toNat / 16 = (dv c).toNat from by omega, show (hiB c ||| dv d).toNat % 16 = (dv d).toNat from by omega, dg_dv c hc, dg_dv d hd']
/-- What is told of any text: bytes that lead back to it; or nothing, an error, and a place within. -/
theorem unhexOut_cases (s : List UInt8) : (∃ l, unhexOut s = (l, 0, 0) ∧ hx l = s ∧ l.length ≤ s.length) ∨ (∃ k x : Nat, unhexOut s = ([], (k : Int), (x : Int)) ∧ 0 < k ∧ x ≤ s.length) := by
  by_cases h : ∀ c ∈ s, dig c ≠ -1
  · have e := unhexOut_all s (fun j hj => h _ (List.getElem_mem hj))
    by_cases hev : s.length % 2 = 0
    · rw [if_pos hev] at e
      exact .inl ⟨_, e, hx_ubp s hev h, by rw [ubp_len]; omega⟩
    · rw [if_neg hev] at e
      exact .inr ⟨4, s.length, e, by omega, Nat.le_refl _⟩
  · right
    cases hf : s.findIdx? (fun c => dig c == -1) with
    | none =>
      exfalso
      apply h
      rw [List.findIdx?_eq_none_iff] at hf
      intro c hc
      simpa using hf c hc
    | some i =>
      have hi := (List.findIdx?_eq_some_iff_getElem.mp hf).1
      exact ⟨5, i, by simp [unhexOut, hf], by omega, by omega⟩

set_option maxRecDepth 100000 in
set_option maxHeartbeats 2000000 in
theorem there_any (A : Option Addr) (l : List UInt8) (n cap : Nat) (hn : l.length = n) (s : List UInt8) (w : World) (hl : n ≤ 140737488351232) (h : Rd w w.heap.size A (vb l)) (hs : s.length ≤ 140737488351232) :
    Calls Try.prog 10 #[.slice A n cap, .string ⟨s.toArray⟩] w fun e w' => e = .returned (.bool true) ∧ Below w.heap.size w w' := by
  obtain ⟨m, hm⟩ : ∃ m, s.length = m := ⟨_, rfl⟩
  have hsz : (⟨s.toArray⟩ : ByteArray).size = m := by rw [str_size, hm]
  rw [hm] at hs
  by_cases h4 : n ≤ 4096
  · by_cases h8 : m ≤ 8192
    · have C1 := fun w => unhex_any (hx l) (2 * n) (by rw [hx_len, hn]) w (by omega)
      rw [unhexOut_hx] at C1
      have C2 := fun w => unhex_any s m hm w (by omega)
      have hxs : (⟨(hx l).toArray⟩ : ByteArray).size = 2 * n := by rw [str_size, hx_len, hn]
      have HC1 := Lib.hid C1
      have HN := Lib.hid hn
      have HM := Lib.hid hm
      rcases unhexOut_cases s with ⟨d, e1, e2, e3⟩ | ⟨k, x, e1, e2, e3⟩
      · rw [e1] at C2
        have HC2 := Lib.hid C2
        have HE2 := Lib.hid e2
        clear C1 C2 e1 e2 hn hm
        go_enter Try.func10, Try.ntmps10
        go_wp2_with fail
        refine (hex_any A l n cap HN.out _ (by omega) h).mono ?_
        rintro e w1 ⟨rfl, hb1⟩
        go_wp2_with fail
        refine (HC1.out _).mono ?_
        rintro e w2 ⟨B, b, cb, hbl, rfl, hr2, hb2⟩
        have HB := Lib.hid hbl; clear hbl
        have bb := hb1.trans (hb2.mono hb1.size)
        go_wp2_with fail
        refine (lsame_any A B l l n b cap cb HN.out HB.out.symm _ (h.below bb) hr2).mono ?_
        rintro e w3 ⟨rfl, rfl⟩
        rw [beq_self_eq_true]
        go_wp2_with fail
        refine (HC2.out _).mono ?_
        rintro e w4 ⟨D, dn, cd, hdl, rfl, hr4, hb4⟩
        have hdn : dn ≤ 8192 := by have := HM.out; have := hdl; simp only at this; omega
        have HD := Lib.hid hdl; clear hdl
        have bb4 := bb.trans (hb4.mono bb.size)
        go_wp2_with fail
        refine (hex_any D d dn cd HD.out.symm _ (by omega) hr4).mono ?_
        rintro e w5 ⟨rfl, hb5⟩
        rw [HE2.out]
        have bb5 := bb4.trans (hb5.mono bb4.size)
        go_wp2_with fail
        refine (known_any _).mono ?_
        rintro e w6 ⟨rfl, hb6⟩
        go_wp2_with fail
        go_ret
        exact ⟨rfl, bb5.trans (hb6.mono bb5.size)⟩
      · rw [e1] at C2
        have HC2 := Lib.hid C2
        clear C1 C2 e1 hn hm
        have hk0 : ((k : Int) == 0) = false := by rw [beq_eq_false_iff_ne]; omega
        have hk1 : ((k : Int) != 0) = true := by rw [bne_iff_ne]; omega
        have hx0 : (0 : Int) ≤ (x : Int) := by omega
        have hxm : (x : Int) ≤ (m : Int) := by have := HM.out; omega
        clear e2 e3
        go_enter Try.func10, Try.ntmps10
        go_wp2_with fail
        refine (hex_any A l n cap HN.out _ (by omega) h).mono ?_
        rintro e w1 ⟨rfl, hb1⟩
        go_wp2_with fail
        refine (HC1.out _).mono ?_
        rintro e w2 ⟨B, b, cb, hbl, rfl, hr2, hb2⟩
        have HB := Lib.hid hbl; clear hbl
        have bb := hb1.trans (hb2.mono hb1.size)
        go_wp2_with fail
        refine (lsame_any A B l l n b cap cb HN.out HB.out.symm _ (h.below bb) hr2).mono ?_
        rintro e w3 ⟨rfl, rfl⟩
        rw [beq_self_eq_true]
        go_wp2_with fail
        refine (HC2.out _).mono ?_
        rintro e w4 ⟨D, dn, cd, hdl, rfl, hr4, hb4⟩
        obtain rfl : dn = 0 := hdl
        have bb4 := bb.trans (hb4.mono bb.size)
        go_wp2_with fail
        refine (known_any _).mono ?_
        rintro e w6 ⟨rfl, hb6⟩
        go_wp2_with fail
        go_ret
        exact ⟨rfl, bb4.trans (hb6.mono bb4.size)⟩
    · clear hn hm
      go_enter Try.func10, Try.ntmps10
      go_wp2_with fail
      refine (known_any _).mono ?_
      rintro e w4 ⟨rfl, hb4⟩
      go_wp2_with fail
      go_ret
      exact ⟨rfl, hb4⟩
  · clear hn hm
    go_enter Try.func10, Try.ntmps10
    go_wp2_with fail
    refine (known_any _).mono ?_
    rintro e w4 ⟨rfl, hb4⟩
    go_wp2_with fail
    go_ret
    exact ⟨rfl, hb4⟩

set_option maxRecDepth 100000 in
theorem there_lifted (os : Os) (started : os.Started) (H : Type) (enc : TypeId × Value → H) :
    ReturnsInHanded {} Try.checked os 10 .any (Rows.octetThereSpec.pre6 enc Try.prog Try.f10 Rows.octetThereRow.domain false) (Rows.octetThereSpec.post enc Try.prog Try.f10 false true false false) := by
  refine returnsInHanded_of_change_sized (C := Try.checked) Try.own started (by kernel_rfl) Try.func10
    (ChangeSpec.witness6 (enc := enc) (C := Try.checked) false ⟨#[], #[.slice none 0 0, .string ⟨#[]⟩], []⟩ 8 (by kernel_rfl) (by kernel_rfl) (by kernel_rfl) (by kernel_rfl)) ?_
  intro W base args ds gs before hval0 hW _ hsz0 _
  have hsz : (DataW.weightsEach Try.prog (Try.f10.params.toList ++ Rows.octetThereSpec.plain.varTypes Try.prog) (ds ++ gs)).all (· ≤ reachBytes) = true := hsz0
  have hval : ∀ (j : Nat) t v, Try.f10.params[j]? = some t → args[j]? = some v → Value.okWide Try.prog W .any base t v := hval0
  have hW' := hW
  obtain ⟨p, q, hA0, hV, rfl, _, _⟩ := hW
  have hA : DataW.TrodAll enc Try.prog W 0 (fun _ => true) true Try.f10.params.toList args.toList ds p := hA0
  rw [Try.params10] at hA hval hsz
  have hlt := hW'.lt
  clear hA0 hval0 hsz0
  obtain ⟨v0, vs0, d0, ds0, p0, q0, hv0, rfl, rfl, h0, r0⟩ := trodAll_cons hA
  obtain ⟨v1, vs1, d1, ds1, p1, q1, hv1, rfl, rfl, h1, r1⟩ := trodAll_cons r0
  subst hv1
  obtain ⟨rfl, rfl, rfl⟩ := trodAll_nil r1
  obtain rfl : args = #[v0, v1] := by cases args; simp_all
  obtain ⟨rfl, rfl⟩ := trodVars_none hV
  obtain ⟨A0, l0, c0, rfl, rd0, le0⟩ := open_bytes Try.underlying23 Try.underlying5 Try.cellsU8 (hval 0 23 v0 rfl rfl) h0 (fun x hx => hlt x (by simp [hx])) (fun es sp he => by subst he; have := sized_slice hsz (j := 0) (t := 23) (e := 5) rfl rfl Try.underlying23; rw [Try.bytesU8, Nat.mul_one] at this; exact this)
  obtain ⟨s1, rfl, rfl, rfl, le1⟩ := open_str Try.underlying9 (hval 1 9 v1 rfl rfl) h1 (fun bs he => by subst he; exact sized_string hsz (j := 1) (t := 9) rfl rfl)
  refine (there_any A0 l0 l0.length c0 rfl s1 W le0 rd0 le1).mono fun e W' ⟨he, hb⟩ => ⟨_, he, ?_⟩
  exact law_post 4 Try.underlying4 (by kernel_rfl) rfl Try.laidOut (by kernel_rfl) hW' ⟨rfl, rfl, rfl⟩ hb

theorem there_holds : Rows.OctetThereSaid :=
  OpenClaim.holds_of_wide 10 Try.f10 rfl rfl rfl rfl rfl rfl rfl ⟨rfl, rfl, rfl, rfl, rfl⟩ rfl rfl rfl rfl rfl (by kernel_rfl) Try.func10 (by kernel_rfl)
    (of_decide_eq_true (by kernel_rfl)) (by unfold Func.isWrapper; first | (rw [if_pos (by decide +kernel)]; kernel_rfl) | (rw [if_neg (by decide +kernel)]; exact ⟨rfl, rfl⟩))
    (fun os started H enc _ => there_lifted os started H enc)
end Go.Proofs.Ytlafndoidioomaa
