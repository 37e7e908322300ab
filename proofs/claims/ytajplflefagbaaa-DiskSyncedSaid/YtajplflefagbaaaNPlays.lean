/-
  Every script of calls on any device: each answer is the document's: DiskPlays, for every input.
-/
import Derived.Test.YtajplflefagbaaaDkX
namespace Go.Proofs.Ytajplflefagbaaa
open Go Go.RowKit Go.ChangeShapes Go.WideShapes Go.ChangeAt Go.Deep
set_option linter.unusedVariables false
set_option linter.unusedSimpArgs false

set_option maxRecDepth 100000 in
theorem may8_any (i : Int) (w : World) : Calls Try.prog 8 #[.int .i64 i] w fun e w' => e = .returned (.bool (decide (8 ≤ i ∧ i ≤ 4096))) ∧ w' = w := by
  by_cases h1 : 8 ≤ i
  · by_cases h2 : i ≤ 4096
    · rw [decide_eq_true ⟨h1, h2⟩]
      go_enter Try.func8, Try.ntmps8
      go_wp2_with fail
      go_ret
      exact ⟨rfl, rfl⟩
    · rw [decide_eq_false (fun h => h2 h.2)]
      go_enter Try.func8, Try.ntmps8
      go_wp2_with fail
      go_ret
      exact ⟨rfl, rfl⟩
  · rw [decide_eq_false (fun h => h1 h.1)]
    go_enter Try.func8, Try.ntmps8
    go_wp2_with fail
    go_ret
    exact ⟨rfl, rfl⟩
set_option maxRecDepth 100000 in
set_option maxHeartbeats 40000000 in
theorem nplays_any (blocks : Int) (A : Option Addr) (len cap : Nat) (O : Nat → OpV) (w : World) (hbk : -9223372036854775808 ≤ blocks ∧ blocks ≤ 9223372036854775807) (hlen : len ≤ 140737488351360) (hO : ∀ i, i < len → (O i).Ok w ∧ ∃ ad, A = some ad ∧ (O i).At w ad i) :
    Calls Try.prog 3 #[.int .i64 blocks, .slice A len cap] w fun e w' => e = .returned (.bool true) ∧ Below w.heap.size w w' := by
  have HO := Lib.hid hO; clear hO
  have hmay := fun W : World => may8_any blocks W
  have hheavy : Hid (∀ W : World, Below w.heap.size w W → Calls Try.prog 9 #[.slice A len cap] W (HeavyR len W)) := Lib.hid fun W hb => heavy_any A len cap O W hlen fun i hi => by
    obtain ⟨hok, ad, hA, hat⟩ := HO.out i hi
    exact ⟨hok.go hb, ad, hA, hat.keepW hb⟩
  by_cases hm : 8 ≤ blocks ∧ blocks ≤ 4096
  · simp only [decide_eq_true hm] at hmay
    have HMAY := Lib.hid hmay; clear hmay
    by_cases h64 : 64 < blocks
    · have h64i := h64
      go_enter Try.func3, Try.ntmps3
      go_wp2_with fail
      refine (HMAY.out _).mono ?_
      rintro e wm ⟨rfl, ew⟩
      have ew := ew.symm
      subst ew
      go_wp2_with fail
      refine (known08_any _).mono ?_
      rintro e wk ⟨rfl, hbk⟩
      go_wp2_with fail
      go_ret
      exact ⟨rfl, hbk⟩
    · obtain ⟨n, rfl⟩ : ∃ n : Nat, blocks = (n : Int) := ⟨blocks.toNat, by omega⟩
      have hn8 : 8 ≤ n := by omega
      have hn64 : n ≤ 64 := by omega
      go_enter Try.func3, Try.ntmps3
      go_wp2_with fail
      refine (HMAY.out _).mono ?_
      rintro e wm ⟨rfl, ew⟩
      have ew := ew.symm
      subst ew
      go_wp2_with fail
      refine (hheavy.out _ (Below.refl _ _)).mono ?_
      rintro e w1 ⟨b, rfl, hb4, hb1⟩
      rcases b with _ | _
      · have hl4 : len ≤ 4000 := hb4 rfl
        clear hb4 hheavy
        have HB1 := Lib.hid hb1; clear hb1
        go_wp2_with fail
        refine (cdnew_any w1 n hn8 (by omega)).mono ?_
        rintro e w2 ⟨d, rfl, hcd, hb2⟩
        have HC := Lib.hid hcd; clear hcd
        have HB2 := Lib.hid (HB1.out.trans (hb2.mono HB1.out.size))
        have HB12 := Lib.hid hb2; clear hb2
        go_wp2_with fail
        refine (HMAY.out _).mono ?_
        rintro e wm ⟨rfl, ew⟩
        have ew := ew.symm
        subst ew
        go_wp2_with fail
        refine (rdnew_any w2 n (by omega) (by omega)).mono ?_
        rintro e w3 ⟨p, rfl, hrd, hb3⟩
        have hP : Pair w3 d p (fun b => w1.heap.size ≤ b ∧ b < w2.heap.size) (fun b => w2.heap.size ≤ b ∧ b < w3.heap.size) n (Dev.new n) := ⟨HC.out.call hb3, hrd, fun b h1 h2 => by omega⟩
        have hLL : ∀ b, (w1.heap.size ≤ b ∧ b < w2.heap.size) ∨ (w2.heap.size ≤ b ∧ b < w3.heap.size) → w.heap.size ≤ b := fun b h => h.elim (fun h => Nat.le_trans HB1.out.size h.1) (fun h => Nat.le_trans HB2.out.size h.1)
        have HP := Lib.hid (And.intro hP (And.intro hLL (HB2.out.trans (hb3.mono HB2.out.size)))); clear hP hLL hrd hb3 HC HB1 HB2 HB12
        clear h64 hm hbk
        go_wp2_with fail
        go_loopw [5, 51] (fun s i wr => ∃ (j d : Nat) (Lc L : Nat → Prop) (D : Dev), j ≤ len ∧ i = .int .i64 j ∧ s = .pointer (some ⟨d, 0, none⟩) ∧ Pair wr d p Lc L n D ∧ (∀ b, Lc b ∨ L b → w.heap.size ≤ b) ∧ Below w.heap.size w wr ∧ D.load ≤ j) (fun _ i _ => len - (intOf i).toNat)
        case atStart => exact ⟨0, d, _, _, _, Nat.zero_le _, rfl, rfl, HP.out.1, HP.out.2.1, HP.out.2.2, Nat.le_refl _⟩
        case round =>
          rename World => wr
          obtain ⟨j, d, Lc, L, D, hj, rfl, rfl, hP, hL, hB, hW⟩ := hrel
          clear HP
          have HB := Lib.hid hB; clear hB
          have HL := Lib.hid hL; clear hL
          by_cases hlt : j < len
          · have hji : (j : Int) < (len : Int) := by omega
            obtain ⟨hok, ad, hA, hat⟩ := HO.out j hlt
            obtain ⟨o, hoo⟩ : ∃ o, o = O j := ⟨_, rfl⟩
            rw [← hoo] at hok hat
            clear hoo
            obtain ⟨e0, e1, e2, e3, e4⟩ := hat.go HB.out
            have hcs : ∀ (k : Nat) (v : Value), ([.int .i64 o.k, .int .i64 o.i, .int .i64 o.a, .slice o.B o.bl.length o.bc, .slice o.M o.ml.length o.mc] : List Value)[k]? = some v → wr.cell? ((ad.add (j * 5)).add k) = some v := fun k v hk => by
              rcases k with _ | _ | _ | _ | _ | k
              · cases hk; exact e0
              · cases hk; rw [add_add, ← field_add _ _ _ (by decide)]; exact e1
              · cases hk; rw [add_add, ← field_add _ _ _ (by decide)]; exact e2
              · cases hk; rw [add_add, ← field_add _ _ _ (by decide)]; exact e3
              · cases hk; rw [add_add, ← field_add _ _ _ (by decide)]; exact e4
              · exact absurd (List.getElem?_eq_some_iff.1 hk).1 (by simp)
            have HCS := Lib.hid hcs; clear hcs e0 e1 e2 e3 e4 hat
            have hdo := does_any wr d p n Lc L D o hP (hok.go HB.out) (OpV.Ok.aside hok.hb.1 HL.out) (OpV.Ok.aside hok.hm.1 HL.out) (by omega) (by omega)
            have HDO := Lib.hid hdo; clear hdo hP hok
            subst hA
            go_wp2_with (refine wpList_load_at rfl 36 (.tmp 59) rfl (ad.add (j * 5)) rfl [.int .i64 o.k, .int .i64 o.i, .int .i64 o.a, .slice o.B o.bl.length o.bc, .slice o.M o.ml.length o.mc] _ HCS.out Try.underlying36 (by rw [op_size]; rfl) ?_)
            refine HDO.out.mono ?_
            rintro e wx ⟨d', Lc', L', D', rfl, hP', hO', hK', hm', _⟩
            have hB' := Keep.toBelow HB.out hK' HL.out HB.out.size
            have hL' : ∀ b, Lc' b ∨ L' b → w.heap.size ≤ b := fun b h => (hO' b h).elim (fun h => HL.out b (.inl h)) (fun h => h.elim (fun h => HL.out b (.inr h)) (fun h => Nat.le_trans HB.out.size h))
            have HP' := Lib.hid (And.intro hP' (And.intro hL' hB')); clear hP' hL' hB' hO' hK' HDO HCS
            have hwl : D'.waits.length ≤ 1000000 := by have := load_waits D'; omega
            obtain ⟨S, hrs⟩ := HP'.out.1.r
            obtain ⟨Aw, cw, hwv, _, _⟩ := Rd.of_own1 hrs.ww
            have hheld : ∀ W : World, Below wx.heap.size wx W → W.cell? ⟨p, 3, none⟩ = some (.int .u64 (D'.steps : Int)) ∧ W.cell? ⟨p, 2, none⟩ = some (.slice Aw D'.waits.length cw) ∧ W.cell? ⟨p, 6, none⟩ = some (.bool D'.down) := fun W hb => by
              have := hrs.call hb
              exact ⟨this.c3, by rw [← hwv]; exact this.c2, this.c6⟩
            have HH := Lib.hid hheld; clear hheld hrs hwv
            have HC : Hid (∀ W : World, Below wx.heap.size wx W → CD W d' Lc' n D') := Lib.hid fun W hb => HP'.out.1.c.call hb
            have HM := Lib.hid (And.intro hm' (And.intro hW hwl)); clear hm' hW hwl
            have hq1 := fun (W : World) (hb : Below wx.heap.size wx W) => cdsteps_any W d' n Lc' D' (HC.out W hb)
            have hq2 := fun (W : World) (hb : Below wx.heap.size wx W) => cdwaiting_any W d' n Lc' D' (HC.out W hb) HM.out.2.2
            have hq3 := fun (W : World) (hb : Below wx.heap.size wx W) => cddown_any W d' n Lc' D' (HC.out W hb)
            have HQ1 := Lib.hid hq1; clear hq1
            have HQ2 := Lib.hid hq2; clear hq2
            have HQ3 := Lib.hid hq3; clear hq3
            obtain ⟨wl, hwl⟩ : ∃ wl, wl = D'.waits.length := ⟨_, rfl⟩
            rw [← hwl] at HQ2 HH HM
            have HWL := Lib.hid hwl; clear hwl
            obtain ⟨st, hst⟩ : ∃ st, st = D'.steps := ⟨_, rfl⟩
            obtain ⟨dn, hdn⟩ : ∃ dn, dn = D'.down := ⟨_, rfl⟩
            rw [← hst] at HQ1
            rw [← hdn] at HQ3
            rw [← hst, ← hdn] at HH
            have HE := Lib.hid (And.intro hst hdn); clear hst hdn
            go_upto_region 14 with fail
            go_region_held3 (fun w' => w'.cell? ⟨p, 3, none⟩ = some (.int .u64 (st : Int)) ∧ w'.cell? ⟨p, 2, none⟩ = some (.slice Aw wl cw) ∧ w'.cell? ⟨p, 6, none⟩ = some (.bool dn))
              (first | exact HH.out _ ((Below.refl _ _).drew) | exact HH.out _ (by assumption))
              ((first
                | (go_at_call 14; refine (HQ1.out _ ((Below.refl _ _).drew)).mono ?_; rintro e y1 ⟨rfl, h1⟩; have hb1 : Below wx.heap.size wx y1 := (Below.refl _ _).drew.trans (h1.mono (Nat.le_refl _)))
                | (go_at_call 15; refine (HQ2.out y1 hb1).mono ?_; rintro e y2 ⟨rfl, h2⟩; have hb2 := hb1.trans (h2.mono hb1.size))
                | (go_at_call 16; refine (HQ3.out y2 hb2).mono ?_; rintro e y3 ⟨rfl, h3⟩; have hb3 := hb2.trans (h3.mono hb2.size))
                | (go_at_call 17; refine (cdblocks_any y3 d' n Lc' D' (HC.out _ hb3)).mono ?_; rintro e y4 ⟨rfl, h4⟩; have hb4 := hb3.trans (h4.mono hb3.size))))
            have HF := Lib.hid (And.intro (HP'.out.1.call hb4) (And.intro HP'.out.2.1 (HP'.out.2.2.trans (hb4.mono HP'.out.2.2.size)))); clear hb1 hb2 hb3 hb4 h1 h2 h3 h4 HP' HC HH
            go_wp2_with fail
            go_roundw
            case rel => exact ⟨j + 1, d', Lc', L', D', by omega, by go_num, rfl, HF.out.1, HF.out.2.1, HF.out.2.2, by have := HM.out; have := HWL.out; omega⟩
            case measure => simp [intOf]; omega
          · have hji : ¬ (j : Int) < (len : Int) := by omega
            have HP := Lib.hid hP; clear hP
            obtain ⟨S, hrs⟩ := HP.out.r
            have hheld : ∀ W : World, Below wr.heap.size wr W → W.cell? ⟨p, 1, none⟩ = some (.slice (some ⟨S.bf, 0, none⟩) n S.cf) ∧ ∀ k, k < n → W.cell? ⟨S.bf, k, none⟩ = some (.slice (some ⟨S.h k, 0, none⟩) 256 (S.ch k)) ∧ Rd W W.heap.size (some ⟨S.h k, 0, none⟩) (vb (D.firm.getD k [])) := fun W hb => by
              have := hrs.call hb
              exact ⟨this.c1, fun k hk => ⟨this.sf.cellAt k hk, (this.rf k hk).rd⟩⟩
            have HH := Lib.hid hheld; clear hheld hrs
            obtain ⟨bf, hbf⟩ : ∃ bf, bf = S.bf := ⟨_, rfl⟩
            obtain ⟨cf, hcf⟩ : ∃ cf, cf = S.cf := ⟨_, rfl⟩
            obtain ⟨hq, hhq⟩ : ∃ hq, hq = S.h := ⟨_, rfl⟩
            obtain ⟨cq, hcq⟩ : ∃ cq, cq = S.ch := ⟨_, rfl⟩
            rw [← hbf, ← hcf, ← hhq, ← hcq] at HH
            clear hbf hcf hhq hcq S
            have f1 := (HH.out wr (Below.refl _ _)).1
            have HR0 := Lib.hid HB.out
            go_upto_region 17 with fail
            go_wp2_with fail
            clear f1
            go_loopw [106] (fun i wz => ∃ k : Nat, k ≤ n ∧ i = .int .i64 k ∧ Below wr.heap.size wr wz) (fun i _ => n - (intOf i).toNat)
            case atStart => exact ⟨0, Nat.zero_le _, rfl, Below.refl _ _⟩
            case round =>
              rename World => wz
              obtain ⟨k, hk, rfl, hbz⟩ := hrel
              have HBZ := Lib.hid hbz; clear hbz
              by_cases hkn : k < n
              · have hki : (k : Int) < (n : Int) := by omega
                have hll : (D.firm.getD k []).length = 256 := HP.out.c.ok.fr k hkn
                have hcf := cdfirm_any wz d n Lc D (HP.out.c.call HBZ.out) (k : Int)
                have hh1 : hasB n (k : Int) = true := (hasB_iff n _).2 ⟨by omega, hki⟩
                rw [show Dev.firmE n (k : Int) = 0 from by unfold Dev.firmE; rw [if_pos hh1], show Dev.firmB D n (k : Int) = D.firm.getD k [] from by unfold Dev.firmB; rw [if_pos hh1]; rfl, hll] at hcf
                have HCF := Lib.hid hcf; clear hcf hh1
                have HLL := Lib.hid hll; clear hll
                go_wp2_with fail
                refine HCF.out.mono ?_
                rintro e y ⟨v, rfl, ho1, hb1⟩
                obtain ⟨A1, c1, rfl, _, hr1⟩ := Rd.of_own8 ho1
                have hby := HBZ.out.trans (hb1.mono HBZ.out.size)
                obtain ⟨f1, f2⟩ := HH.out y hby
                obtain ⟨f3, f4⟩ := f2 k hkn
                have hsm := rsamev_any A1 (some ⟨hq k, 0, none⟩) (D.firm.getD k []) (D.firm.getD k []) 256 256 c1 (cq k) HLL.out HLL.out y hr1 f4
                rw [show (D.firm.getD k [] == D.firm.getD k []) = true from by simp] at hsm
                have HSM := Lib.hid hsm; clear hsm f2 f4 hr1 ho1 HCF
                have HBY := Lib.hid hby; clear hby hb1
                go_wp2_with fail
                refine HSM.out.mono ?_
                rintro e y2 ⟨rfl, ey⟩
                have ey := ey.symm
                subst ey
                go_wp2_with fail
                go_roundw
                case rel => exact ⟨k + 1, by omega, by go_num, HBY.out⟩
                case measure => simp [intOf]; omega
              · have hki : ¬ (k : Int) < (n : Int) := by omega
                have HBW := Lib.hid (HR0.out.trans (HBZ.out.mono HR0.out.size))
                go_wp2_with fail
                refine (known08_any _).mono ?_
                rintro e wk ⟨rfl, hbk⟩
                go_wp2_with fail
                go_ret
                exact ⟨rfl, HBW.out.trans (hbk.mono HBW.out.size)⟩
      · clear hb4
        have HB1 := Lib.hid hb1; clear hb1
        go_wp2_with fail
        refine (known08_any _).mono ?_
        rintro e wk ⟨rfl, hbk⟩
        go_wp2_with fail
        go_ret
        exact ⟨rfl, HB1.out.trans (hbk.mono HB1.out.size)⟩
  · simp only [decide_eq_false hm] at hmay
    have HMAY := Lib.hid hmay; clear hmay
    have hnew := fun W : World => cdnew_no W blocks hbk hm
    have HNEW := Lib.hid hnew; clear hnew hm
    go_enter Try.func3, Try.ntmps3
    go_wp2_with fail
    refine (HMAY.out _).mono ?_
    rintro e wm ⟨rfl, ew⟩
    have ew := ew.symm
    subst ew
    go_wp2_with fail
    refine (hheavy.out _ (Below.refl _ _)).mono ?_
    rintro e w1 ⟨b, rfl, hb4, hb1⟩
    have HB1 := Lib.hid hb1; clear hb1 hb4
    rcases b with _ | _
    · go_wp2_with fail
      refine (HNEW.out w1).mono ?_
      rintro e w2 ⟨rfl, hb2⟩
      have HB2 := Lib.hid (HB1.out.trans (hb2.mono HB1.out.size)); clear hb2 HB1
      go_wp2_with fail
      refine (HMAY.out _).mono ?_
      rintro e wm ⟨rfl, ew⟩
      have ew := ew.symm
      subst ew
      go_wp2_with fail
      refine (known08_any _).mono ?_
      rintro e wk ⟨rfl, hbk⟩
      go_wp2_with fail
      go_ret
      exact ⟨rfl, HB2.out.trans (hbk.mono HB2.out.size)⟩
    · skip
      go_wp2_with fail
      refine (known08_any _).mono ?_
      rintro e wk ⟨rfl, hbk⟩
      go_wp2_with fail
      go_ret
      exact ⟨rfl, HB1.out.trans (hbk.mono HB1.out.size)⟩
set_option maxRecDepth 100000 in
theorem nplays_lifted (os : Os) (started : os.Started) (H : Type) (enc : TypeId × Value → H) :
    ReturnsInHanded {} Try.checked os 3 .any (Rows.diskPlaysSpec.pre6 enc Try.prog Try.f3 Rows.diskPlaysRow.domain false) (Rows.diskPlaysSpec.post enc Try.prog Try.f3 false true false false) := by
  refine returnsInHanded_of_change_sized (C := Try.checked) Try.own started (by kernel_rfl) Try.func3
    (ChangeSpec.witness6 (enc := enc) (C := Try.checked) false ⟨#[], #[.int .i64 0, .slice none 0 0], []⟩ 8 (by kernel_rfl) (by kernel_rfl) (by kernel_rfl) (by kernel_rfl)) ?_
  intro W base args ds gs before hval0 hW _ hsz0 _
  have hsz : (DataW.weightsEach Try.prog (Try.f3.params.toList ++ Rows.diskPlaysSpec.plain.varTypes Try.prog) (ds ++ gs)).all (· ≤ reachBytes) = true := hsz0
  have hval : ∀ (j : Nat) t v, Try.f3.params[j]? = some t → args[j]? = some v → Value.okWide Try.prog W .any base t v := hval0
  have hW' := hW
  obtain ⟨p, q, hA0, hV, rfl, _, _⟩ := hW
  have hA : DataW.TrodAll enc Try.prog W 0 (fun _ => true) true Try.f3.params.toList args.toList ds p := hA0
  rw [Try.params3] at hA hval hsz
  have hlt := hW'.lt
  clear hA0 hval0 hsz0
  obtain ⟨v0, vs0, d0, ds0, p0, q0, hv0, rfl, rfl, h0, r0⟩ := trodAll_cons hA
  obtain ⟨v1, vs1, d1, ds1, p1, q1, hv1, rfl, rfl, h1, r1⟩ := trodAll_cons r0
  subst hv1
  obtain ⟨rfl, rfl, rfl⟩ := trodAll_nil r1
  obtain rfl : args = #[v0, v1] := by cases args; simp_all
  obtain ⟨rfl, rfl⟩ := trodVars_none hV
  obtain ⟨a0, rfl, rfl, rfl, w0⟩ := open_int Try.underlying3 (hval 0 3 v0 rfl rfl) h0
  have b0 : -9223372036854775808 ≤ a0 ∧ a0 ≤ 9223372036854775807 := by simpa [Lit.wf, IntKind.min, IntKind.max, IntKind.signed, IntKind.bits] using w0
  obtain ⟨A1, len1, cap1, rfl, le1, hs1⟩ := open_structsW Try.underlying22 Try.underlying36 (by kernel_rfl) (by kernel_rfl) (hval 1 22 v1 rfl rfl) h1 (fun m hm => by have := List.all_eq_true.1 hsz m (DataW.weights_mem_each (j := 1) (t := 22) rfl rfl m hm); simpa using this) (of_decide_eq_true (by kernel_rfl))
  obtain ⟨O1, hk1⟩ := structs_op Try.underlying3 Try.underlying3 Try.underlying3 Try.underlying34 Try.underlying34 Try.underlying5 Try.cellsU8 Try.bytesU8 hs1
  refine (nplays_any a0 A1 len1 cap1 O1 W b0 (by unfold reachBytes at le1; omega) hk1).mono fun e W' ⟨he, hb⟩ => ⟨_, he, ?_⟩
  exact law_post 4 Try.underlying4 (by kernel_rfl) rfl Try.laidOut (by kernel_rfl) hW' ⟨rfl, rfl, rfl⟩ hb

theorem nplays_holds : Rows.DiskPlaysSaid :=
  OpenClaim.holds_of_wide 3 Try.f3 rfl rfl rfl rfl rfl rfl rfl ⟨rfl, rfl, rfl, rfl, rfl⟩ rfl rfl rfl rfl rfl (by kernel_rfl) Try.func3 (by kernel_rfl)
    (of_decide_eq_true (by kernel_rfl)) (by unfold Func.isWrapper; first | (rw [if_pos (by decide +kernel)]; kernel_rfl) | (rw [if_neg (by decide +kernel)]; exact ⟨rfl, rfl⟩))
    (fun os started H enc _ => nplays_lifted os started H enc)
end Go.Proofs.Ytajplflefagbaaa
