/-
  Of steps the one that a Fail named answers ErrIO and changes nothing, and those behind a Cut answer ErrDown: DiskFails, for every input.
-/
import Derived.Test.YtajplflefagbaaaDkY
import Derived.Test.YtajplflefagbaaaNPlays
namespace Go.Proofs.Ytajplflefagbaaa
open Go Go.RowKit Go.ChangeShapes Go.WideShapes Go.ChangeAt Go.Deep
set_option linter.unusedVariables false
set_option linter.unusedSimpArgs false

set_option maxRecDepth 100000 in
set_option maxHeartbeats 40000000 in
theorem nfails_any (A : Option Addr) (len cap : Nat) (O : Nat → OpV) (fl ct : Int) (w : World) (hlen : len ≤ 140737488351360) (hO : ∀ i, i < len → (O i).Ok w ∧ ∃ ad, A = some ad ∧ (O i).At w ad i) (hf : -9223372036854775808 ≤ fl ∧ fl ≤ 9223372036854775807) (hc : -9223372036854775808 ≤ ct ∧ ct ≤ 9223372036854775807) :
    Calls Try.prog 7 #[.slice A len cap, .int .i64 fl, .int .i64 ct] w fun e w' => e = .returned (.bool true) ∧ Below w.heap.size w w' := by
  have HO := Lib.hid hO; clear hO
  have HFC : Hid (i64in fl ∧ i64in ct) := Lib.hid ⟨hf, hc⟩; clear hf hc
  by_cases h200 : 200 < len
  · have hi : (200 : Int) < (len : Int) := by omega
    go_enter Try.func7, Try.ntmps7
    go_wp2_with fail
    refine (known08_any _).mono ?_
    rintro e wk ⟨rfl, hbk⟩
    go_wp2_with fail
    go_ret
    exact ⟨rfl, hbk⟩
  · have hi : ¬ (200 : Int) < (len : Int) := by omega
    have hnew := cdnew_any w 8 (by decide) (by decide)
    rw [show ((8 : Nat) : Int) = 8 from rfl] at hnew
    have HN := Lib.hid hnew; clear hnew
    go_enter Try.func7, Try.ntmps7
    go_wp2_with fail
    refine HN.out.mono ?_
    rintro e w1 ⟨d, rfl, hcd, hb1⟩
    have HC := Lib.hid hcd; clear hcd
    have HB1 := Lib.hid hb1; clear hb1 HN
    go_wp2_with fail
    refine (cdfail_any w1 d 8 _ _ HC.out fl HFC.out.1).mono ?_
    rintro e w2 ⟨rfl, hc2, hk2⟩
    have HC2 := Lib.hid hc2
    have HB2 := Lib.hid (Keep.toBelow HB1.out hk2 (fun b h => h.1) HB1.out.size)
    have HL2 : Hid (∀ b, ext (fun b => w.heap.size ≤ b ∧ b < w1.heap.size) w1 w2 b → w.heap.size ≤ b) := Lib.hid fun b h => h.elim (fun h => h.1) (fun h => Nat.le_trans HB1.out.size h.1)
    clear hc2 hk2 HC
    go_wp2_with fail
    refine (cdcut_any w2 d 8 _ _ HC2.out ct HFC.out.2).mono ?_
    rintro e w3 ⟨rfl, hc3, hk3⟩
    have hB3 := Keep.toBelow HB2.out hk3 HL2.out HB2.out.size
    have hL3 : ∀ b, ext (ext (fun b => w.heap.size ≤ b ∧ b < w1.heap.size) w1 w2) w2 w3 b → w.heap.size ≤ b := fun b h => h.elim (HL2.out b) (fun h => Nat.le_trans HB2.out.size h.1)
    have HS3 := Lib.hid (And.intro hc3 (And.intro hL3 (And.intro hB3 (FI.start fl ct HFC.out.2.2)))); clear hc3 hk3 hB3 hL3 HC2 HB1 HB2 HL2
    go_wp2_with fail
    go_loopw [41] (fun i wr => ∃ (j : Nat) (L : Nat → Prop) (D : Dev), j ≤ len ∧ i = .int .i64 j ∧ CD wr d L 8 D ∧ (∀ b, L b → w.heap.size ≤ b) ∧ Below w.heap.size w wr ∧ FI fl ct j D) (fun i _ => len - (intOf i).toNat)
    case atStart => exact ⟨0, _, _, Nat.zero_le _, rfl, HS3.out⟩
    case round =>
      rename World => wr
      obtain ⟨j, L, D, hj, rfl, hcd, hL, hB, hfi⟩ := hrel
      clear HS3
      have HB := Lib.hid hB; clear hB
      have HL := Lib.hid hL; clear hL
      have HC := Lib.hid hcd; clear hcd
      have HFI := Lib.hid hfi; clear hfi
      by_cases hlt : j < len
      · have hji : (j : Int) < (len : Int) := by omega
        have hj1000 : j ≤ 1000 := by omega
        have hwj : IntKind.i64.wrap ((j : Int) + 1) = (j : Int) + 1 := IntWalk.i64_in _ (by omega)
        obtain ⟨hok, ad, hA, hat⟩ := HO.out j hlt
        obtain ⟨o, hoo⟩ : ∃ o, o = O j := ⟨_, rfl⟩
        rw [← hoo] at hok hat
        clear hoo
        obtain ⟨e0, e1, e2, e3, e4⟩ := hat.go HB.out
        have hcs : ∀ (k : Nat) (v : Value), ([.int .i64 o.k, .int .i64 o.i, .int .i64 o.a, .slice o.B o.bl.length o.bc, .slice o.M o.ml.length o.mc] : List Value)[k]? = some v → wr.cell? ((ad.add (j * 5)).add k) = some v := fun k v hk => by
          rcases k with _ | _ | _ | _ | _ | k
          · cases hk; exact e0
          · cases hk; rw [add_add, ← field_add _ _ _ (by decide)]; exact e1
          · cases hk; rw [add_add, ← field_add _ _ _ (by decide)]; exact e2
          · cases hk; rw [add_add, ← field_add _ _ _ (by decide)]; exact e3
          · cases hk; rw [add_add, ← field_add _ _ _ (by decide)]; exact e4
          · exact absurd (List.getElem?_eq_some_iff.1 hk).1 (by simp)
        have HCS := Lib.hid hcs; clear hcs e0 e1 e2 e3 e4 hat hok
        subst hA
        obtain ⟨x, hx⟩ : ∃ x, x = at7 o.i := ⟨_, rfl⟩
        have hx7 : bits .and .i64 o.i 7 = (x : Int) := by rw [i64_and7, hx]; rfl
        have hxh : hasB 8 (x : Int) = true := by rw [hx]; exact at7_has o.i
        obtain ⟨y, hy⟩ : ∃ y, y = (o.k % 2).toNat := ⟨_, rfl⟩
        have hy1 : bits .and .i64 o.k 1 = (y : Int) := by rw [i64_and1, hy]
        clear hx hy
        have HXH := Lib.hid hxh; clear hxh
        go_upto_region 11 with (refine wpList_load_at rfl 36 (.tmp 44) rfl (ad.add (j * 5)) rfl [.int .i64 o.k, .int .i64 o.i, .int .i64 o.a, .slice o.B o.bl.length o.bc, .slice o.M o.ml.length o.mc] _ HCS.out Try.underlying36 (by rw [op_size]; rfl) ?_)
        have hOb : Ob (wr.alloc (.cells (opA o) 36)) wr.heap.size o := heap_alloc_new _ _
        have hb0 : Below wr.heap.size wr (wr.alloc (.cells (opA o) 36)) := (Below.refl _ _).alloc (Nat.le_refl _) _
        have hbL : ¬ L wr.heap.size := fun h => Nat.lt_irrefl _ (HC.out.lt _ h)
        generalize wr.alloc (.cells (opA o) 36) = w0 at *
        generalize hb10 : wr.heap.size = b10 at *
        have HC0 := Lib.hid (HC.out.call (by rw [hb10]; exact hb0))
        have HB0 : Hid (Below w.heap.size w w0) := Lib.hid (HB.out.trans (hb0.mono (by rw [← hb10]; exact HB.out.size)))
        have HOB := Lib.hid (And.intro hOb hbL)
        clear hb0 hbL HC hb10 HB HCS
        have hwl : D.waits.length ≤ 1000 := by have := HFI.out.w; omega
        obtain ⟨E, hE⟩ : ∃ E, E = wantE fl ct j := ⟨_, rfl⟩
        have hrd := cdread_any w0 d 8 L D HC0.out (x : Int)
        obtain ⟨rb, hrb⟩ : ∃ rb, rb = D.readB 8 (x : Int) := ⟨_, rfl⟩
        obtain ⟨er, her⟩ : ∃ er, er = D.readE 8 (x : Int) := ⟨_, rfl⟩
        obtain ⟨wl, hwle⟩ : ∃ wl, wl = D.waits.length := ⟨_, rfl⟩
        rw [← hrb, ← her] at hrd
        have HRD := Lib.hid hrd; clear hrd her
        have HEQ := Lib.hid (And.intro hE (And.intro hrb hwle)); clear hE hrb hwle
        have d1 := hOb.c1
        clear hOb
        go_wp2_with fail
        refine HRD.out.mono ?_
        rintro e w1 ⟨v, rfl, ho1, hb1⟩
        obtain ⟨A1, c1, rfl, _, hr1⟩ := Rd.of_own8 ho1
        obtain ⟨et, ho1⟩ := ho1
        have hA1 := full_aside HC0.out.lt ho1 A1 rb.length c1 rfl
        have HR1 := Lib.hid (And.intro hr1 hA1)
        have HC1 := Lib.hid (HC0.out.call hb1)
        have HB1 := Lib.hid (HB0.out.trans (hb1.mono HB0.out.size))
        have hob1 := HOB.out.1.call hb1
        clear ho1 hr1 hA1 hb1 HRD d1 HC0 HB0
        have hcw := cdwaiting_any w1 d 8 L D HC1.out (by omega)
        rw [← HEQ.out.2.2] at hcw
        have HCW := Lib.hid hcw; clear hcw
        go_wp2_with fail
        refine HCW.out.mono ?_
        rintro e w2 ⟨rfl, hb2⟩
        have HC2 := Lib.hid (HC1.out.call hb2)
        have HB2 := Lib.hid (HB1.out.trans (hb2.mono HB1.out.size))
        have HR2 := Lib.hid (And.intro (HR1.out.1.go hb2) HR1.out.2)
        have hob2 := hob1.call hb2
        have HO2 := Lib.hid hob2
        clear hb2 HCW HC1 HB1 HR1 hob1
        have d0 := hob2.c0
        by_cases hy0 : y = 0
        · subst hy0
          rw [show ((0 : Nat) : Int) = 0 from rfl] at hy1
          go_upto_region 15 with fail
          clear d0
          go_region_held3 (fun w' => w'.cell? ⟨b10, 1, none⟩ = some (.int .i64 o.i) ∧ w'.cell? ⟨b10, 2, none⟩ = some (.int .i64 o.a))
            (first | exact ⟨HO2.out.c1, HO2.out.c2⟩ | (refine Ob.cells2 (o := o) ?_; assumption))
            ((first
              | (go_at_call 24; refine (cdwrite_any w3 d 8 L D (HC2.out.call hbw3) (x : Int) A3 (fullB (u8of o.a)) 256 c3 (fullB_len _) hcap3 (by decide) hrd3 (fun _ => hA3) (by have := HFI.out.load; omega)).mono ?_; rw [(HFI.out.write hj1000 x HXH.out (fullB (u8of o.a)) (fullB_len _)).2, ← HEQ.out.1]; rintro e w5 ⟨rfl, hc5, hk5⟩; have hob5 := hob3.keep hk5 HOB.out.2)
              | (go_at_call 29; refine (fullw_any o.a _).mono ?_; rintro e w3 ⟨v3, rfl, ho3, hb3⟩; have hbw3 : Below w2.heap.size w2 w3 := (Below.refl _ _).drew.trans (hb3.mono (Nat.le_refl _)); have hob3 := HO2.out.call hbw3; have hA3 := full_aside HC2.out.lt (show w3.ownsRow w2.heap.size _ _ _ _ _ from ho3); obtain ⟨A3, c3, rfl, _, hrd3⟩ := Rd.of_own ho3; replace hA3 := hA3 A3 256 c3 rfl; have hcap3 := own_cap8 ho3)))
          have hFI5 := (HFI.out.write hj1000 x HXH.out (fullB (u8of o.a)) (fullB_len _)).1
          have h80 : E = 80 → D.write 8 (x : Int) (fullB (u8of o.a)) = D.step := fun h => (HFI.out.failed (by rw [← HEQ.out.1]; exact h) x HXH.out (fullB (u8of o.a)) (fullB_len _)).1
          have HR5 := Lib.hid ((HR2.out.1.go hbw3).kept hk5 (fun _ => HR2.out.2))
          have hB3 := HB2.out.trans (hbw3.mono HB2.out.size)
          have HB5 := Lib.hid (Keep.toBelow hB3 hk5 HL.out hB3.size)
          have HL5 : Hid (∀ b, ext L w3 w5 b → w.heap.size ≤ b) := Lib.hid fun b h => h.elim (HL.out b) (fun h => Nat.le_trans hB3.size h.1)
          have HC5 := Lib.hid hc5
          have HOB5 := Lib.hid hob5
          clear hc5 hk5 hob5 hob3 hbw3 hB3 hA3 hrd3 hcap3 ho3 hb3 HR2 HB2 HC2 hob2 HO2
          obtain ⟨D5, hD5⟩ : ∃ D5, D5 = D.write 8 (x : Int) (fullB (u8of o.a)) := ⟨_, rfl⟩
          rw [← hD5] at hFI5 HC5 h80
          have HFI5 := Lib.hid (And.intro hFI5 h80); clear hFI5 h80 hD5
          generalize ext L w3 w5 = L5 at *
          by_cases hcut : 0 ≤ ct ∧ ct ≤ (j : Int)
          · obtain ⟨k0, k1⟩ := hcut
            have hEv : E = 81 := by rw [HEQ.out.1]; unfold wantE; rw [if_pos ⟨k0, k1⟩]
            subst hEv
            by_cases h1 : (j : Int) + 1 = fl
            · have hdw := cddown_any w5 d 8 L5 D5 HC5.out
              rw [show D5.down = true from by rw [HFI5.out.1.d]; first | (rw [decide_eq_true_eq]; omega) | (rw [decide_eq_false_iff_not]; omega)] at hdw
              have HDW := Lib.hid hdw; clear hdw
              go_wp2_with fail
              refine HDW.out.mono ?_
              rintro e w6 ⟨rfl, hb6⟩
              have HC6 := Lib.hid (HC5.out.call hb6)
              have HB6 := Lib.hid (HB5.out.trans (hb6.mono HB5.out.size))
              go_wp2_with fail
              go_roundw
              case rel => exact ⟨j + 1, L5, D5, by omega, by go_num, HC6.out, HL5.out, HB6.out, HFI5.out.1⟩
              case measure => simp [intOf]; omega
            · have hdw := cddown_any w5 d 8 L5 D5 HC5.out
              rw [show D5.down = true from by rw [HFI5.out.1.d]; first | (rw [decide_eq_true_eq]; omega) | (rw [decide_eq_false_iff_not]; omega)] at hdw
              have HDW := Lib.hid hdw; clear hdw
              go_wp2_with fail
              refine HDW.out.mono ?_
              rintro e w6 ⟨rfl, hb6⟩
              have HC6 := Lib.hid (HC5.out.call hb6)
              have HB6 := Lib.hid (HB5.out.trans (hb6.mono HB5.out.size))
              go_wp2_with fail
              go_roundw
              case rel => exact ⟨j + 1, L5, D5, by omega, by go_num, HC6.out, HL5.out, HB6.out, HFI5.out.1⟩
              case measure => simp [intOf]; omega
          · by_cases h1 : (j : Int) + 1 = fl
            · have hEv : E = 80 := by rw [HEQ.out.1]; unfold wantE; rw [if_neg hcut, if_pos h1]
              subst hEv
              have HWE : Hid (wantE fl ct j = 80) := Lib.hid (by unfold wantE; rw [if_neg hcut, if_pos h1])
              have hwlb : wl ≤ 1000 := by rw [HEQ.out.2.2]; exact hwl
              by_cases k0 : 0 ≤ ct
              · have k1 : ¬ ct ≤ (j : Int) := fun h => hcut ⟨k0, h⟩
                clear hcut
                have hdw := cddown_any w5 d 8 L5 D5 HC5.out
                rw [show D5.down = false from by rw [HFI5.out.1.d]; first | (rw [decide_eq_true_eq]; omega) | (rw [decide_eq_false_iff_not]; omega)] at hdw
                have HDW := Lib.hid hdw; clear hdw
                go_wp2_with fail
                refine HDW.out.mono ?_
                rintro e w6 ⟨rfl, hb6⟩
                have HC6 := Lib.hid (HC5.out.call hb6)
                have HB6 := Lib.hid (HB5.out.trans (hb6.mono HB5.out.size))
                have hq := HFI.out.failed HWE.out x HXH.out (fullB 0) (fullB_len _)
                have hd5 := HFI5.out.2 (by first | trivial | rfl)
                have hrd := cdread_any w6 d 8 L5 D5 HC6.out (x : Int)
                rw [hd5, hq.2.1, hq.2.2.1, ← HEQ.out.2.1] at hrd
                have HRD := Lib.hid hrd
                have hwt6 : D5.waits.length = wl := by rw [hd5, hq.2.2.2, ← HEQ.out.2.2]
                have HWT := Lib.hid hwt6
                have hob6 := HOB5.out.call hb6
                have d1 := hob6.c1
                have HR6 := Lib.hid (HR5.out.go hb6)
                clear hb6 hq hd5 hrd hwt6 HDW
                go_wp2_with fail
                refine HRD.out.mono ?_
                rintro e w7 ⟨v, rfl, ho7, hb7⟩
                obtain ⟨A7, c7, rfl, _, hr7⟩ := Rd.of_own8 ho7
                have s1 := run_str (P := Try.prog) 34 9 5 Try.underlying34 Try.underlying5 Try.underlying9 (rfl : rb.length = rb.length) c7 hr7
                have s2 := run_str (P := Try.prog) 34 9 5 Try.underlying34 Try.underlying5 Try.underlying9 (rfl : rb.length = rb.length) c1 (HR6.out.go hb7)
                have HC7 := Lib.hid (HC6.out.call hb7)
                have HB7 := Lib.hid (HB6.out.trans (hb7.mono HB6.out.size))
                have hcw := cdwaiting_any w7 d 8 L5 D5 HC7.out (by rw [HWT.out]; omega)
                rw [HWT.out] at hcw
                have HCW := Lib.hid hcw; clear hcw ho7 hb7 hr7 d1 hob6
                go_wp2_with fail
                refine HCW.out.mono ?_
                rintro e w8 ⟨rfl, hb8⟩
                have HC8 := Lib.hid (HC7.out.call hb8)
                have HB8 := Lib.hid (HB7.out.trans (hb8.mono HB7.out.size))
                clear s1 s2 hb8
                go_wp2_with fail
                go_roundw
                case rel => exact ⟨j + 1, L5, D5, by omega, by go_num, HC8.out, HL5.out, HB8.out, HFI5.out.1⟩
                case measure => simp [intOf]; omega
              · clear hcut
                have hdw := cddown_any w5 d 8 L5 D5 HC5.out
                rw [show D5.down = false from by rw [HFI5.out.1.d]; first | (rw [decide_eq_true_eq]; omega) | (rw [decide_eq_false_iff_not]; omega)] at hdw
                have HDW := Lib.hid hdw; clear hdw
                go_wp2_with fail
                refine HDW.out.mono ?_
                rintro e w6 ⟨rfl, hb6⟩
                have HC6 := Lib.hid (HC5.out.call hb6)
                have HB6 := Lib.hid (HB5.out.trans (hb6.mono HB5.out.size))
                have hq := HFI.out.failed HWE.out x HXH.out (fullB 0) (fullB_len _)
                have hd5 := HFI5.out.2 (by first | trivial | rfl)
                have hrd := cdread_any w6 d 8 L5 D5 HC6.out (x : Int)
                rw [hd5, hq.2.1, hq.2.2.1, ← HEQ.out.2.1] at hrd
                have HRD := Lib.hid hrd
                have hwt6 : D5.waits.length = wl := by rw [hd5, hq.2.2.2, ← HEQ.out.2.2]
                have HWT := Lib.hid hwt6
                have hob6 := HOB5.out.call hb6
                have d1 := hob6.c1
                have HR6 := Lib.hid (HR5.out.go hb6)
                clear hb6 hq hd5 hrd hwt6 HDW
                go_wp2_with fail
                refine HRD.out.mono ?_
                rintro e w7 ⟨v, rfl, ho7, hb7⟩
                obtain ⟨A7, c7, rfl, _, hr7⟩ := Rd.of_own8 ho7
                have s1 := run_str (P := Try.prog) 34 9 5 Try.underlying34 Try.underlying5 Try.underlying9 (rfl : rb.length = rb.length) c7 hr7
                have s2 := run_str (P := Try.prog) 34 9 5 Try.underlying34 Try.underlying5 Try.underlying9 (rfl : rb.length = rb.length) c1 (HR6.out.go hb7)
                have HC7 := Lib.hid (HC6.out.call hb7)
                have HB7 := Lib.hid (HB6.out.trans (hb7.mono HB6.out.size))
                have hcw := cdwaiting_any w7 d 8 L5 D5 HC7.out (by rw [HWT.out]; omega)
                rw [HWT.out] at hcw
                have HCW := Lib.hid hcw; clear hcw ho7 hb7 hr7 d1 hob6
                go_wp2_with fail
                refine HCW.out.mono ?_
                rintro e w8 ⟨rfl, hb8⟩
                have HC8 := Lib.hid (HC7.out.call hb8)
                have HB8 := Lib.hid (HB7.out.trans (hb8.mono HB7.out.size))
                clear s1 s2 hb8
                go_wp2_with fail
                go_roundw
                case rel => exact ⟨j + 1, L5, D5, by omega, by go_num, HC8.out, HL5.out, HB8.out, HFI5.out.1⟩
                case measure => simp [intOf]; omega
            · have hEv : E = 0 := by rw [HEQ.out.1]; unfold wantE; rw [if_neg hcut, if_neg h1]
              subst hEv
              by_cases k0 : 0 ≤ ct
              · have k1 : ¬ ct ≤ (j : Int) := fun h => hcut ⟨k0, h⟩
                clear hcut
                have hdw := cddown_any w5 d 8 L5 D5 HC5.out
                rw [show D5.down = false from by rw [HFI5.out.1.d]; first | (rw [decide_eq_true_eq]; omega) | (rw [decide_eq_false_iff_not]; omega)] at hdw
                have HDW := Lib.hid hdw; clear hdw
                go_wp2_with fail
                refine HDW.out.mono ?_
                rintro e w6 ⟨rfl, hb6⟩
                have HC6 := Lib.hid (HC5.out.call hb6)
                have HB6 := Lib.hid (HB5.out.trans (hb6.mono HB5.out.size))
                go_wp2_with fail
                go_roundw
                case rel => exact ⟨j + 1, L5, D5, by omega, by go_num, HC6.out, HL5.out, HB6.out, HFI5.out.1⟩
                case measure => simp [intOf]; omega
              · clear hcut
                have hdw := cddown_any w5 d 8 L5 D5 HC5.out
                rw [show D5.down = false from by rw [HFI5.out.1.d]; first | (rw [decide_eq_true_eq]; omega) | (rw [decide_eq_false_iff_not]; omega)] at hdw
                have HDW := Lib.hid hdw; clear hdw
                go_wp2_with fail
                refine HDW.out.mono ?_
                rintro e w6 ⟨rfl, hb6⟩
                have HC6 := Lib.hid (HC5.out.call hb6)
                have HB6 := Lib.hid (HB5.out.trans (hb6.mono HB5.out.size))
                go_wp2_with fail
                go_roundw
                case rel => exact ⟨j + 1, L5, D5, by omega, by go_num, HC6.out, HL5.out, HB6.out, HFI5.out.1⟩
                case measure => simp [intOf]; omega
        · have hyi : ¬ (y : Int) = 0 := by omega
          have hcs5 := cdstep_any w2 d 8 L D HC2.out (by have := HFI.out.load; omega)
          rw [HFI.out.want, ← HEQ.out.1] at hcs5
          have HCS5 := Lib.hid hcs5; clear hcs5
          go_wp2_with fail
          clear d0
          refine HCS5.out.mono ?_
          rintro e w5 ⟨rfl, hc5, hk5⟩
          have HR5 := Lib.hid (HR2.out.1.kept hk5 (fun _ => HR2.out.2))
          have HB5 := Lib.hid (Keep.toBelow HB2.out hk5 HL.out HB2.out.size)
          have HL5 : Hid (∀ b, ext L w2 w5 b → w.heap.size ≤ b) := Lib.hid fun b h => h.elim (HL.out b) (fun h => Nat.le_trans HB2.out.size h.1)
          have HC5 := Lib.hid hc5
          have HOB5 := Lib.hid (HO2.out.keep hk5 HOB.out.2)
          have hFI5 := HFI.out.next hj1000
          have h80 : E = 80 → D.step = D.step := fun _ => rfl
          clear hc5 hk5 HR2 HB2 HC2 hob2 HO2 HCS5
          obtain ⟨D5, hD5⟩ : ∃ D5, D5 = D.step := ⟨_, rfl⟩
          have h80 : E = 80 → D5 = D.step := fun _ => hD5
          rw [← hD5] at hFI5 HC5
          have HFI5 := Lib.hid (And.intro hFI5 h80); clear hFI5 h80 hD5
          generalize ext L w2 w5 = L5 at *
          by_cases hcut : 0 ≤ ct ∧ ct ≤ (j : Int)
          · obtain ⟨k0, k1⟩ := hcut
            have hEv : E = 81 := by rw [HEQ.out.1]; unfold wantE; rw [if_pos ⟨k0, k1⟩]
            subst hEv
            by_cases h1 : (j : Int) + 1 = fl
            · have hdw := cddown_any w5 d 8 L5 D5 HC5.out
              rw [show D5.down = true from by rw [HFI5.out.1.d]; first | (rw [decide_eq_true_eq]; omega) | (rw [decide_eq_false_iff_not]; omega)] at hdw
              have HDW := Lib.hid hdw; clear hdw
              go_wp2_with fail
              refine HDW.out.mono ?_
              rintro e w6 ⟨rfl, hb6⟩
              have HC6 := Lib.hid (HC5.out.call hb6)
              have HB6 := Lib.hid (HB5.out.trans (hb6.mono HB5.out.size))
              go_wp2_with fail
              go_roundw
              case rel => exact ⟨j + 1, L5, D5, by omega, by go_num, HC6.out, HL5.out, HB6.out, HFI5.out.1⟩
              case measure => simp [intOf]; omega
            · have hdw := cddown_any w5 d 8 L5 D5 HC5.out
              rw [show D5.down = true from by rw [HFI5.out.1.d]; first | (rw [decide_eq_true_eq]; omega) | (rw [decide_eq_false_iff_not]; omega)] at hdw
              have HDW := Lib.hid hdw; clear hdw
              go_wp2_with fail
              refine HDW.out.mono ?_
              rintro e w6 ⟨rfl, hb6⟩
              have HC6 := Lib.hid (HC5.out.call hb6)
              have HB6 := Lib.hid (HB5.out.trans (hb6.mono HB5.out.size))
              go_wp2_with fail
              go_roundw
              case rel => exact ⟨j + 1, L5, D5, by omega, by go_num, HC6.out, HL5.out, HB6.out, HFI5.out.1⟩
              case measure => simp [intOf]; omega
          · by_cases h1 : (j : Int) + 1 = fl
            · have hEv : E = 80 := by rw [HEQ.out.1]; unfold wantE; rw [if_neg hcut, if_pos h1]
              subst hEv
              have HWE : Hid (wantE fl ct j = 80) := Lib.hid (by unfold wantE; rw [if_neg hcut, if_pos h1])
              have hwlb : wl ≤ 1000 := by rw [HEQ.out.2.2]; exact hwl
              by_cases k0 : 0 ≤ ct
              · have k1 : ¬ ct ≤ (j : Int) := fun h => hcut ⟨k0, h⟩
                clear hcut
                have hdw := cddown_any w5 d 8 L5 D5 HC5.out
                rw [show D5.down = false from by rw [HFI5.out.1.d]; first | (rw [decide_eq_true_eq]; omega) | (rw [decide_eq_false_iff_not]; omega)] at hdw
                have HDW := Lib.hid hdw; clear hdw
                go_wp2_with fail
                refine HDW.out.mono ?_
                rintro e w6 ⟨rfl, hb6⟩
                have HC6 := Lib.hid (HC5.out.call hb6)
                have HB6 := Lib.hid (HB5.out.trans (hb6.mono HB5.out.size))
                have hq := HFI.out.failed HWE.out x HXH.out (fullB 0) (fullB_len _)
                have hd5 := HFI5.out.2 (by first | trivial | rfl)
                have hrd := cdread_any w6 d 8 L5 D5 HC6.out (x : Int)
                rw [hd5, hq.2.1, hq.2.2.1, ← HEQ.out.2.1] at hrd
                have HRD := Lib.hid hrd
                have hwt6 : D5.waits.length = wl := by rw [hd5, hq.2.2.2, ← HEQ.out.2.2]
                have HWT := Lib.hid hwt6
                have hob6 := HOB5.out.call hb6
                have d1 := hob6.c1
                have HR6 := Lib.hid (HR5.out.go hb6)
                clear hb6 hq hd5 hrd hwt6 HDW
                go_wp2_with fail
                refine HRD.out.mono ?_
                rintro e w7 ⟨v, rfl, ho7, hb7⟩
                obtain ⟨A7, c7, rfl, _, hr7⟩ := Rd.of_own8 ho7
                have s1 := run_str (P := Try.prog) 34 9 5 Try.underlying34 Try.underlying5 Try.underlying9 (rfl : rb.length = rb.length) c7 hr7
                have s2 := run_str (P := Try.prog) 34 9 5 Try.underlying34 Try.underlying5 Try.underlying9 (rfl : rb.length = rb.length) c1 (HR6.out.go hb7)
                have HC7 := Lib.hid (HC6.out.call hb7)
                have HB7 := Lib.hid (HB6.out.trans (hb7.mono HB6.out.size))
                have hcw := cdwaiting_any w7 d 8 L5 D5 HC7.out (by rw [HWT.out]; omega)
                rw [HWT.out] at hcw
                have HCW := Lib.hid hcw; clear hcw ho7 hb7 hr7 d1 hob6
                go_wp2_with fail
                refine HCW.out.mono ?_
                rintro e w8 ⟨rfl, hb8⟩
                have HC8 := Lib.hid (HC7.out.call hb8)
                have HB8 := Lib.hid (HB7.out.trans (hb8.mono HB7.out.size))
                clear s1 s2 hb8
                go_wp2_with fail
                go_roundw
                case rel => exact ⟨j + 1, L5, D5, by omega, by go_num, HC8.out, HL5.out, HB8.out, HFI5.out.1⟩
                case measure => simp [intOf]; omega
              · clear hcut
                have hdw := cddown_any w5 d 8 L5 D5 HC5.out
                rw [show D5.down = false from by rw [HFI5.out.1.d]; first | (rw [decide_eq_true_eq]; omega) | (rw [decide_eq_false_iff_not]; omega)] at hdw
                have HDW := Lib.hid hdw; clear hdw
                go_wp2_with fail
                refine HDW.out.mono ?_
                rintro e w6 ⟨rfl, hb6⟩
                have HC6 := Lib.hid (HC5.out.call hb6)
                have HB6 := Lib.hid (HB5.out.trans (hb6.mono HB5.out.size))
                have hq := HFI.out.failed HWE.out x HXH.out (fullB 0) (fullB_len _)
                have hd5 := HFI5.out.2 (by first | trivial | rfl)
                have hrd := cdread_any w6 d 8 L5 D5 HC6.out (x : Int)
                rw [hd5, hq.2.1, hq.2.2.1, ← HEQ.out.2.1] at hrd
                have HRD := Lib.hid hrd
                have hwt6 : D5.waits.length = wl := by rw [hd5, hq.2.2.2, ← HEQ.out.2.2]
                have HWT := Lib.hid hwt6
                have hob6 := HOB5.out.call hb6
                have d1 := hob6.c1
                have HR6 := Lib.hid (HR5.out.go hb6)
                clear hb6 hq hd5 hrd hwt6 HDW
                go_wp2_with fail
                refine HRD.out.mono ?_
                rintro e w7 ⟨v, rfl, ho7, hb7⟩
                obtain ⟨A7, c7, rfl, _, hr7⟩ := Rd.of_own8 ho7
                have s1 := run_str (P := Try.prog) 34 9 5 Try.underlying34 Try.underlying5 Try.underlying9 (rfl : rb.length = rb.length) c7 hr7
                have s2 := run_str (P := Try.prog) 34 9 5 Try.underlying34 Try.underlying5 Try.underlying9 (rfl : rb.length = rb.length) c1 (HR6.out.go hb7)
                have HC7 := Lib.hid (HC6.out.call hb7)
                have HB7 := Lib.hid (HB6.out.trans (hb7.mono HB6.out.size))
                have hcw := cdwaiting_any w7 d 8 L5 D5 HC7.out (by rw [HWT.out]; omega)
                rw [HWT.out] at hcw
                have HCW := Lib.hid hcw; clear hcw ho7 hb7 hr7 d1 hob6
                go_wp2_with fail
                refine HCW.out.mono ?_
                rintro e w8 ⟨rfl, hb8⟩
                have HC8 := Lib.hid (HC7.out.call hb8)
                have HB8 := Lib.hid (HB7.out.trans (hb8.mono HB7.out.size))
                clear s1 s2 hb8
                go_wp2_with fail
                go_roundw
                case rel => exact ⟨j + 1, L5, D5, by omega, by go_num, HC8.out, HL5.out, HB8.out, HFI5.out.1⟩
                case measure => simp [intOf]; omega
            · have hEv : E = 0 := by rw [HEQ.out.1]; unfold wantE; rw [if_neg hcut, if_neg h1]
              subst hEv
              by_cases k0 : 0 ≤ ct
              · have k1 : ¬ ct ≤ (j : Int) := fun h => hcut ⟨k0, h⟩
                clear hcut
                have hdw := cddown_any w5 d 8 L5 D5 HC5.out
                rw [show D5.down = false from by rw [HFI5.out.1.d]; first | (rw [decide_eq_true_eq]; omega) | (rw [decide_eq_false_iff_not]; omega)] at hdw
                have HDW := Lib.hid hdw; clear hdw
                go_wp2_with fail
                refine HDW.out.mono ?_
                rintro e w6 ⟨rfl, hb6⟩
                have HC6 := Lib.hid (HC5.out.call hb6)
                have HB6 := Lib.hid (HB5.out.trans (hb6.mono HB5.out.size))
                go_wp2_with fail
                go_roundw
                case rel => exact ⟨j + 1, L5, D5, by omega, by go_num, HC6.out, HL5.out, HB6.out, HFI5.out.1⟩
                case measure => simp [intOf]; omega
              · clear hcut
                have hdw := cddown_any w5 d 8 L5 D5 HC5.out
                rw [show D5.down = false from by rw [HFI5.out.1.d]; first | (rw [decide_eq_true_eq]; omega) | (rw [decide_eq_false_iff_not]; omega)] at hdw
                have HDW := Lib.hid hdw; clear hdw
                go_wp2_with fail
                refine HDW.out.mono ?_
                rintro e w6 ⟨rfl, hb6⟩
                have HC6 := Lib.hid (HC5.out.call hb6)
                have HB6 := Lib.hid (HB5.out.trans (hb6.mono HB5.out.size))
                go_wp2_with fail
                go_roundw
                case rel => exact ⟨j + 1, L5, D5, by omega, by go_num, HC6.out, HL5.out, HB6.out, HFI5.out.1⟩
                case measure => simp [intOf]; omega
      · have hji : ¬ (j : Int) < (len : Int) := by omega
        have hjn : j = len := by omega
        have hs := HFI.out.s
        obtain ⟨dn, hdn⟩ : ∃ dn, dn = if 0 ≤ ct ∧ ct < (j : Int) then ct.toNat else j := ⟨_, rfl⟩
        rw [← hdn] at hs
        have hst := cdsteps_any wr d 8 L D HC.out
        rw [hs] at hst
        have hdb : dn ≤ 1000 := by rw [hdn]; split <;> omega
        have hu : IntKind.u64.wrap (dn : Int) = (dn : Int) := IntWalk.u64_in _ (by omega)
        clear hs
        by_cases k0 : 0 ≤ ct
        · by_cases k1 : (len : Int) ≤ ct
          · have hdl : (dn : Int) = (len : Int) := by rw [hdn, if_neg (by omega), hjn]
            rw [hdl] at hu hst
            have HST := Lib.hid hst; clear hst
            clear hdn hdb hjn hdl
            go_wp2_with fail
            refine HST.out.mono ?_
            rintro e wy ⟨rfl, hby⟩
            have HBY := Lib.hid (HB.out.trans (hby.mono HB.out.size)); clear hby
            go_wp2_with fail
            refine (known08_any _).mono ?_
            rintro e wk ⟨rfl, hbk⟩
            go_wp2_with fail
            go_ret
            exact ⟨rfl, HBY.out.trans (hbk.mono HBY.out.size)⟩
          · have hdl : (dn : Int) = ct := by rw [hdn, if_pos ⟨k0, by omega⟩]; omega
            have k2 : ct < (len : Int) := by omega
            rw [hdl] at hu hst
            have HST := Lib.hid hst; clear hst
            clear hdn hdb hjn hdl
            go_wp2_with fail
            refine HST.out.mono ?_
            rintro e wy ⟨rfl, hby⟩
            have HBY := Lib.hid (HB.out.trans (hby.mono HB.out.size)); clear hby
            go_wp2_with fail
            refine (known08_any _).mono ?_
            rintro e wk ⟨rfl, hbk⟩
            go_wp2_with fail
            go_ret
            exact ⟨rfl, HBY.out.trans (hbk.mono HBY.out.size)⟩
        · have hdl : (dn : Int) = (len : Int) := by rw [hdn, if_neg (fun h => k0 h.1), hjn]
          rw [hdl] at hu hst
          have HST := Lib.hid hst; clear hst
          clear hdn hdb hjn hdl
          go_wp2_with fail
          refine HST.out.mono ?_
          rintro e wy ⟨rfl, hby⟩
          have HBY := Lib.hid (HB.out.trans (hby.mono HB.out.size)); clear hby
          go_wp2_with fail
          refine (known08_any _).mono ?_
          rintro e wk ⟨rfl, hbk⟩
          go_wp2_with fail
          go_ret
          exact ⟨rfl, HBY.out.trans (hbk.mono HBY.out.size)⟩
set_option maxRecDepth 100000 in
theorem nfails_lifted (os : Os) (started : os.Started) (H : Type) (enc : TypeId × Value → H) :
    ReturnsInHanded {} Try.checked os 7 .any (Rows.diskFailsSpec.pre6 enc Try.prog Try.f7 Rows.diskFailsRow.domain false) (Rows.diskFailsSpec.post enc Try.prog Try.f7 false true false false) := by
  refine returnsInHanded_of_change_sized (C := Try.checked) Try.own started (by kernel_rfl) Try.func7
    (ChangeSpec.witness6 (enc := enc) (C := Try.checked) false ⟨#[], #[.slice none 0 0, .int .i64 0, .int .i64 0], []⟩ 8 (by kernel_rfl) (by kernel_rfl) (by kernel_rfl) (by kernel_rfl)) ?_
  intro W base args ds gs before hval0 hW _ hsz0 _
  have hsz : (DataW.weightsEach Try.prog (Try.f7.params.toList ++ Rows.diskFailsSpec.plain.varTypes Try.prog) (ds ++ gs)).all (· ≤ reachBytes) = true := hsz0
  have hval : ∀ (j : Nat) t v, Try.f7.params[j]? = some t → args[j]? = some v → Value.okWide Try.prog W .any base t v := hval0
  have hW' := hW
  obtain ⟨p, q, hA0, hV, rfl, _, _⟩ := hW
  have hA : DataW.TrodAll enc Try.prog W 0 (fun _ => true) true Try.f7.params.toList args.toList ds p := hA0
  rw [Try.params7] at hA hval hsz
  have hlt := hW'.lt
  clear hA0 hval0 hsz0
  obtain ⟨v0, vs0, d0, ds0, p0, q0, hv0, rfl, rfl, h0, r0⟩ := trodAll_cons hA
  obtain ⟨v1, vs1, d1, ds1, p1, q1, hv1, rfl, rfl, h1, r1⟩ := trodAll_cons r0
  subst hv1
  obtain ⟨v2, vs2, d2, ds2, p2, q2, hv2, rfl, rfl, h2, r2⟩ := trodAll_cons r1
  subst hv2
  obtain ⟨rfl, rfl, rfl⟩ := trodAll_nil r2
  obtain rfl : args = #[v0, v1, v2] := by cases args; simp_all
  obtain ⟨rfl, rfl⟩ := trodVars_none hV
  obtain ⟨A0, len0, cap0, rfl, le0, hs0⟩ := open_structsW Try.underlying22 Try.underlying36 (by kernel_rfl) (by kernel_rfl) (hval 0 22 v0 rfl rfl) h0 (fun m hm => by have := List.all_eq_true.1 hsz m (DataW.weights_mem_each (j := 0) (t := 22) rfl rfl m hm); simpa using this) (of_decide_eq_true (by kernel_rfl))
  obtain ⟨O0, hk0⟩ := structs_op Try.underlying3 Try.underlying3 Try.underlying3 Try.underlying34 Try.underlying34 Try.underlying5 Try.cellsU8 Try.bytesU8 hs0
  obtain ⟨a1, rfl, rfl, rfl, w1⟩ := open_int Try.underlying3 (hval 1 3 v1 rfl rfl) h1
  have b1 : -9223372036854775808 ≤ a1 ∧ a1 ≤ 9223372036854775807 := by simpa [Lit.wf, IntKind.min, IntKind.max, IntKind.signed, IntKind.bits] using w1
  obtain ⟨a2, rfl, rfl, rfl, w2⟩ := open_int Try.underlying3 (hval 2 3 v2 rfl rfl) h2
  have b2 : -9223372036854775808 ≤ a2 ∧ a2 ≤ 9223372036854775807 := by simpa [Lit.wf, IntKind.min, IntKind.max, IntKind.signed, IntKind.bits] using w2
  refine (nfails_any A0 len0 cap0 O0 a1 a2 W (by unfold reachBytes at le0; omega) hk0 b1 b2).mono fun e W' ⟨he, hb⟩ => ⟨_, he, ?_⟩
  exact law_post 4 Try.underlying4 (by kernel_rfl) rfl Try.laidOut (by kernel_rfl) hW' ⟨rfl, rfl, rfl⟩ hb

theorem nfails_holds : Rows.DiskFailsSaid :=
  OpenClaim.holds_of_wide 7 Try.f7 rfl rfl rfl rfl rfl rfl rfl ⟨rfl, rfl, rfl, rfl, rfl⟩ rfl rfl rfl rfl rfl (by kernel_rfl) Try.func7 (by kernel_rfl)
    (of_decide_eq_true (by kernel_rfl)) (by unfold Func.isWrapper; first | (rw [if_pos (by decide +kernel)]; kernel_rfl) | (rw [if_neg (by decide +kernel)]; exact ⟨rfl, rfl⟩))
    (fun os started H enc _ => nfails_lifted os started H enc)
end Go.Proofs.Ytajplflefagbaaa
