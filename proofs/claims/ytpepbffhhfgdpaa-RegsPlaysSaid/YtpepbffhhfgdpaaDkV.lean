/-
  Both devices are asked the same (layer 8): Does, kind by kind. (Printed by wip/gen/dkdoes.py.)
-/
import Derived.Test.YtpepbffhhfgdpaaFoldD
import Derived.Deep.RegionHeld3
namespace Go.Proofs.Ytpepbffhhfgdpaa
open Go Go.RowKit
set_option linter.unusedVariables false
set_option linter.unusedSimpArgs false

set_option maxRecDepth 100000 in
set_option maxHeartbeats 16000000 in
theorem does_other (w : World) (d p n : Nat) (Lc L : Nat → Prop) (D : Dev) (o : OpV) (hP : Pair w d p Lc L n D) (ho : o.Ok w) (hB : Aside Lc L o.B o.bl) (hM : Aside Lc L o.M o.ml) (hnn : n ≤ 4096) (hm : D.load ≤ 900000) (hk : ¬ o.k = 1 ∧ ¬ o.k = 10 ∧ ¬ o.k = 2 ∧ ¬ o.k = 3 ∧ ¬ o.k = 4 ∧ ¬ o.k = 5 ∧ ¬ o.k = 6 ∧ ¬ o.k = 7 ∧ ¬ o.k = 8 ∧ ¬ o.k = 9) :
    Calls Try.prog 21 #[.pointer (some ⟨d, 0, none⟩), .pointer (some ⟨p, 0, none⟩), .agg (opA o)] w (DoesR w p n Lc L D.load (fun x => o.k ≠ 9 → x = d)) := by
  have hB0 : Below w.heap.size w (w.alloc (.cells (opA o) 41)) := (Below.refl _ _).alloc (Nat.le_refl _) _
  have hOb : Ob (w.alloc (.cells (opA o) 41)) w.heap.size o := heap_alloc_new _ _
  have hP0 := hP.call hB0
  have hob1 : ¬ Lc w.heap.size := fun h => Nat.lt_irrefl _ (hP.c.lt _ h)
  have hob2 : ¬ L w.heap.size := fun h => Nat.lt_irrefl _ (hP.r.lt _ h)
  have hRB := ho.hb.1.go hB0
  have hRM := ho.hm.1.go hB0
  have hsz0 : w.heap.size < (w.alloc (.cells (opA o) 41)).heap.size := hOb.lt
  go_enter Try.func21, Try.ntmps21
  go_upto_region 1 with fail
  generalize w.alloc (.cells (opA o) 41) = w0 at *
  have HP := Lib.hid hP0; clear hP0 hP
  have HOB := Lib.hid hOb
  have HB0 := Lib.hid hB0; clear hB0
  have HRB := Lib.hid hRB; clear hRB
  have HRM := Lib.hid hRM; clear hRM
  have HASB := Lib.hid hB; clear hB
  have HASM := Lib.hid hM; clear hM
  have HO := Lib.hid ho; clear ho
  have HN := Lib.hid (And.intro hnn (And.intro hm (And.intro hob1 (And.intro hob2 hsz0)))); clear hnn hm hob1 hob2 hsz0
  obtain ⟨k1, k2, k3, k4, k5, k6, k7, k8, k9, k10⟩ := hk
  have d0 := hOb.c0

  clear hOb
  go_upto_region 45 with fail
  clear d0 k1 k2 k3 k4 k5 k6 k7 k8 k9 k10
  have HR0 : Hid (Ours w0 Lc L Lc L ∧ Keep (fun b => Lc b ∨ L b) w0 w0) := Lib.hid ⟨fun b h => h.imp id .inl, Keep.refl _ _⟩
  have d1 := HOB.out.c1
  by_cases h1 : hasB n o.i = true
  · obtain ⟨i0, i1⟩ := (hasB_iff n o.i).1 h1
    obtain ⟨k, hki⟩ : ∃ k : Nat, o.i = (k : Int) := ⟨o.i.toNat, by omega⟩
    have hkn : k < n := by omega
    obtain ⟨l, hl⟩ : ∃ l, l = (D).firm.getD k [] := ⟨_, rfl⟩
    have hcf := cdfirm_any w0 d n _ _ HP.out.c o.i
    rw [show Dev.firmE n o.i = 0 from by unfold Dev.firmE; rw [if_pos h1], show Dev.firmB (D) n o.i = l from by unfold Dev.firmB; rw [if_pos h1, hki, hl]; rfl] at hcf
    have hll : l.length = 256 := by rw [hl]; exact HP.out.c.ok.fr k hkn
    rw [hll] at hcf
    have hhas := fun wb (LX : Nat → Prop) (hr : RD wb p LX n (D)) => rdhas_any wb p n LX (D) o.i hr
    rw [h1] at hhas
    have HHAS := Lib.hid hhas; clear hhas
    have HCF := Lib.hid hcf; clear hcf
    have HL := Lib.hid (And.intro hl hll); clear hl hll
    have HKI := Lib.hid hki; clear hki
    clear i0 i1 h1
    go_wp2_with fail
    refine HCF.out.mono ?_
    rintro e wb ⟨v, rfl, ho1, hb1⟩
    obtain ⟨A1, c1, rfl, _, hr1⟩ := Rd.of_own8 ho1
    have HPB := Lib.hid (HP.out.call hb1)
    have hobb := HOB.out.call hb1
    have HKB := Lib.hid (HR0.out.2.call hb1)
    clear d1 ho1 hb1
    have d1 := hobb.c1
    go_wp2_with fail
    refine (HHAS.out wb _ HPB.out.r).mono ?_
    rintro e wc ⟨rfl, ew⟩
    have ew := ew.symm
    subst ew
    obtain ⟨S, hrs⟩ := HPB.out.r
    rw [HKI.out] at d1
    have f1 := hrs.c1
    have f2 := hrs.sf.cellAt k hkn
    have f3 := (hrs.rf k hkn).rd
    rw [← HL.out.1] at f3
    have hsm : ∀ m : Nat, Calls Try.prog 20 #[.slice A1 256 c1, .slice (some ⟨S.h k, 0, none⟩) 256 (S.ch k)] (wb.drewN m) fun e w' => e = .returned (.bool true) ∧ w' = wb.drewN m := fun m => by
      have := rsamev_any A1 (some ⟨S.h k, 0, none⟩) l l 256 256 c1 (S.ch k) HL.out.2 HL.out.2 (wb.drewN m) (hr1.drewN m) (f3.drewN m)
      rwa [show (l == l) = true from by simp] at this
    have HSM := Lib.hid hsm; clear hsm f3 hr1 hrs
    have hkni : (k : Int) < (n : Int) := by omega
    generalize S.h k = hk' at *
    generalize S.ch k = hc' at *
    generalize S.bf = bf at *
    generalize S.cf = cf at *
    clear S
    go_upto_region 48 with fail
    go_quiet (refine Calls.quiet_of_same (HSM.out _))
    have HF := Lib.hid (And.intro (HPB.out.call (bdrewN (Below.refl _ _) nq)) (And.intro HR0.out.1 (And.intro (HKB.out.drewN nq) (Nat.le_succ D.load)))); clear d1 f1 f2 HSM hobb
    generalize wb.drewN nq = wz at *
    go_wp2_with fail
    go_ret2
    exact doesR_of HB0.out HF.out.1 HF.out.2.1 HF.out.2.2.1 HF.out.2.2.2 (fun _ => rfl)
  · have h2 : hasB n o.i = false := by simpa using h1
    have hcf := cdfirm_any w0 d n _ _ HP.out.c o.i
    rw [show Dev.firmE n o.i = 2 from by unfold Dev.firmE; rw [if_neg h1], show Dev.firmB (D) n o.i = [] from by unfold Dev.firmB; rw [if_neg h1]] at hcf
    have hhas := fun wb (LX : Nat → Prop) (hr : RD wb p LX n (D)) => rdhas_any wb p n LX (D) o.i hr
    rw [h2] at hhas
    have HHAS := Lib.hid hhas; clear hhas
    have HCF := Lib.hid hcf; clear hcf
    clear h1 h2
    go_wp2_with fail
    refine HCF.out.mono ?_
    rintro e wb ⟨v, rfl, ho1, hb1⟩
    obtain ⟨A1, c1, rfl, _, _⟩ := Rd.of_own8 ho1
    rw [show ([] : List UInt8).length = 0 from rfl]
    have HPB := Lib.hid (HP.out.call hb1)
    have hobb := HOB.out.call hb1
    have HKB := Lib.hid (HR0.out.2.call hb1)
    clear d1 ho1 hb1
    have d1 := hobb.c1
    go_wp2_with fail
    refine (HHAS.out wb _ HPB.out.r).mono ?_
    rintro e wc ⟨rfl, ew⟩
    have ew := ew.symm
    subst ew
    have HF := Lib.hid (And.intro HPB.out (And.intro HR0.out.1 (And.intro HKB.out (Nat.le_succ D.load))))
    go_wp2_with fail
    go_ret2
    exact doesR_of HB0.out HF.out.1 HF.out.2.1 HF.out.2.2.1 HF.out.2.2.2 (fun _ => rfl)
set_option maxRecDepth 100000 in
set_option maxHeartbeats 16000000 in
theorem does_fail (w : World) (d p n : Nat) (Lc L : Nat → Prop) (D : Dev) (o : OpV) (hP : Pair w d p Lc L n D) (ho : o.Ok w) (hB : Aside Lc L o.B o.bl) (hM : Aside Lc L o.M o.ml) (hnn : n ≤ 4096) (hm : D.load ≤ 900000) (hk : o.k = 5) :
    Calls Try.prog 21 #[.pointer (some ⟨d, 0, none⟩), .pointer (some ⟨p, 0, none⟩), .agg (opA o)] w (DoesR w p n Lc L D.load (fun x => o.k ≠ 9 → x = d)) := by
  have hB0 : Below w.heap.size w (w.alloc (.cells (opA o) 41)) := (Below.refl _ _).alloc (Nat.le_refl _) _
  have hOb : Ob (w.alloc (.cells (opA o) 41)) w.heap.size o := heap_alloc_new _ _
  have hP0 := hP.call hB0
  have hob1 : ¬ Lc w.heap.size := fun h => Nat.lt_irrefl _ (hP.c.lt _ h)
  have hob2 : ¬ L w.heap.size := fun h => Nat.lt_irrefl _ (hP.r.lt _ h)
  have hRB := ho.hb.1.go hB0
  have hRM := ho.hm.1.go hB0
  have hsz0 : w.heap.size < (w.alloc (.cells (opA o) 41)).heap.size := hOb.lt
  go_enter Try.func21, Try.ntmps21
  go_upto_region 1 with fail
  generalize w.alloc (.cells (opA o) 41) = w0 at *
  have HP := Lib.hid hP0; clear hP0 hP
  have HOB := Lib.hid hOb
  have HB0 := Lib.hid hB0; clear hB0
  have HRB := Lib.hid hRB; clear hRB
  have HRM := Lib.hid hRM; clear hRM
  have HASB := Lib.hid hB; clear hB
  have HASM := Lib.hid hM; clear hM
  have HO := Lib.hid ho; clear ho
  have HN := Lib.hid (And.intro hnn (And.intro hm (And.intro hob1 (And.intro hob2 hsz0)))); clear hnn hm hob1 hob2 hsz0
  have d0 := hOb.c0
  rw [hk] at d0
  clear hk hOb
  go_upto_region 29 with fail
  clear d0
  have d1 := HOB.out.c1
  go_wp2_with fail
  clear d1
  refine (cdfail_any w0 d n Lc D HP.out.c o.i HO.out.hi).mono ?_
  rintro e w1 ⟨rfl, hc1, hk1⟩
  obtain ⟨hr1, hdis1⟩ := HP.out.code hc1 hk1
  obtain ⟨S, hr1⟩ := hr1
  have hlp := hr1.lp.1
  have hob1 := HOB.out.keep hk1 HN.out.2.2.1
  have HR1 := Lib.hid hr1; clear hr1
  have HC1 := Lib.hid (And.intro hc1 (And.intro hk1 hdis1)); clear hc1 hk1 hdis1
  have d1 := hob1.c1
  have f4 := HR1.out.c4
  have ff := HR1.out.free 4
  have hmx : ((o.i.toNat : Nat) : Int) = if o.i < 0 then 0 else o.i := by split <;> omega
  go_upto_region 45 with fail
  have h2 : RDs S (w1.setCell ⟨p, 4, none⟩ (.int .i64 (if o.i < 0 then 0 else o.i))) p L n (D.setFail o.i) := by rw [← hmx]; exact HR1.out.setFail o.i.toNat (by have := HO.out.hi.2; omega)
  have k2 : Keep L w1 (w1.setCell ⟨p, 4, none⟩ (.int .i64 (if o.i < 0 then 0 else o.i))) := (Keep.refl _ _).setCell (a := ⟨p, 4, none⟩) (fun _ => hlp) _
  have hz2 : (w1.setCell ⟨p, 4, none⟩ (.int .i64 (if o.i < 0 then 0 else o.i))).heap.size = w1.heap.size := World.size_setCell _ _ _
  have r2 : RD (w1.setCell ⟨p, 4, none⟩ (.int .i64 (if o.i < 0 then 0 else o.i))) p (ext L w1 (w1.setCell ⟨p, 4, none⟩ (.int .i64 (if o.i < 0 then 0 else o.i)))) n (D.setFail o.i) := ⟨S, h2.more (fun b h => .inl h) (fun b h => h.elim (h2.lt b) (fun h => h.2))⟩
  clear h2 f4 ff d1 hmx hz2
  have hob2 := hob1.keep k2 HN.out.2.2.2.1
  generalize w1.setCell ⟨p, 4, none⟩ (.int .i64 (if o.i < 0 then 0 else o.i)) = w2 at *
  generalize (if o.i < 0 then 0 else o.i) = mx at *
  obtain ⟨hP2, hO2, hK2⟩ := HP.out.both HC1.out.1 HC1.out.2.1 r2 k2
  have HP2 := Lib.hid hP2
  have HR2 := Lib.hid (And.intro hO2 hK2)
  have HOB2 := Lib.hid hob2
  clear hP2 hO2 hK2 hob2 hob1 r2 k2 HC1 HR1
  have d1 := HOB2.out.c1
  by_cases h1 : hasB n o.i = true
  · obtain ⟨i0, i1⟩ := (hasB_iff n o.i).1 h1
    obtain ⟨k, hki⟩ : ∃ k : Nat, o.i = (k : Int) := ⟨o.i.toNat, by omega⟩
    have hkn : k < n := by omega
    obtain ⟨l, hl⟩ : ∃ l, l = (D.setFail o.i).firm.getD k [] := ⟨_, rfl⟩
    have hcf := cdfirm_any w2 d n _ _ HP2.out.c o.i
    rw [show Dev.firmE n o.i = 0 from by unfold Dev.firmE; rw [if_pos h1], show Dev.firmB (D.setFail o.i) n o.i = l from by unfold Dev.firmB; rw [if_pos h1, hki, hl]; rfl] at hcf
    have hll : l.length = 256 := by rw [hl]; exact HP2.out.c.ok.fr k hkn
    rw [hll] at hcf
    have hhas := fun wb (LX : Nat → Prop) (hr : RD wb p LX n (D.setFail o.i)) => rdhas_any wb p n LX (D.setFail o.i) o.i hr
    rw [h1] at hhas
    have HHAS := Lib.hid hhas; clear hhas
    have HCF := Lib.hid hcf; clear hcf
    have HL := Lib.hid (And.intro hl hll); clear hl hll
    have HKI := Lib.hid hki; clear hki
    clear i0 i1 h1
    go_wp2_with fail
    refine HCF.out.mono ?_
    rintro e wb ⟨v, rfl, ho1, hb1⟩
    obtain ⟨A1, c1, rfl, _, hr1⟩ := Rd.of_own8 ho1
    have HPB := Lib.hid (HP2.out.call hb1)
    have hobb := HOB2.out.call hb1
    have HKB := Lib.hid (HR2.out.2.call hb1)
    clear d1 ho1 hb1
    have d1 := hobb.c1
    go_wp2_with fail
    refine (HHAS.out wb _ HPB.out.r).mono ?_
    rintro e wc ⟨rfl, ew⟩
    have ew := ew.symm
    subst ew
    obtain ⟨S, hrs⟩ := HPB.out.r
    rw [HKI.out] at d1
    have f1 := hrs.c1
    have f2 := hrs.sf.cellAt k hkn
    have f3 := (hrs.rf k hkn).rd
    rw [← HL.out.1] at f3
    have hsm : ∀ m : Nat, Calls Try.prog 20 #[.slice A1 256 c1, .slice (some ⟨S.h k, 0, none⟩) 256 (S.ch k)] (wb.drewN m) fun e w' => e = .returned (.bool true) ∧ w' = wb.drewN m := fun m => by
      have := rsamev_any A1 (some ⟨S.h k, 0, none⟩) l l 256 256 c1 (S.ch k) HL.out.2 HL.out.2 (wb.drewN m) (hr1.drewN m) (f3.drewN m)
      rwa [show (l == l) = true from by simp] at this
    have HSM := Lib.hid hsm; clear hsm f3 hr1 hrs
    have hkni : (k : Int) < (n : Int) := by omega
    generalize S.h k = hk' at *
    generalize S.ch k = hc' at *
    generalize S.bf = bf at *
    generalize S.cf = cf at *
    clear S
    go_upto_region 48 with fail
    go_quiet (refine Calls.quiet_of_same (HSM.out _))
    have HF := Lib.hid (And.intro (HPB.out.call (bdrewN (Below.refl _ _) nq)) (And.intro HR2.out.1 (And.intro (HKB.out.drewN nq) (Nat.le_succ D.load)))); clear d1 f1 f2 HSM hobb
    generalize wb.drewN nq = wz at *
    go_wp2_with fail
    go_ret2
    exact doesR_of HB0.out HF.out.1 HF.out.2.1 HF.out.2.2.1 HF.out.2.2.2 (fun _ => rfl)
  · have h2 : hasB n o.i = false := by simpa using h1
    have hcf := cdfirm_any w2 d n _ _ HP2.out.c o.i
    rw [show Dev.firmE n o.i = 2 from by unfold Dev.firmE; rw [if_neg h1], show Dev.firmB (D.setFail o.i) n o.i = [] from by unfold Dev.firmB; rw [if_neg h1]] at hcf
    have hhas := fun wb (LX : Nat → Prop) (hr : RD wb p LX n (D.setFail o.i)) => rdhas_any wb p n LX (D.setFail o.i) o.i hr
    rw [h2] at hhas
    have HHAS := Lib.hid hhas; clear hhas
    have HCF := Lib.hid hcf; clear hcf
    clear h1 h2
    go_wp2_with fail
    refine HCF.out.mono ?_
    rintro e wb ⟨v, rfl, ho1, hb1⟩
    obtain ⟨A1, c1, rfl, _, _⟩ := Rd.of_own8 ho1
    rw [show ([] : List UInt8).length = 0 from rfl]
    have HPB := Lib.hid (HP2.out.call hb1)
    have hobb := HOB2.out.call hb1
    have HKB := Lib.hid (HR2.out.2.call hb1)
    clear d1 ho1 hb1
    have d1 := hobb.c1
    go_wp2_with fail
    refine (HHAS.out wb _ HPB.out.r).mono ?_
    rintro e wc ⟨rfl, ew⟩
    have ew := ew.symm
    subst ew
    have HF := Lib.hid (And.intro HPB.out (And.intro HR2.out.1 (And.intro HKB.out (Nat.le_succ D.load))))
    go_wp2_with fail
    go_ret2
    exact doesR_of HB0.out HF.out.1 HF.out.2.1 HF.out.2.2.1 HF.out.2.2.2 (fun _ => rfl)
set_option maxRecDepth 100000 in
set_option maxHeartbeats 16000000 in
theorem does_cut (w : World) (d p n : Nat) (Lc L : Nat → Prop) (D : Dev) (o : OpV) (hP : Pair w d p Lc L n D) (ho : o.Ok w) (hB : Aside Lc L o.B o.bl) (hM : Aside Lc L o.M o.ml) (hnn : n ≤ 4096) (hm : D.load ≤ 900000) (hk : o.k = 6) :
    Calls Try.prog 21 #[.pointer (some ⟨d, 0, none⟩), .pointer (some ⟨p, 0, none⟩), .agg (opA o)] w (DoesR w p n Lc L D.load (fun x => o.k ≠ 9 → x = d)) := by
  have hB0 : Below w.heap.size w (w.alloc (.cells (opA o) 41)) := (Below.refl _ _).alloc (Nat.le_refl _) _
  have hOb : Ob (w.alloc (.cells (opA o) 41)) w.heap.size o := heap_alloc_new _ _
  have hP0 := hP.call hB0
  have hob1 : ¬ Lc w.heap.size := fun h => Nat.lt_irrefl _ (hP.c.lt _ h)
  have hob2 : ¬ L w.heap.size := fun h => Nat.lt_irrefl _ (hP.r.lt _ h)
  have hRB := ho.hb.1.go hB0
  have hRM := ho.hm.1.go hB0
  have hsz0 : w.heap.size < (w.alloc (.cells (opA o) 41)).heap.size := hOb.lt
  go_enter Try.func21, Try.ntmps21
  go_upto_region 1 with fail
  generalize w.alloc (.cells (opA o) 41) = w0 at *
  have HP := Lib.hid hP0; clear hP0 hP
  have HOB := Lib.hid hOb
  have HB0 := Lib.hid hB0; clear hB0
  have HRB := Lib.hid hRB; clear hRB
  have HRM := Lib.hid hRM; clear hRM
  have HASB := Lib.hid hB; clear hB
  have HASM := Lib.hid hM; clear hM
  have HO := Lib.hid ho; clear ho
  have HN := Lib.hid (And.intro hnn (And.intro hm (And.intro hob1 (And.intro hob2 hsz0)))); clear hnn hm hob1 hob2 hsz0
  have d0 := hOb.c0
  rw [hk] at d0
  clear hk hOb
  go_upto_region 32 with fail
  clear d0
  have d1 := HOB.out.c1
  go_wp2_with fail
  clear d1
  refine (cdcut_any w0 d n Lc D HP.out.c o.i HO.out.hi).mono ?_
  rintro e w1 ⟨rfl, hc1, hk1⟩
  obtain ⟨hr1, hdis1⟩ := HP.out.code hc1 hk1
  obtain ⟨S, hr1⟩ := hr1
  have hlp := hr1.lp.1
  have hob1 := HOB.out.keep hk1 HN.out.2.2.1
  have HR1 := Lib.hid hr1; clear hr1
  have HC1 := Lib.hid (And.intro hc1 (And.intro hk1 hdis1)); clear hc1 hk1 hdis1
  have d1 := hob1.c1
  have f4 := HR1.out.c5
  have ff := HR1.out.free 5
  have hmx : max o.i (-1) = if o.i < -1 then -1 else o.i := by split <;> omega
  go_upto_region 45 with fail
  have h2 : RDs S (w1.setCell ⟨p, 5, none⟩ (.int .i64 (if o.i < -1 then -1 else o.i))) p L n (D.setCut o.i) := by rw [← hmx]; exact HR1.out.setCut (max o.i (-1)) ⟨by omega, by have := HO.out.hi.2; omega⟩
  have k2 : Keep L w1 (w1.setCell ⟨p, 5, none⟩ (.int .i64 (if o.i < -1 then -1 else o.i))) := (Keep.refl _ _).setCell (a := ⟨p, 5, none⟩) (fun _ => hlp) _
  have hz2 : (w1.setCell ⟨p, 5, none⟩ (.int .i64 (if o.i < -1 then -1 else o.i))).heap.size = w1.heap.size := World.size_setCell _ _ _
  have r2 : RD (w1.setCell ⟨p, 5, none⟩ (.int .i64 (if o.i < -1 then -1 else o.i))) p (ext L w1 (w1.setCell ⟨p, 5, none⟩ (.int .i64 (if o.i < -1 then -1 else o.i)))) n (D.setCut o.i) := ⟨S, h2.more (fun b h => .inl h) (fun b h => h.elim (h2.lt b) (fun h => h.2))⟩
  clear h2 f4 ff d1 hmx hz2
  have hob2 := hob1.keep k2 HN.out.2.2.2.1
  generalize w1.setCell ⟨p, 5, none⟩ (.int .i64 (if o.i < -1 then -1 else o.i)) = w2 at *
  generalize (if o.i < -1 then -1 else o.i) = mx at *
  obtain ⟨hP2, hO2, hK2⟩ := HP.out.both HC1.out.1 HC1.out.2.1 r2 k2
  have HP2 := Lib.hid hP2
  have HR2 := Lib.hid (And.intro hO2 hK2)
  have HOB2 := Lib.hid hob2
  clear hP2 hO2 hK2 hob2 hob1 r2 k2 HC1 HR1
  have d1 := HOB2.out.c1
  by_cases h1 : hasB n o.i = true
  · obtain ⟨i0, i1⟩ := (hasB_iff n o.i).1 h1
    obtain ⟨k, hki⟩ : ∃ k : Nat, o.i = (k : Int) := ⟨o.i.toNat, by omega⟩
    have hkn : k < n := by omega
    obtain ⟨l, hl⟩ : ∃ l, l = (D.setCut o.i).firm.getD k [] := ⟨_, rfl⟩
    have hcf := cdfirm_any w2 d n _ _ HP2.out.c o.i
    rw [show Dev.firmE n o.i = 0 from by unfold Dev.firmE; rw [if_pos h1], show Dev.firmB (D.setCut o.i) n o.i = l from by unfold Dev.firmB; rw [if_pos h1, hki, hl]; rfl] at hcf
    have hll : l.length = 256 := by rw [hl]; exact HP2.out.c.ok.fr k hkn
    rw [hll] at hcf
    have hhas := fun wb (LX : Nat → Prop) (hr : RD wb p LX n (D.setCut o.i)) => rdhas_any wb p n LX (D.setCut o.i) o.i hr
    rw [h1] at hhas
    have HHAS := Lib.hid hhas; clear hhas
    have HCF := Lib.hid hcf; clear hcf
    have HL := Lib.hid (And.intro hl hll); clear hl hll
    have HKI := Lib.hid hki; clear hki
    clear i0 i1 h1
    go_wp2_with fail
    refine HCF.out.mono ?_
    rintro e wb ⟨v, rfl, ho1, hb1⟩
    obtain ⟨A1, c1, rfl, _, hr1⟩ := Rd.of_own8 ho1
    have HPB := Lib.hid (HP2.out.call hb1)
    have hobb := HOB2.out.call hb1
    have HKB := Lib.hid (HR2.out.2.call hb1)
    clear d1 ho1 hb1
    have d1 := hobb.c1
    go_wp2_with fail
    refine (HHAS.out wb _ HPB.out.r).mono ?_
    rintro e wc ⟨rfl, ew⟩
    have ew := ew.symm
    subst ew
    obtain ⟨S, hrs⟩ := HPB.out.r
    rw [HKI.out] at d1
    have f1 := hrs.c1
    have f2 := hrs.sf.cellAt k hkn
    have f3 := (hrs.rf k hkn).rd
    rw [← HL.out.1] at f3
    have hsm : ∀ m : Nat, Calls Try.prog 20 #[.slice A1 256 c1, .slice (some ⟨S.h k, 0, none⟩) 256 (S.ch k)] (wb.drewN m) fun e w' => e = .returned (.bool true) ∧ w' = wb.drewN m := fun m => by
      have := rsamev_any A1 (some ⟨S.h k, 0, none⟩) l l 256 256 c1 (S.ch k) HL.out.2 HL.out.2 (wb.drewN m) (hr1.drewN m) (f3.drewN m)
      rwa [show (l == l) = true from by simp] at this
    have HSM := Lib.hid hsm; clear hsm f3 hr1 hrs
    have hkni : (k : Int) < (n : Int) := by omega
    generalize S.h k = hk' at *
    generalize S.ch k = hc' at *
    generalize S.bf = bf at *
    generalize S.cf = cf at *
    clear S
    go_upto_region 48 with fail
    go_quiet (refine Calls.quiet_of_same (HSM.out _))
    have HF := Lib.hid (And.intro (HPB.out.call (bdrewN (Below.refl _ _) nq)) (And.intro HR2.out.1 (And.intro (HKB.out.drewN nq) (Nat.le_succ D.load)))); clear d1 f1 f2 HSM hobb
    generalize wb.drewN nq = wz at *
    go_wp2_with fail
    go_ret2
    exact doesR_of HB0.out HF.out.1 HF.out.2.1 HF.out.2.2.1 HF.out.2.2.2 (fun _ => rfl)
  · have h2 : hasB n o.i = false := by simpa using h1
    have hcf := cdfirm_any w2 d n _ _ HP2.out.c o.i
    rw [show Dev.firmE n o.i = 2 from by unfold Dev.firmE; rw [if_neg h1], show Dev.firmB (D.setCut o.i) n o.i = [] from by unfold Dev.firmB; rw [if_neg h1]] at hcf
    have hhas := fun wb (LX : Nat → Prop) (hr : RD wb p LX n (D.setCut o.i)) => rdhas_any wb p n LX (D.setCut o.i) o.i hr
    rw [h2] at hhas
    have HHAS := Lib.hid hhas; clear hhas
    have HCF := Lib.hid hcf; clear hcf
    clear h1 h2
    go_wp2_with fail
    refine HCF.out.mono ?_
    rintro e wb ⟨v, rfl, ho1, hb1⟩
    obtain ⟨A1, c1, rfl, _, _⟩ := Rd.of_own8 ho1
    rw [show ([] : List UInt8).length = 0 from rfl]
    have HPB := Lib.hid (HP2.out.call hb1)
    have hobb := HOB2.out.call hb1
    have HKB := Lib.hid (HR2.out.2.call hb1)
    clear d1 ho1 hb1
    have d1 := hobb.c1
    go_wp2_with fail
    refine (HHAS.out wb _ HPB.out.r).mono ?_
    rintro e wc ⟨rfl, ew⟩
    have ew := ew.symm
    subst ew
    have HF := Lib.hid (And.intro HPB.out (And.intro HR2.out.1 (And.intro HKB.out (Nat.le_succ D.load))))
    go_wp2_with fail
    go_ret2
    exact doesR_of HB0.out HF.out.1 HF.out.2.1 HF.out.2.2.1 HF.out.2.2.2 (fun _ => rfl)
end Go.Proofs.Ytpepbffhhfgdpaa
