/-
  Both devices are asked the same (layer 8): Does, kind by kind. (Printed by wip/gen/dkdoes.py.)
-/
import Derived.Test.YtpepbffhhfgdpaaFoldD
import Derived.Deep.RegionHeld3
namespace Go.Proofs.Ytpepbffhhfgdpaa
open Go Go.RowKit
set_option linter.unusedVariables false
set_option linter.unusedSimpArgs false

set_option maxRecDepth 100000 in
set_option maxHeartbeats 16000000 in
theorem does_sync (w : World) (d p n : Nat) (Lc L : Nat → Prop) (D : Dev) (o : OpV) (hP : Pair w d p Lc L n D) (ho : o.Ok w) (hB : Aside Lc L o.B o.bl) (hM : Aside Lc L o.M o.ml) (hnn : n ≤ 4096) (hm : D.load ≤ 900000) (hk : o.k = 3) :
    Calls Try.prog 21 #[.pointer (some ⟨d, 0, none⟩), .pointer (some ⟨p, 0, none⟩), .agg (opA o)] w (DoesR w p n Lc L D.load (fun x => o.k ≠ 9 → x = d)) := by
  have hB0 : Below w.heap.size w (w.alloc (.cells (opA o) 41)) := (Below.refl _ _).alloc (Nat.le_refl _) _
  have hOb : Ob (w.alloc (.cells (opA o) 41)) w.heap.size o := heap_alloc_new _ _
  have hP0 := hP.call hB0
  have hob1 : ¬ Lc w.heap.size := fun h => Nat.lt_irrefl _ (hP.c.lt _ h)
  have hob2 : ¬ L w.heap.size := fun h => Nat.lt_irrefl _ (hP.r.lt _ h)
  have hRB := ho.hb.1.go hB0
  have hRM := ho.hm.1.go hB0
  have hsz0 : w.heap.size < (w.alloc (.cells (opA o) 41)).heap.size := hOb.lt
  go_enter Try.func21, Try.ntmps21
  go_upto_region 1 with fail
  generalize w.alloc (.cells (opA o) 41) = w0 at *
  have HP := Lib.hid hP0; clear hP0 hP
  have HOB := Lib.hid hOb
  have HB0 := Lib.hid hB0; clear hB0
  have HRB := Lib.hid hRB; clear hRB
  have HRM := Lib.hid hRM; clear hRM
  have HASB := Lib.hid hB; clear hB
  have HASM := Lib.hid hM; clear hM
  have HO := Lib.hid ho; clear ho
  have HN := Lib.hid (And.intro hnn (And.intro hm (And.intro hob1 (And.intro hob2 hsz0)))); clear hnn hm hob1 hob2 hsz0
  have d0 := hOb.c0
  rw [hk] at d0
  clear hk hOb
  go_upto_region 25 with fail
  clear d0
  go_wp2_with fail
  refine (cdsync_any w0 d n Lc D HP.out.c (by have := HN.out.2.1; omega)).mono ?_
  rintro e w1 ⟨rfl, hc1, hk1⟩
  have HR1 := Lib.hid (HP.out.code hc1 hk1)
  have HC1 := Lib.hid (And.intro hc1 hk1); clear hc1 hk1
  go_wp2_with fail
  refine (rdsync_any w1 p n L D HR1.out.1 (by have := HN.out.1; omega)).mono ?_
  rintro e w2 ⟨rfl, hr2, hk2⟩
  obtain ⟨hP2, hO2, hK2⟩ := HP.out.both HC1.out.1 HC1.out.2 hr2 hk2
  have HF := Lib.hid (And.intro hP2 (And.intro hO2 (And.intro hK2 (load_sync D)))); clear hP2 hO2 hK2 hr2 hk2 HC1 HR1
  go_wp2_with fail
  go_ret2
  exact doesR_of HB0.out HF.out.1 HF.out.2.1 HF.out.2.2.1 HF.out.2.2.2 (fun _ => rfl)
set_option maxRecDepth 100000 in
set_option maxHeartbeats 16000000 in
theorem does_step (w : World) (d p n : Nat) (Lc L : Nat → Prop) (D : Dev) (o : OpV) (hP : Pair w d p Lc L n D) (ho : o.Ok w) (hB : Aside Lc L o.B o.bl) (hM : Aside Lc L o.M o.ml) (hnn : n ≤ 4096) (hm : D.load ≤ 900000) (hk : o.k = 4) :
    Calls Try.prog 21 #[.pointer (some ⟨d, 0, none⟩), .pointer (some ⟨p, 0, none⟩), .agg (opA o)] w (DoesR w p n Lc L D.load (fun x => o.k ≠ 9 → x = d)) := by
  have hB0 : Below w.heap.size w (w.alloc (.cells (opA o) 41)) := (Below.refl _ _).alloc (Nat.le_refl _) _
  have hOb : Ob (w.alloc (.cells (opA o) 41)) w.heap.size o := heap_alloc_new _ _
  have hP0 := hP.call hB0
  have hob1 : ¬ Lc w.heap.size := fun h => Nat.lt_irrefl _ (hP.c.lt _ h)
  have hob2 : ¬ L w.heap.size := fun h => Nat.lt_irrefl _ (hP.r.lt _ h)
  have hRB := ho.hb.1.go hB0
  have hRM := ho.hm.1.go hB0
  have hsz0 : w.heap.size < (w.alloc (.cells (opA o) 41)).heap.size := hOb.lt
  go_enter Try.func21, Try.ntmps21
  go_upto_region 1 with fail
  generalize w.alloc (.cells (opA o) 41) = w0 at *
  have HP := Lib.hid hP0; clear hP0 hP
  have HOB := Lib.hid hOb
  have HB0 := Lib.hid hB0; clear hB0
  have HRB := Lib.hid hRB; clear hRB
  have HRM := Lib.hid hRM; clear hRM
  have HASB := Lib.hid hB; clear hB
  have HASM := Lib.hid hM; clear hM
  have HO := Lib.hid ho; clear ho
  have HN := Lib.hid (And.intro hnn (And.intro hm (And.intro hob1 (And.intro hob2 hsz0)))); clear hnn hm hob1 hob2 hsz0
  have d0 := hOb.c0
  rw [hk] at d0
  clear hk hOb
  go_upto_region 27 with fail
  clear d0
  go_wp2_with fail
  refine (cdstep_any w0 d n Lc D HP.out.c (by have := HN.out.2.1; omega)).mono ?_
  rintro e w1 ⟨rfl, hc1, hk1⟩
  have HR1 := Lib.hid (HP.out.code hc1 hk1)
  have HC1 := Lib.hid (And.intro hc1 hk1); clear hc1 hk1
  go_wp2_with fail
  refine (rdstep_ext w1 p n L D HR1.out.1).mono ?_
  rintro e w2 ⟨rfl, hr2, hk2⟩
  obtain ⟨hP2, hO2, hK2⟩ := HP.out.both HC1.out.1 HC1.out.2 hr2 hk2
  have HF := Lib.hid (And.intro hP2 (And.intro hO2 (And.intro hK2 (load_step D)))); clear hP2 hO2 hK2 hr2 hk2 HC1 HR1
  go_wp2_with fail
  go_ret2
  exact doesR_of HB0.out HF.out.1 HF.out.2.1 HF.out.2.2.1 HF.out.2.2.2 (fun _ => rfl)
set_option maxRecDepth 100000 in
set_option maxHeartbeats 16000000 in
theorem does_crash (w : World) (d p n : Nat) (Lc L : Nat → Prop) (D : Dev) (o : OpV) (hP : Pair w d p Lc L n D) (ho : o.Ok w) (hB : Aside Lc L o.B o.bl) (hM : Aside Lc L o.M o.ml) (hnn : n ≤ 4096) (hm : D.load ≤ 900000) (hk : o.k = 7) :
    Calls Try.prog 21 #[.pointer (some ⟨d, 0, none⟩), .pointer (some ⟨p, 0, none⟩), .agg (opA o)] w (DoesR w p n Lc L D.load (fun x => o.k ≠ 9 → x = d)) := by
  have hB0 : Below w.heap.size w (w.alloc (.cells (opA o) 41)) := (Below.refl _ _).alloc (Nat.le_refl _) _
  have hOb : Ob (w.alloc (.cells (opA o) 41)) w.heap.size o := heap_alloc_new _ _
  have hP0 := hP.call hB0
  have hob1 : ¬ Lc w.heap.size := fun h => Nat.lt_irrefl _ (hP.c.lt _ h)
  have hob2 : ¬ L w.heap.size := fun h => Nat.lt_irrefl _ (hP.r.lt _ h)
  have hRB := ho.hb.1.go hB0
  have hRM := ho.hm.1.go hB0
  have hsz0 : w.heap.size < (w.alloc (.cells (opA o) 41)).heap.size := hOb.lt
  go_enter Try.func21, Try.ntmps21
  go_upto_region 1 with fail
  generalize w.alloc (.cells (opA o) 41) = w0 at *
  have HP := Lib.hid hP0; clear hP0 hP
  have HOB := Lib.hid hOb
  have HB0 := Lib.hid hB0; clear hB0
  have HRB := Lib.hid hRB; clear hRB
  have HRM := Lib.hid hRM; clear hRM
  have HASB := Lib.hid hB; clear hB
  have HASM := Lib.hid hM; clear hM
  have HO := Lib.hid ho; clear ho
  have HN := Lib.hid (And.intro hnn (And.intro hm (And.intro hob1 (And.intro hob2 hsz0)))); clear hnn hm hob1 hob2 hsz0
  have d0 := hOb.c0
  rw [hk] at d0
  clear hk hOb
  go_upto_region 35 with fail
  clear d0
  have d4 := HOB.out.c4
  go_wp2_with fail
  clear d4
  refine (rdcrash_any w0 p n L D o.M o.ml o.ml.length o.mc HP.out.r rfl HRM.out (fun h0 ad e h => HASM.out h0 ad e (.inr h)) (by have := HN.out.1; omega) (by have := HN.out.2.1; have := load_waits D; omega) (by have := HO.out.hm.2.2; omega)).mono ?_
  rintro e w1 ⟨rfl, hr1, hk1⟩
  have hc1 := HP.out.refFirst hk1
  have hob1 := HOB.out.keep hk1 HN.out.2.2.2.1
  have hrm1 := HRM.out.kept hk1 (fun h0 ad e h => HASM.out h0 ad e (.inr h))
  have HR1 := Lib.hid (And.intro hr1 (And.intro hk1 hc1)); clear hr1 hk1 hc1
  have HRM1 := Lib.hid hrm1; clear hrm1
  have d4 := hob1.c4
  clear hob1
  go_wp2_with fail
  clear d4
  refine (cdcrash_any w1 d n Lc D HR1.out.2.2 o.M o.ml o.ml.length o.mc rfl HO.out.hm.2.1 HO.out.hm.2.2 HRM1.out (fun h0 ad e h => HASM.out h0 ad e (.inl h)) (by have := HN.out.2.1; have := load_waits D; omega)).mono ?_
  rintro e w2 ⟨rfl, hc2, hk2⟩
  obtain ⟨hP2, hO2, hK2⟩ := HP.out.both2 HR1.out.1 HR1.out.2.1 hc2 hk2
  have HF := Lib.hid (And.intro hP2 (And.intro hO2 (And.intro hK2 (Nat.le_succ_of_le (load_crash D (o.ml.map UInt8.toNat)))))); clear hP2 hO2 hK2 hc2 hk2 HR1
  go_wp2_with fail
  go_ret2
  exact doesR_of HB0.out HF.out.1 HF.out.2.1 HF.out.2.2.1 HF.out.2.2.2 (fun _ => rfl)
set_option maxRecDepth 100000 in
set_option maxHeartbeats 16000000 in
theorem does_foreign (w : World) (d p n : Nat) (Lc L : Nat → Prop) (D : Dev) (o : OpV) (hP : Pair w d p Lc L n D) (ho : o.Ok w) (hB : Aside Lc L o.B o.bl) (hM : Aside Lc L o.M o.ml) (hnn : n ≤ 4096) (hm : D.load ≤ 900000) (hk : o.k = 8) :
    Calls Try.prog 21 #[.pointer (some ⟨d, 0, none⟩), .pointer (some ⟨p, 0, none⟩), .agg (opA o)] w (DoesR w p n Lc L D.load (fun x => o.k ≠ 9 → x = d)) := by
  have hB0 : Below w.heap.size w (w.alloc (.cells (opA o) 41)) := (Below.refl _ _).alloc (Nat.le_refl _) _
  have hOb : Ob (w.alloc (.cells (opA o) 41)) w.heap.size o := heap_alloc_new _ _
  have hP0 := hP.call hB0
  have hob1 : ¬ Lc w.heap.size := fun h => Nat.lt_irrefl _ (hP.c.lt _ h)
  have hob2 : ¬ L w.heap.size := fun h => Nat.lt_irrefl _ (hP.r.lt _ h)
  have hRB := ho.hb.1.go hB0
  have hRM := ho.hm.1.go hB0
  have hsz0 : w.heap.size < (w.alloc (.cells (opA o) 41)).heap.size := hOb.lt
  go_enter Try.func21, Try.ntmps21
  go_upto_region 1 with fail
  generalize w.alloc (.cells (opA o) 41) = w0 at *
  have HP := Lib.hid hP0; clear hP0 hP
  have HOB := Lib.hid hOb
  have HB0 := Lib.hid hB0; clear hB0
  have HRB := Lib.hid hRB; clear hRB
  have HRM := Lib.hid hRM; clear hRM
  have HASB := Lib.hid hB; clear hB
  have HASM := Lib.hid hM; clear hM
  have HO := Lib.hid ho; clear ho
  have HN := Lib.hid (And.intro hnn (And.intro hm (And.intro hob1 (And.intro hob2 hsz0)))); clear hnn hm hob1 hob2 hsz0
  have d0 := hOb.c0
  rw [hk] at d0
  clear hk hOb
  go_upto_region 38 with fail
  clear d0
  obtain ⟨b5, hb5⟩ : ∃ b5, b5 = w.heap.size := ⟨_, rfl⟩
  rw [← hb5] at HOB HN
  rw [← hb5]
  have HB5 := Lib.hid hb5; clear hb5
  have HLC : Hid (¬ Lc w0.heap.size) := Lib.hid fun h => Nat.lt_irrefl _ (HP.out.c.lt _ h)
  go_region_held3 (fun w' => w'.cell? ⟨b5, 1, none⟩ = some (.int .i64 o.i) ∧ w'.cell? ⟨b5, 2, none⟩ = some (.int .i64 o.a) ∧ w'.cell? ⟨b5, 3, none⟩ = some (.slice o.B o.bl.length o.bc)) (first | exact Ob.cells HOB.out | (refine Ob.cells (o := o) ?_; assumption))
    ((first
      | (go_at_call 10; refine (copyx_any o.B (vb o.bl) o.bl.length o.bc (by simp [vb]) (vb_onec _) _ HO.out.hb.2.2 (HRB.out.go ((Below.refl _ _).drew))).mono ?_; rintro e w1 ⟨rfl, ho1, hb1⟩; have hbw1 : Below w0.heap.size w0 w1 := (Below.refl _ _).drew.trans (hb1.mono (Nat.le_refl _)); have hob1 := HOB.out.call hbw1)
      | (go_at_call 42; refine (cdforeign_any w1 d n Lc D (HP.out.call hbw1).c o.i o.a HO.out.hi HO.out.ha (some ⟨w0.heap.size, 0, none⟩) o.bl o.bl.length (o.bl.length + 3) rfl (by omega) HO.out.hb.2.2 (own_rd8 ho1) (fun _ ad e h => by cases e; exact HLC.out h)).mono ?_; rintro e w2 ⟨rfl, hc2, hk2⟩; have hob2 := hob1.keep hk2 HN.out.2.2.1)
      | (go_at_call 43; refine (rdforeign_ext w2 p n L D o.i o.a o.B o.bl o.bl.length o.bc ((HP.out.call hbw1).code hc2 hk2).1 rfl ((HRB.out.go hbw1).kept hk2 (fun h0 ad e h => HASB.out h0 ad e (.inl h))) (fun h0 ad e h => HASB.out h0 ad e (.inr h)) (by have := HO.out.hb.2.2; omega)).mono ?_; rintro e w3 ⟨rfl, hr3, hk3⟩; have hob3 := hob2.keep hk3 HN.out.2.2.2.1)))
  obtain ⟨hP2, hO2, hK2⟩ := (HP.out.call hbw1).both hc2 hk2 hr3 hk3
  replace HB0 := Lib.hid (HB0.out.trans (hbw1.mono HB0.out.size))
  have HF := Lib.hid (And.intro hP2 (And.intro hO2 (And.intro hK2 (Nat.le_succ_of_le (Nat.le_of_eq (load_foreign D n o.i o.a o.bl)))))); clear hP2 hO2 hK2 hr3 hk3 hc2 hk2 hob1 hob2 hob3 ho1 hb1 hbw1
  go_wp2_with fail
  go_ret2
  exact doesR_of HB0.out HF.out.1 HF.out.2.1 HF.out.2.2.1 HF.out.2.2.2 (fun _ => rfl)
end Go.Proofs.Ytpepbffhhfgdpaa
