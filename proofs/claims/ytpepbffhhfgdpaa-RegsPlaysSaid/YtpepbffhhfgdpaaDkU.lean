/-
  Both devices are asked the same (layer 8): Does, kind by kind. (Printed by wip/gen/dkdoes.py.)
-/
import Derived.Test.YtpepbffhhfgdpaaFoldD
import Derived.Deep.RegionHeld3
namespace Go.Proofs.Ytpepbffhhfgdpaa
open Go Go.RowKit
set_option linter.unusedVariables false
set_option linter.unusedSimpArgs false

set_option maxRecDepth 100000 in
set_option maxHeartbeats 16000000 in
theorem does_fill (w : World) (d p n : Nat) (Lc L : Nat → Prop) (D : Dev) (o : OpV) (hP : Pair w d p Lc L n D) (ho : o.Ok w) (hB : Aside Lc L o.B o.bl) (hM : Aside Lc L o.M o.ml) (hnn : n ≤ 4096) (hm : D.load ≤ 900000) (hk : o.k = 10) :
    Calls Try.prog 21 #[.pointer (some ⟨d, 0, none⟩), .pointer (some ⟨p, 0, none⟩), .agg (opA o)] w (DoesR w p n Lc L D.load (fun x => o.k ≠ 9 → x = d)) := by
  have hB0 : Below w.heap.size w (w.alloc (.cells (opA o) 41)) := (Below.refl _ _).alloc (Nat.le_refl _) _
  have hOb : Ob (w.alloc (.cells (opA o) 41)) w.heap.size o := heap_alloc_new _ _
  have hP0 := hP.call hB0
  have hob1 : ¬ Lc w.heap.size := fun h => Nat.lt_irrefl _ (hP.c.lt _ h)
  have hob2 : ¬ L w.heap.size := fun h => Nat.lt_irrefl _ (hP.r.lt _ h)
  have hRB := ho.hb.1.go hB0
  have hRM := ho.hm.1.go hB0
  have hsz0 : w.heap.size < (w.alloc (.cells (opA o) 41)).heap.size := hOb.lt
  go_enter Try.func21, Try.ntmps21
  go_upto_region 1 with fail
  generalize w.alloc (.cells (opA o) 41) = w0 at *
  have HP := Lib.hid hP0; clear hP0 hP
  have HOB := Lib.hid hOb
  have HB0 := Lib.hid hB0; clear hB0
  have HRB := Lib.hid hRB; clear hRB
  have HRM := Lib.hid hRM; clear hRM
  have HASB := Lib.hid hB; clear hB
  have HASM := Lib.hid hM; clear hM
  have HO := Lib.hid ho; clear ho
  have HN := Lib.hid (And.intro hnn (And.intro hm (And.intro hob1 (And.intro hob2 hsz0)))); clear hnn hm hob1 hob2 hsz0
  have d0 := hOb.c0
  rw [hk] at d0
  clear hk hOb
  go_upto_region 13 with fail
  clear d0
  obtain ⟨b5, hb5⟩ : ∃ b5, b5 = w.heap.size := ⟨_, rfl⟩
  rw [← hb5] at HOB HN
  rw [← hb5]
  have HB5 := Lib.hid hb5; clear hb5
  go_region_held3 (fun w' => w'.cell? ⟨b5, 1, none⟩ = some (.int .i64 o.i) ∧ w'.cell? ⟨b5, 2, none⟩ = some (.int .i64 o.a) ∧ w'.cell? ⟨b5, 3, none⟩ = some (.slice o.B o.bl.length o.bc)) (first | exact Ob.cells HOB.out | (refine Ob.cells (o := o) ?_; assumption))
    ((first
      | (go_at_call 34; refine (cdwrite_any w1 d n Lc D (HP.out.call hbw1).c o.i A1 (fullB (u8of o.a)) 256 c1 (fullB_len _) hcap1 (by decide) hrd1 (fun _ => hA1) (by have := HN.out.2.1; omega)).mono ?_; rintro e w2 ⟨rfl, hc2, hk2⟩; have hob2 := hob1.keep hk2 HN.out.2.2.1)
      | (go_at_call 35; refine (rdwrite_any w3 p n L D o.i A3 (fullB (u8of o.a)) 256 c3 (((HP.out.call hbw1).code hc2 hk2).1.call hb3) (fullB_len _) hrd3 (fun _ => hA3) (by have := HN.out.2.1; have := load_waits D; omega) (by have := HN.out.1; omega)).mono ?_; rintro e w4 ⟨rfl, hr4, hk4⟩; have hob4 := hob3.keep hk4 HN.out.2.2.2.1)
      | (go_at_call 36; refine (fullw_any o.a w2).mono ?_; rintro e w3 ⟨v3, rfl, ho3, hb3⟩; have hob3 := hob2.call hb3; have hA3 := full_aside (((HP.out.call hbw1).code hc2 hk2).1.lt) ho3; obtain ⟨A3, c3, rfl, _, hrd3⟩ := Rd.of_own ho3; replace hA3 := hA3 A3 256 c3 rfl)
      | (go_at_call 36; refine (fullw_any o.a _).mono ?_; rintro e w1 ⟨v1, rfl, ho1, hb1⟩; have hbw1 : Below w0.heap.size w0 w1 := (Below.refl _ _).drew.trans (hb1.mono (Nat.le_refl _)); have hob1 := HOB.out.call hbw1; have hA1 := full_aside HP.out.c.lt (show w1.ownsRow w0.heap.size _ _ _ _ _ from ho1); obtain ⟨A1, c1, rfl, _, hrd1⟩ := Rd.of_own ho1; replace hA1 := hA1 A1 256 c1 rfl; have hcap1 := own_cap8 ho1)))
  have hc3 := (hc2.call hb3).more (M := ext Lc w1 w3) (fun b h => h.imp id fun h => ⟨h.1, Nat.lt_of_lt_of_le h.2 hb3.size⟩) (fun b h => h.elim (fun h => by have := HP.out.c.lt b h; have := hbw1.size; have := hk2.size; have := hb3.size; omega) (fun h => h.2))
  obtain ⟨hP2, hO2, hK2⟩ := (HP.out.call hbw1).both hc3 (hk2.call hb3) hr4 hk4
  replace HB0 := Lib.hid (HB0.out.trans (hbw1.mono HB0.out.size))
  have HF := Lib.hid (And.intro hP2 (And.intro hO2 (And.intro hK2 (load_write D n o.i (fullB (u8of o.a)))))); clear hP2 hO2 hK2 hr4 hk4 hc2 hc3 hk2 hob1 hob2 hob3 hob4 ho1 hb1 hbw1 ho3 hb3 hrd1 hrd3 hA1 hA3 hcap1
  go_wp2_with fail
  go_ret2
  exact doesR_of HB0.out HF.out.1 HF.out.2.1 HF.out.2.2.1 HF.out.2.2.2 (fun _ => rfl)
set_option maxRecDepth 100000 in
set_option maxHeartbeats 16000000 in
theorem does_fork (w : World) (d p n : Nat) (Lc L : Nat → Prop) (D : Dev) (o : OpV) (hP : Pair w d p Lc L n D) (ho : o.Ok w) (hB : Aside Lc L o.B o.bl) (hM : Aside Lc L o.M o.ml) (hnn : n ≤ 4096) (hm : D.load ≤ 900000) (hk : o.k = 9) :
    Calls Try.prog 21 #[.pointer (some ⟨d, 0, none⟩), .pointer (some ⟨p, 0, none⟩), .agg (opA o)] w (DoesR w p n Lc L D.load (fun x => o.k ≠ 9 → x = d)) := by
  have hB0 : Below w.heap.size w (w.alloc (.cells (opA o) 41)) := (Below.refl _ _).alloc (Nat.le_refl _) _
  have hOb : Ob (w.alloc (.cells (opA o) 41)) w.heap.size o := heap_alloc_new _ _
  have hP0 := hP.call hB0
  have hob1 : ¬ Lc w.heap.size := fun h => Nat.lt_irrefl _ (hP.c.lt _ h)
  have hob2 : ¬ L w.heap.size := fun h => Nat.lt_irrefl _ (hP.r.lt _ h)
  have hRB := ho.hb.1.go hB0
  have hRM := ho.hm.1.go hB0
  have hsz0 : w.heap.size < (w.alloc (.cells (opA o) 41)).heap.size := hOb.lt
  go_enter Try.func21, Try.ntmps21
  go_upto_region 1 with fail
  generalize w.alloc (.cells (opA o) 41) = w0 at *
  have HP := Lib.hid hP0; clear hP0 hP
  have HOB := Lib.hid hOb
  have HB0 := Lib.hid hB0; clear hB0
  have HRB := Lib.hid hRB; clear hRB
  have HRM := Lib.hid hRM; clear hRM
  have HASB := Lib.hid hB; clear hB
  have HASM := Lib.hid hM; clear hM
  have HO := Lib.hid ho; clear ho
  have HN := Lib.hid (And.intro hnn (And.intro hm (And.intro hob1 (And.intro hob2 hsz0)))); clear hnn hm hob1 hob2 hsz0
  have HK9 := Lib.hid hk
  have d0 := hOb.c0
  rw [hk] at d0
  clear hk hOb
  go_upto_region 40 with fail
  clear d0
  go_wp2_with fail
  refine (cdfork_any w0 d n Lc D HP.out.c (by have := HN.out.2.1; have := load_waits D; omega)).mono ?_
  rintro e w1 ⟨f, rfl, hf1, hb1⟩
  have HP1 := Lib.hid (HP.out.call hb1)
  have HZ1 : Hid (∀ b, Lc b ∨ L b → b < w0.heap.size) := Lib.hid fun b h => h.elim (HP.out.c.lt b) (HP.out.r.lt b)
  have HF1 := Lib.hid hf1; clear hf1
  have HS1 := Lib.hid hb1.size
  have HBB := Lib.hid hb1; clear hb1
  go_wp2_with fail
  refine (cdcrash_any w1 d n Lc D HP1.out.c none [] 0 0 rfl (Nat.le_refl _) (by decide) (Rd.nil _ _ _) (fun _ ad e => by cases e) (by have := HN.out.2.1; have := load_waits D; omega)).mono ?_
  rintro e w2 ⟨rfl, hc2, hk2⟩
  have HC2 := Lib.hid (And.intro hc2 hk2); clear hc2 hk2
  go_wp2_with fail
  refine (full_any 99 w2).mono ?_
  rintro e w3 ⟨v3, rfl, ho3, hb3⟩
  have hA3 := full_aside HC2.out.1.lt ho3
  have hcap3 := Rd.of_own1 ho3
  obtain ⟨A3, c3, rfl, hcap3, _⟩ := hcap3
  have HW3 := Lib.hid (And.intro (own_rd8 ho3) (hA3 A3 256 c3 rfl)); clear ho3 hA3
  have HB3 := Lib.hid hb3; clear hb3
  go_wp2_with fail
  refine (cdwrite_any w3 d n _ _ (HC2.out.1.call HB3.out) 0 A3 (fullB 99) 256 c3 (fullB_len _) hcap3 (by decide) HW3.out.1 (fun _ => HW3.out.2) (Nat.le_trans (load_crash D _) (by have := HN.out.2.1; omega))).mono ?_
  rintro e w4 ⟨rfl, hc4, hk4⟩
  have HC4 := Lib.hid (And.intro hc4 hk4); clear hc4 hk4
  go_wp2_with fail
  refine (cdsync_any w4 d n _ _ HC4.out.1 (Nat.le_trans (load_write _ _ _ _) (Nat.le_trans (Nat.succ_le_succ (load_crash D _)) (by have := HN.out.2.1; omega)))).mono ?_
  rintro e w5 ⟨rfl, hc5, hk5⟩
  have HC5 := Lib.hid hk5; clear hc5 hk5
  have hz2 := HC2.out.2.size
  have hz3 := HB3.out.size
  have hz4 := HC4.out.2.size
  have hs1 := HS1.out
  have hkA : Keep Lc w1 w3 := HC2.out.2.call HB3.out
  have hkB : Keep Lc w1 w4 := hkA.trans HC4.out.2 fun b hb h => h.elim id fun h => by omega
  have hkC : Keep Lc w1 w5 := hkB.trans HC5.out fun b hb h => h.elim (fun h => h.elim id fun h => by omega) fun h => by omega
  have hPf : Pair w5 f p (fun b => w0.heap.size ≤ b ∧ b < w1.heap.size) L n D := ⟨HF1.out.keep hkC (fun b hb hc => by have := HZ1.out b (.inl hc); omega), HP1.out.r.keep hkC (fun b hb hc => HP.out.dis b hc hb), fun b hb hl => by have := HZ1.out b (.inr hl); omega⟩
  have hOf : Ours w0 Lc L (fun b => w0.heap.size ≤ b ∧ b < w1.heap.size) L := fun b hb => hb.elim (fun h => .inr (.inr h.1)) (fun h => .inr (.inl h))
  have hKf : Keep (fun b => Lc b ∨ L b) w0 w5 := (Keep.of HBB.out).trans hkC fun b _ h => .inl h
  have HF := Lib.hid (And.intro hPf (And.intro hOf (And.intro hKf (Nat.le_succ D.load)))); clear hPf hOf hKf hkA hkB hkC hz2 hz3 hz4 hs1 HC2 HW3 HB3 HC4 HC5
  go_wp2_with fail
  go_ret2
  exact doesR_of HB0.out HF.out.1 HF.out.2.1 HF.out.2.2.1 HF.out.2.2.2 (fun h => (h HK9.out).elim)
end Go.Proofs.Ytpepbffhhfgdpaa
