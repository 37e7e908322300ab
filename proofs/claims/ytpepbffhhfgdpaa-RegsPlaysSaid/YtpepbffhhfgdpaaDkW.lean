/-
  Both devices are asked the same (layer 8): Does, kind by kind. (Printed by wip/gen/dkdoes.py.)
-/
import Derived.Test.YtpepbffhhfgdpaaFoldD
import Derived.Deep.RegionHeld3
namespace Go.Proofs.Ytpepbffhhfgdpaa
open Go Go.RowKit
set_option linter.unusedVariables false
set_option linter.unusedSimpArgs false

set_option maxRecDepth 100000 in
set_option maxHeartbeats 16000000 in
theorem does_read (w : World) (d p n : Nat) (Lc L : Nat → Prop) (D : Dev) (o : OpV) (hP : Pair w d p Lc L n D) (ho : o.Ok w) (hB : Aside Lc L o.B o.bl) (hM : Aside Lc L o.M o.ml) (hnn : n ≤ 4096) (hm : D.load ≤ 900000) (hk : o.k = 2) :
    Calls Try.prog 21 #[.pointer (some ⟨d, 0, none⟩), .pointer (some ⟨p, 0, none⟩), .agg (opA o)] w (DoesR w p n Lc L D.load (fun x => o.k ≠ 9 → x = d)) := by
  have hB0 : Below w.heap.size w (w.alloc (.cells (opA o) 41)) := (Below.refl _ _).alloc (Nat.le_refl _) _
  have hOb : Ob (w.alloc (.cells (opA o) 41)) w.heap.size o := heap_alloc_new _ _
  have hP0 := hP.call hB0
  have hob1 : ¬ Lc w.heap.size := fun h => Nat.lt_irrefl _ (hP.c.lt _ h)
  have hob2 : ¬ L w.heap.size := fun h => Nat.lt_irrefl _ (hP.r.lt _ h)
  have hRB := ho.hb.1.go hB0
  have hRM := ho.hm.1.go hB0
  have hsz0 : w.heap.size < (w.alloc (.cells (opA o) 41)).heap.size := hOb.lt
  go_enter Try.func21, Try.ntmps21
  go_upto_region 1 with fail
  generalize w.alloc (.cells (opA o) 41) = w0 at *
  have HP := Lib.hid hP0; clear hP0 hP
  have HOB := Lib.hid hOb
  have HB0 := Lib.hid hB0; clear hB0
  have HRB := Lib.hid hRB; clear hRB
  have HRM := Lib.hid hRM; clear hRM
  have HASB := Lib.hid hB; clear hB
  have HASM := Lib.hid hM; clear hM
  have HO := Lib.hid ho; clear ho
  have HN := Lib.hid (And.intro hnn (And.intro hm (And.intro hob1 (And.intro hob2 hsz0)))); clear hnn hm hob1 hob2 hsz0
  have d0 := hOb.c0
  rw [hk] at d0
  clear hk hOb
  go_upto_region 15 with fail
  clear d0
  have d1 := HOB.out.c1
  go_wp2_with fail
  refine (cdread_any w0 d n Lc D HP.out.c o.i).mono ?_
  rintro e w1 ⟨v1, rfl, ho1, hb1⟩
  obtain ⟨A1, c1, rfl, _, hr1⟩ := Rd.of_own8 ho1
  have hob1 := HOB.out.call hb1
  have HP1 := Lib.hid (HP.out.call hb1)
  have HB1 := Lib.hid hb1; clear hb1 d1
  have d1 := hob1.c1
  go_wp2_with fail
  refine (rdread_any w1 p n L D o.i HP1.out.r).mono ?_
  rintro e w2 ⟨v2, rfl, ho2, hb2⟩
  obtain ⟨A2, c2, rfl, _, hr2⟩ := Rd.of_own ho2
  have hsm := rsamev_any A1 A2 (D.readB n o.i) (D.readB n o.i) _ _ c1 c2 rfl rfl w2 (hr1.go hb2) hr2
  rw [show (D.readB n o.i == D.readB n o.i) = true from by simp] at hsm
  have HSM := Lib.hid hsm; clear hsm hr1 hr2 ho2
  obtain ⟨et, ho1⟩ := Own8.below ho1 hb2
  have HPX := Lib.hid (HP1.out.call hb2)
  have HKX : Hid (Ours w0 Lc L Lc L ∧ Keep (fun b => Lc b ∨ L b) w0 w2) := Lib.hid ⟨fun b h => h.imp id .inl, (Keep.of HB1.out).call hb2⟩
  have HMB : Hid ((D.readB n o.i).length ≤ 256) := Lib.hid (by
    unfold Dev.readB
    split
    · rename_i hE
      unfold Dev.readE at hE
      split at hE
      · rename_i hh
        have := (hasB_iff n o.i).1 hh
        rw [HP.out.r.ok.nr o.i.toNat (by omega)]
        exact Nat.le_refl _
      · cases hE
    · exact Nat.zero_le _)
  have HGX : Hid (∀ g, (Value.slice A1 (D.readB n o.i).length c1).ownBlock = some g → ¬ (Lc g ∨ L g)) := Lib.hid fun g hg h => by
    have := (ho1.lt g hg).1
    rcases h with h | h
    · have := HP.out.c.lt g h; omega
    · have := HP.out.r.lt g h; omega
  have HOW : Hid (∃ xl : List UInt8, xl.length = (D.readB n o.i).length ∧ w2.ownsRow w0.heap.size et 1 (.slice A1 (D.readB n o.i).length c1) (D.readB n o.i).length (vb xl)) := Lib.hid ⟨_, rfl, ho1⟩
  have HSZ : Hid (w0.heap.size ≤ w0.heap.size) := Lib.hid (Nat.le_refl _)
  obtain ⟨DX, hDX⟩ : ∃ DX, DX = D := ⟨_, rfl⟩
  obtain ⟨LcX, hLcX⟩ : ∃ LcX, LcX = Lc := ⟨_, rfl⟩
  obtain ⟨LX, hLX⟩ : ∃ LX, LX = L := ⟨_, rfl⟩
  rw [← hDX, ← hLcX, ← hLX] at HPX
  rw [← hLcX, ← hLX] at HGX
  rw [show Ours w0 Lc L Lc L = Ours w0 Lc L LcX LX from by rw [hLcX, hLX]] at HKX
  have HDX : Hid (DX.load ≤ D.load + 1) := Lib.hid (by rw [hDX]; exact Nat.le_succ D.load)
  clear hDX hLcX hLX ho1 hb2 hob1 d1
  generalize hmg : (D.readB n o.i).length = m at *
  generalize D.readE n o.i = E at *
  generalize D.readB n o.i = xl0 at *
  clear hmg
  go_upto_region 18 with (refine HSM.out.mono ?_; rintro e wz ⟨rfl, ew⟩)
  have ew := ew.symm
  subst ew
  clear HSM
  go_wp2_with fail
  go_loopw [107] (fun i wr => ∃ j : Nat, j ≤ m ∧ i = .int .i64 j ∧ (∃ xl : List UInt8, xl.length = m ∧ wr.ownsRow w0.heap.size et 1 (.slice A1 m c1) m (vb xl)) ∧ Pair wr d p LcX LX n DX ∧ Keep (fun b => Lc b ∨ L b) w0 wr) (fun i _ => m - (intOf i).toNat)
  case atStart => exact ⟨0, Nat.zero_le _, rfl, HOW.out, HPX.out, HKX.out.2⟩
  case round =>
    rename World => wr
    obtain ⟨j, hj, rfl, ⟨xl, hxl, hown⟩, hpr, hkr⟩ := hrel
    have HPR := Lib.hid hpr; clear hpr
    have HKR := Lib.hid hkr; clear hkr
    have hmm := HMB.out
    by_cases hlt : j < m
    · obtain ⟨A', c', eV, _, hg'⟩ := Rd.of_own1 hown
      injection eV with eA eL eC
      obtain ⟨g, hg⟩ := hg' (by omega)
      rw [hg] at eA
      have hgb := hown.lt g (by rw [eA]; rfl)
      have hgX := HGX.out g (by rw [eA]; rfl)
      rw [eA] at hown
      have hfz := hown.frozenAt j
      obtain ⟨x, hx⟩ : ∃ x, x = xl[j]'(by omega) := ⟨_, rfl⟩
      have hce : wr.cell? ⟨g, j, none⟩ = some (.int .u8 (x.toNat : Int)) := (hown.cellAt j (by omega)).trans (by rw [List.getElem?_map, List.getElem?_eq_getElem (by omega), hx]; rfl)
      have hxr : bits .xor .u8 (x.toNat : Int) 255 = ((x ^^^ 255).toNat : Int) := bits_xor x 255
      obtain ⟨y, hy⟩ : ∃ y, y = x ^^^ 255 := ⟨_, rfl⟩
      rw [← hy] at hxr
      have hst := hown.stored j (.int .u8 (y.toNat : Int))
      rw [show (vb xl).set j (.int .u8 (y.toNat : Int)) = vb (xl.set j y) from by simp [vb, List.map_set]] at hst
      have HST := Lib.hid hst
      have hxl2 : (xl.set j y).length = m := by rw [List.length_set, hxl]
      have HXL := Lib.hid hxl2
      clear hst hxl2 hxl hx hy hown hg' hg eL eC
      have hji : (j : Int) < (m : Int) := by omega
      have hkg : Keep (fun b => b = g) wr (wr.setCell ⟨g, j, none⟩ (.int .u8 (y.toNat : Int))) := (Keep.refl (fun b => b = g) wr).setCell (a := ⟨g, j, none⟩) (fun _ => rfl) _
      have hpr2 := HPR.out.keep hkg (fun b hb e => hgX (.inl (e ▸ hb))) (fun b hb e => hgX (.inr (e ▸ hb)))
      have hkr2 : Keep (fun b => Lc b ∨ L b) w0 (wr.setCell ⟨g, j, none⟩ (.int .u8 (y.toNat : Int))) := HKR.out.setCell (a := ⟨g, j, none⟩) (fun h => by have : g < w0.heap.size := h; have := hgb.1; have := HSZ.out; omega) _
      have HNX := Lib.hid (And.intro hpr2 hkr2); clear hpr2 hkr2 hkg
      subst eA
      go_wp2_with fail
      go_roundw
      case rel => exact ⟨j + 1, by omega, by go_num, ⟨_, HXL.out, HST.out.1⟩, HNX.out.1, HNX.out.2⟩
      case measure => simp [intOf]; omega
    · have hji : ¬ (j : Int) < (m : Int) := by omega
      clear hown
      go_wp2_with fail
      go_ret2
      exact doesR_of HB0.out HPR.out HKX.out.1 HKR.out HDX.out (fun _ => rfl)
set_option maxRecDepth 100000 in
set_option maxHeartbeats 16000000 in
theorem does_write (w : World) (d p n : Nat) (Lc L : Nat → Prop) (D : Dev) (o : OpV) (hP : Pair w d p Lc L n D) (ho : o.Ok w) (hB : Aside Lc L o.B o.bl) (hM : Aside Lc L o.M o.ml) (hnn : n ≤ 4096) (hm : D.load ≤ 900000) (hk : o.k = 1) :
    Calls Try.prog 21 #[.pointer (some ⟨d, 0, none⟩), .pointer (some ⟨p, 0, none⟩), .agg (opA o)] w (DoesR w p n Lc L D.load (fun x => o.k ≠ 9 → x = d)) := by
  have hB0 : Below w.heap.size w (w.alloc (.cells (opA o) 41)) := (Below.refl _ _).alloc (Nat.le_refl _) _
  have hOb : Ob (w.alloc (.cells (opA o) 41)) w.heap.size o := heap_alloc_new _ _
  have hP0 := hP.call hB0
  have hob1 : ¬ Lc w.heap.size := fun h => Nat.lt_irrefl _ (hP.c.lt _ h)
  have hob2 : ¬ L w.heap.size := fun h => Nat.lt_irrefl _ (hP.r.lt _ h)
  have hRB := ho.hb.1.go hB0
  have hRM := ho.hm.1.go hB0
  have hsz0 : w.heap.size < (w.alloc (.cells (opA o) 41)).heap.size := hOb.lt
  go_enter Try.func21, Try.ntmps21
  go_upto_region 1 with fail
  generalize w.alloc (.cells (opA o) 41) = w0 at *
  have HP := Lib.hid hP0; clear hP0 hP
  have HOB := Lib.hid hOb
  have HB0 := Lib.hid hB0; clear hB0
  have HRB := Lib.hid hRB; clear hRB
  have HRM := Lib.hid hRM; clear hRM
  have HASB := Lib.hid hB; clear hB
  have HASM := Lib.hid hM; clear hM
  have HO := Lib.hid ho; clear ho
  have HN := Lib.hid (And.intro hnn (And.intro hm (And.intro hob1 (And.intro hob2 hsz0)))); clear hnn hm hob1 hob2 hsz0
  have d0 := hOb.c0
  rw [hk] at d0
  clear hk hOb
  go_upto_region 3 with fail
  clear d0
  have d3 := HOB.out.c3
  have HLC : Hid (∀ g, w0.heap.size ≤ g → ¬ (Lc g ∨ L g)) := Lib.hid fun g hg h => h.elim (fun h => by have := HP.out.c.lt g h; omega) (fun h => by have := HP.out.r.lt g h; omega)
  go_wp2_with fail
  refine (copyx_any o.B (vb o.bl) o.bl.length o.bc (by simp [vb]) (vb_onec _) w0 HO.out.hb.2.2 HRB.out).mono ?_
  rintro e w1 ⟨rfl, ho1, hb1⟩
  have hob1 := HOB.out.call hb1
  have HP1 := Lib.hid (HP.out.call hb1)
  have HRB1 := Lib.hid (HRB.out.go hb1)
  have HB1 := Lib.hid hb1
  have HO1 := Lib.hid ho1
  have hz01 : w0.heap.size ≤ w1.heap.size := hb1.size
  have HG1 : Hid (w0.heap.size < w1.heap.size) := Lib.hid (by have := (ho1.lt w0.heap.size rfl).2; exact this)
  clear d3 hb1 ho1
  have d1 := hob1.c1
  have d3 := hob1.c3
  go_wp2_with fail
  refine (cdwrite_any w1 d n Lc D HP1.out.c o.i (some ⟨w0.heap.size, 0, none⟩) o.bl o.bl.length (o.bl.length + 3) rfl (by omega) HO.out.hb.2.2 (own_rd8 HO1.out) (fun _ ad e h => by cases e; exact HLC.out w0.heap.size (Nat.le_refl _) (.inl h)) (by have := HN.out.2.1; omega)).mono ?_
  rintro e w2 ⟨rfl, hc2, hk2⟩
  have hob2 := hob1.keep hk2 HN.out.2.2.1
  have HC2 := Lib.hid (And.intro hc2 hk2); clear hc2 hk2 d1 d3 hob1
  have HR2 := Lib.hid (HP1.out.code HC2.out.1 HC2.out.2).1
  have HO2 : Hid (w2.ownsRow w0.heap.size 5 1 (.slice (some ⟨w0.heap.size, 0, none⟩) o.bl.length (o.bl.length + 3)) o.bl.length (vb o.bl)) := Lib.hid (own_same HO1.out fun b hb => by
    cases hb
    exact HC2.out.2.block _ (HO1.out.lt _ rfl).2 (fun h => HLC.out w0.heap.size (Nat.le_refl _) (.inl h)))
  have HRB2 := Lib.hid (HRB1.out.kept HC2.out.2 (fun h0 ad e h => HASB.out h0 ad e (.inl h)))
  have hsm := rsamev_any (some ⟨w0.heap.size, 0, none⟩) o.B o.bl o.bl _ _ (o.bl.length + 3) o.bc rfl rfl w2 (own_rd8 HO2.out) HRB2.out
  rw [show (o.bl == o.bl) = true from by simp] at hsm
  have HSM := Lib.hid hsm; clear hsm HO1 HRB1
  have d1 := hob2.c1
  have d3 := hob2.c3
  obtain ⟨E, hE⟩ : ∃ E, E = D.writeE n o.i o.bl := ⟨_, rfl⟩
  have hrw := rdwrite_any w2 p n L D o.i o.B o.bl o.bl.length o.bc HR2.out rfl HRB2.out (fun h0 ad e h => HASB.out h0 ad e (.inr h)) (by have := HN.out.2.1; have := load_waits D; omega) (by have := HN.out.1; omega)
  rw [← hE] at hrw
  rw [← hE]
  have HRW := Lib.hid hrw; clear hrw hE
  go_wp2_with fail
  refine HSM.out.mono ?_
  rintro e wz ⟨rfl, ew⟩
  have ew := ew.symm
  subst ew
  clear HSM
  go_wp2_with fail
  refine HRW.out.mono ?_
  rintro e w3 ⟨rfl, hr3, hk3⟩
  clear HRW d1 d3 hob2
  obtain ⟨hP3, hO3, hK3⟩ := HP1.out.both HC2.out.1 HC2.out.2 hr3 hk3
  have HPX := Lib.hid hP3
  have HKX : Hid (Ours w0 Lc L (ext Lc w1 w2) (ext L w2 w3) ∧ Keep (fun b => Lc b ∨ L b) w0 w3) := Lib.hid ⟨fun b h => (hO3 b h).imp id (fun h => h.imp id fun h => Nat.le_trans hz01 h), (Keep.of HB1.out).trans hK3 fun b _ h => h⟩
  have hz12 := HC2.out.2.size
  have HGX : Hid (∀ g, (Value.slice (some ⟨w0.heap.size, 0, none⟩) o.bl.length (o.bl.length + 3)).ownBlock = some g → ¬ (ext Lc w1 w2 g ∨ ext L w2 w3 g)) := Lib.hid fun g hg h => by
    have hlt := (HO2.out.lt g hg).2
    cases hg
    have hlt1 : w0.heap.size < w1.heap.size := HG1.out
    rcases h with (h | h) | (h | h)
    · exact HLC.out _ (Nat.le_refl _) (.inl h)
    · have h1 : w1.heap.size ≤ w0.heap.size := h.1
      omega
    · exact HLC.out _ (Nat.le_refl _) (.inr h)
    · have h1 : w2.heap.size ≤ w0.heap.size := h.1
      omega
  have HOW : Hid (∃ xl : List UInt8, xl.length = o.bl.length ∧ w3.ownsRow w0.heap.size 5 1 (.slice (some ⟨w0.heap.size, 0, none⟩) o.bl.length (o.bl.length + 3)) o.bl.length (vb xl)) := Lib.hid ⟨_, rfl, own_same HO2.out fun b hb => by
    have hlt := (HO2.out.lt b hb).2
    cases hb
    exact hk3.block _ hlt (fun h => HLC.out w0.heap.size (Nat.le_refl _) (.inr h))⟩
  have HMB : Hid (o.bl.length ≤ 140737488351232) := Lib.hid HO.out.hb.2.2
  have HSZ : Hid (w0.heap.size ≤ w0.heap.size) := Lib.hid (Nat.le_refl _)
  have HDX := Lib.hid (load_write D n o.i o.bl)
  clear hP3 hO3 hK3 hr3 hk3 hz12 HO2 HRB2 HR2 HC2
  generalize ext Lc w1 w2 = LcX at *
  generalize ext L w2 w3 = LX at *
  generalize D.write n o.i o.bl = DX at *
  generalize hmg : o.bl.length = m at *
  generalize hcg : m + 3 = c1 at *
  clear hmg hcg
  generalize (some (⟨w0.heap.size, 0, none⟩ : Addr)) = A1 at *
  go_wp2_with fail
  go_loopw [49] (fun i wr => ∃ j : Nat, j ≤ m ∧ i = .int .i64 j ∧ (∃ xl : List UInt8, xl.length = m ∧ wr.ownsRow w0.heap.size 5 1 (.slice A1 m c1) m (vb xl)) ∧ Pair wr d p LcX LX n DX ∧ Keep (fun b => Lc b ∨ L b) w0 wr) (fun i _ => m - (intOf i).toNat)
  case atStart => exact ⟨0, Nat.zero_le _, rfl, HOW.out, HPX.out, HKX.out.2⟩
  case round =>
    rename World => wr
    obtain ⟨j, hj, rfl, ⟨xl, hxl, hown⟩, hpr, hkr⟩ := hrel
    have HPR := Lib.hid hpr; clear hpr
    have HKR := Lib.hid hkr; clear hkr
    have hmm := HMB.out
    by_cases hlt : j < m
    · obtain ⟨A', c', eV, _, hg'⟩ := Rd.of_own1 hown
      injection eV with eA eL eC
      obtain ⟨g, hg⟩ := hg' (by omega)
      rw [hg] at eA
      have hgb := hown.lt g (by rw [eA]; rfl)
      have hgX := HGX.out g (by rw [eA]; rfl)
      rw [eA] at hown
      have hfz := hown.frozenAt j
      obtain ⟨x, hx⟩ : ∃ x, x = xl[j]'(by omega) := ⟨_, rfl⟩
      have hce : wr.cell? ⟨g, j, none⟩ = some (.int .u8 (x.toNat : Int)) := (hown.cellAt j (by omega)).trans (by rw [List.getElem?_map, List.getElem?_eq_getElem (by omega), hx]; rfl)
      have hxr : bits .xor .u8 (x.toNat : Int) 255 = ((x ^^^ 255).toNat : Int) := bits_xor x 255
      obtain ⟨y, hy⟩ : ∃ y, y = x ^^^ 255 := ⟨_, rfl⟩
      rw [← hy] at hxr
      have hst := hown.stored j (.int .u8 (y.toNat : Int))
      rw [show (vb xl).set j (.int .u8 (y.toNat : Int)) = vb (xl.set j y) from by simp [vb, List.map_set]] at hst
      have HST := Lib.hid hst
      have hxl2 : (xl.set j y).length = m := by rw [List.length_set, hxl]
      have HXL := Lib.hid hxl2
      clear hst hxl2 hxl hx hy hown hg' hg eL eC
      have hji : (j : Int) < (m : Int) := by omega
      have hkg : Keep (fun b => b = g) wr (wr.setCell ⟨g, j, none⟩ (.int .u8 (y.toNat : Int))) := (Keep.refl (fun b => b = g) wr).setCell (a := ⟨g, j, none⟩) (fun _ => rfl) _
      have hpr2 := HPR.out.keep hkg (fun b hb e => hgX (.inl (e ▸ hb))) (fun b hb e => hgX (.inr (e ▸ hb)))
      have hkr2 : Keep (fun b => Lc b ∨ L b) w0 (wr.setCell ⟨g, j, none⟩ (.int .u8 (y.toNat : Int))) := HKR.out.setCell (a := ⟨g, j, none⟩) (fun h => by have : g < w0.heap.size := h; have := hgb.1; have := HSZ.out; omega) _
      have HNX := Lib.hid (And.intro hpr2 hkr2); clear hpr2 hkr2 hkg
      subst eA
      go_wp2_with fail
      go_roundw
      case rel => exact ⟨j + 1, by omega, by go_num, ⟨_, HXL.out, HST.out.1⟩, HNX.out.1, HNX.out.2⟩
      case measure => simp [intOf]; omega
    · have hji : ¬ (j : Int) < (m : Int) := by omega
      clear hown
      go_wp2_with fail
      go_ret2
      exact doesR_of HB0.out HPR.out HKX.out.1 HKR.out HDX.out (fun _ => rfl)
end Go.Proofs.Ytpepbffhhfgdpaa
