/-
  The document's device (layer 8): Foreign. (Printed by wip/gen/dkforeign.py.)
-/
import Derived.Test.YtpepbffhhfgdpaaFoldB
namespace Go.Proofs.Ytpepbffhhfgdpaa
open Go Go.RowKit
set_option linter.unusedVariables false
set_option linter.unusedSimpArgs false

set_option maxRecDepth 100000 in
set_option maxHeartbeats 16000000 in
theorem rdforeign_any (w : World) (p n : Nat) (L : Nat → Prop) (D : Dev) (i at_ : Int) (A : Option Addr) (b : List UInt8) (len cap : Nat) (h : RD w p L n D) (hn : b.length = len) (hr : Rd w w.heap.size A (vb b)) (hA : b.length ≠ 0 → ∀ ad, A = some ad → ¬ L ad.block) (hl : len ≤ 140737488351360) :
    Calls Try.prog 43 #[.pointer (some ⟨p, 0, none⟩), .int .i64 i, .int .i64 at_, .slice A len cap] w fun e w' => e = .returned (.int .i64 (if forB n i at_ b.length = true then 0 else 2 : Nat)) ∧ RD w' p L n (D.foreign n i at_ b) ∧ Keep L w w' := by
  have hh := rdhas_any w p n L D i h
  by_cases h1 : hasB n i = true
  · rw [h1] at hh
    have HH := Lib.hid hh; clear hh
    by_cases h2 : 0 ≤ at_
    · by_cases h3 : at_ ≤ 256
      · by_cases h4 : at_ + (len : Int) ≤ 256
        · have hf : forB n i at_ b.length = true := by unfold forB; rw [h1, hn]; simp [h2, h4]
          have eW : D.foreign n i at_ b = { D with now := D.now.set i.toNat (over8 (D.now.getD i.toNat []) at_.toNat b), firm := D.firm.set i.toNat (over8 (D.firm.getD i.toNat []) at_.toNat b) } := by unfold Dev.foreign; rw [if_pos hf]
          rw [if_pos hf, eW]
          obtain ⟨i0, i1⟩ := (hasB_iff n i).1 h1
          obtain ⟨k, rfl⟩ : ∃ k : Nat, i = (k : Int) := ⟨i.toNat, by omega⟩
          obtain ⟨a, rfl⟩ : ∃ a : Nat, at_ = (a : Int) := ⟨at_.toNat, by omega⟩
          rw [Int.toNat_natCast, Int.toNat_natCast]
          have hk : k < n := by omega
          have hal : a + len ≤ 256 := by omega
          have hwr : IntKind.i64.wrap (256 - (a : Int)) = 256 - (a : Int) := IntWalk.i64_in _ (by omega)
          have hki : (k : Int) < (n : Int) := by omega
          obtain ⟨old, hold⟩ : ∃ old, old = D.now.getD k [] := ⟨_, rfl⟩
          obtain ⟨oldf, holdf⟩ : ∃ oldf, oldf = D.firm.getD k [] := ⟨_, rfl⟩
          rw [← hold, ← holdf]
          have HOK := Lib.hid h.ok
          have HOLD : Hid (old.length = 256 ∧ oldf.length = 256) := Lib.hid ⟨by rw [hold]; exact h.ok.nr k hk, by rw [holdf]; exact h.ok.fr k hk⟩
          have h00 : RD w p L n { D with now := D.now.set k (ovJ old a b 0), firm := D.firm.set k (ovJ oldf a b 0) } := by
            rw [ovJ_zero, ovJ_zero, hold, holdf, set_get _ _ _ (by rw [h.ok.nl]; exact hk), set_get _ _ _ (by rw [h.ok.fl]; exact hk)]
            exact h
          have HR := Lib.hid h00; clear h00
          have HRD := Lib.hid hr; clear hr
          have HA := Lib.hid hA; clear hA
          have HN := Lib.hid hn; clear hn
          clear h eW hf h1 h2 i0 i1 hold holdf
          have h3' : ¬ (256 : Int) < (a : Int) := by omega
          have h4' : ¬ (256 : Int) - (a : Int) < (len : Int) := by omega
          clear h3 h4
          go_enter Try.func43, Try.ntmps43
          go_wp2_with fail
          refine HH.out.mono ?_
          rintro e w1 ⟨rfl, ew⟩
          have ew := ew.symm
          subst ew
          clear HH
          go_wp2_with fail
          go_loopw [9] (fun i wr => ∃ j : Nat, j ≤ len ∧ i = .int .i64 j ∧ RD wr p L n { D with now := D.now.set k (ovJ old a b j), firm := D.firm.set k (ovJ oldf a b j) } ∧ Keep L w wr) (fun i _ => len - (intOf i).toNat)
          case atStart => exact ⟨0, Nat.zero_le _, rfl, HR.out, Keep.refl _ _⟩
          case round =>
            rename World => wr
            obtain ⟨j, hj, rfl, ⟨S, hrd⟩, hkp⟩ := hrel
            clear HR
            have HR6 := Lib.hid hrd; clear hrd
            have HK6 := Lib.hid hkp; clear hkp
            by_cases hlt : j < len
            · obtain ⟨ad, hAd, hadb, hadc⟩ := HRD.out.at_ (k := j) (by simp [vb, HN.out]; exact hlt)
              have hadL : Hid (¬ L ad.block) := Lib.hid (HA.out (by have := HN.out; omega) ad hAd)
              subst hAd
              obtain ⟨y, hy⟩ : ∃ y, y = b.getD j 0 := ⟨_, rfl⟩
              have HYY := Lib.hid hy; clear hy
              have HY : Hid (∀ W : World, Keep L w W → W.cell? (ad.add j) = some (.int .u8 (y.toNat : Int))) := Lib.hid fun W hk => by
                rw [World.cell?_of_block (w := w) (by rw [add_block]; exact hk.block _ hadb hadL.out), hadc, HYY.out]
                have hjl : j < b.length := by rw [HN.out]; exact hlt
                simp [vb, List.getD_eq_getElem?_getD, List.getElem?_eq_getElem hjl]
              clear hadb hadc
              have hji : (j : Int) < (len : Int) := by omega
              obtain ⟨s, hs⟩ : ∃ s, s = a + j := ⟨_, rfl⟩
              have hsum : IntKind.i64.wrap ((a : Int) + (j : Int)) = (s : Int) := by rw [IntWalk.i64_in _ (by omega)]; omega
              have hsum3 : IntKind.i64.wrap (s : Int) = (s : Int) := IntWalk.i64_in _ (by omega)
              have haj : (s : Int) < 256 := by omega
              have hs256 : s < 256 := by omega
              have HSS := Lib.hid hs; clear hs
              have hkc := HR6.out.c0
              have hkb := HR6.out.sn.cellAt k hk
              have hrow := HR6.out.rn k hk
              have hlen : (({ D with now := D.now.set k (ovJ old a b j), firm := D.firm.set k (ovJ oldf a b j) } : Dev).now.getD k []).length = 256 := HR6.out.ok.nr k hk
              have hkf := hrow.free s
              have hke := hrow.cellAt s (by rw [hlen]; exact hs256)
              have hkl := HR6.out.lg k hk
              have n1 : S.g k ≠ p := fun e => by have := hkl.2; rw [e, HR6.out.lp.2] at this; omega
              have n2 : S.g k ≠ S.bn := fun e => by have := hkl.2; rw [e, HR6.out.lbn.2] at this; omega
              have n3 : S.g k ≠ ad.block := fun e => hadL.out (e ▸ hkl.1)
              have hLg := hkl.1
              have hcy : wr.cell? (ad.add j) = some (.int .u8 (y.toNat : Int)) := HY.out wr HK6.out
              obtain ⟨gk, hgk⟩ : ∃ gk, gk = S.g k := ⟨_, rfl⟩
              obtain ⟨ck, hck⟩ : ∃ ck, ck = S.cg k := ⟨_, rfl⟩
              obtain ⟨bb, hbb⟩ : ∃ bb, bb = S.bn := ⟨_, rfl⟩
              obtain ⟨cb, hcb⟩ : ∃ cb, cb = S.cn := ⟨_, rfl⟩
              rw [← hgk, ← hbb] at n2
              rw [← hgk] at n1 n3 hkf hke hLg
              rw [← hbb, ← hgk, ← hck] at hkb
              rw [← hbb, ← hcb] at hkc
              generalize ((({ D with now := D.now.set k (ovJ old a b j), firm := D.firm.set k (ovJ oldf a b j) } : Dev).now.getD k []).getD s 0) = z0 at hke
              have HE6 := Lib.hid hgk; clear hgk hck hbb hcb hrow hlen hkl
              have HNE := Lib.hid (And.intro n1 (And.intro n2 n3)); clear n1 n2 n3
              go_upto_region 6 with fail
              go_region_held3 (fun w' => w'.cell? ⟨p, 0, none⟩ = some (.slice (some ⟨bb, 0, none⟩) n cb) ∧ w'.cell? ⟨bb, k, none⟩ = some (.slice (some ⟨gk, 0, none⟩) 256 ck) ∧ w'.cell? (ad.add j) = some (.int .u8 (y.toNat : Int)))
                (first
                  | exact ⟨hkc, hkb, hcy⟩
                  | exact ⟨(World.cell?_setCell_other _ _ _ _ (fun e => HNE.out.1 (congrArg Addr.block e))).trans hkc, (World.cell?_setCell_other _ _ _ _ (fun e => HNE.out.2.1 (congrArg Addr.block e))).trans hkb, (World.cell?_setCell_other _ _ _ _ (fun e => HNE.out.2.2 ((congrArg Addr.block e).trans (add_block _ _)))).trans hcy⟩)
                (fail)
              have h6' := HR6.out.setNow (i := k) (k := s) hk hs256 y
              rw [← HE6.out] at h6'
              have k6' : Keep L w (wr.setCell ⟨gk, s, none⟩ (.int .u8 (y.toNat : Int))).drew := (HK6.out.setCell (a := ⟨gk, s, none⟩) (fun _ => hLg) _).drew
              have hR6' : RDs S (wr.setCell ⟨gk, s, none⟩ (.int .u8 (y.toNat : Int))).drew p L n { D with now := D.now.set k (ovJ old a b (j + 1)), firm := D.firm.set k (ovJ oldf a b j) } := by
                have e : (({ D with now := D.now.set k (ovJ old a b j), firm := D.firm.set k (ovJ oldf a b j) } : Dev).now).set k (((({ D with now := D.now.set k (ovJ old a b j), firm := D.firm.set k (ovJ oldf a b j) } : Dev).now).getD k []).set s y) = D.now.set k (ovJ old a b (j + 1)) := by
                  show (D.now.set k (ovJ old a b j)).set k (((D.now.set k (ovJ old a b j)).getD k []).set s y) = _
                  rw [getD_set, if_pos ⟨rfl, by rw [HOK.out.nl]; exact hk⟩, set_set, HSS.out, HYY.out, ovJ_succ _ _ _ _ (by rw [HOLD.out.1]; omega)]
                have h9 : RDs S (wr.setCell ⟨gk, s, none⟩ (.int .u8 (y.toNat : Int))) p L n { D with now := D.now.set k (ovJ old a b (j + 1)), firm := D.firm.set k (ovJ oldf a b j) } := by
                  have := h6'
                  rw [e] at this
                  exact this
                exact h9.keep (fun _ _ => rfl) (Nat.le_refl _)
              clear h6' hkc hkb hkf hke hcy hLg HNE HE6
              try clear hHeld
              generalize (wr.setCell ⟨gk, s, none⟩ (.int .u8 (y.toNat : Int))).drew = w6 at *
              have HR7 := Lib.hid hR6'; clear hR6'
              have HK7 := Lib.hid k6'; clear k6' HR6 HK6
              have hkc := HR7.out.c1
              have hkb := HR7.out.sf.cellAt k hk
              have hrow := HR7.out.rf k hk
              have hlen : (({ D with now := D.now.set k (ovJ old a b (j + 1)), firm := D.firm.set k (ovJ oldf a b j) } : Dev).firm.getD k []).length = 256 := HR7.out.ok.fr k hk
              have hkf := hrow.free s
              have hke := hrow.cellAt s (by rw [hlen]; exact hs256)
              have hkl := HR7.out.lh k hk
              have n1 : S.h k ≠ p := fun e => by have := hkl.2; rw [e, HR7.out.lp.2] at this; omega
              have n2 : S.h k ≠ S.bf := fun e => by have := hkl.2; rw [e, HR7.out.lbf.2] at this; omega
              have n3 : S.h k ≠ ad.block := fun e => hadL.out (e ▸ hkl.1)
              have hLg := hkl.1
              have hcy : w6.cell? (ad.add j) = some (.int .u8 (y.toNat : Int)) := HY.out w6 HK7.out
              obtain ⟨gk, hgk⟩ : ∃ gk, gk = S.h k := ⟨_, rfl⟩
              obtain ⟨ck, hck⟩ : ∃ ck, ck = S.ch k := ⟨_, rfl⟩
              obtain ⟨bb, hbb⟩ : ∃ bb, bb = S.bf := ⟨_, rfl⟩
              obtain ⟨cb, hcb⟩ : ∃ cb, cb = S.cf := ⟨_, rfl⟩
              rw [← hgk, ← hbb] at n2
              rw [← hgk] at n1 n3 hkf hke hLg
              rw [← hbb, ← hgk, ← hck] at hkb
              rw [← hbb, ← hcb] at hkc
              generalize ((({ D with now := D.now.set k (ovJ old a b (j + 1)), firm := D.firm.set k (ovJ oldf a b j) } : Dev).firm.getD k []).getD s 0) = z0 at hke
              have HE7 := Lib.hid hgk; clear hgk hck hbb hcb hrow hlen hkl
              have HNE := Lib.hid (And.intro n1 (And.intro n2 n3)); clear n1 n2 n3
              go_upto_region 7 with fail
              go_region_held3 (fun w' => w'.cell? ⟨p, 1, none⟩ = some (.slice (some ⟨bb, 0, none⟩) n cb) ∧ w'.cell? ⟨bb, k, none⟩ = some (.slice (some ⟨gk, 0, none⟩) 256 ck) ∧ w'.cell? (ad.add j) = some (.int .u8 (y.toNat : Int)))
                (first
                  | exact ⟨hkc, hkb, hcy⟩
                  | exact ⟨(World.cell?_setCell_other _ _ _ _ (fun e => HNE.out.1 (congrArg Addr.block e))).trans hkc, (World.cell?_setCell_other _ _ _ _ (fun e => HNE.out.2.1 (congrArg Addr.block e))).trans hkb, (World.cell?_setCell_other _ _ _ _ (fun e => HNE.out.2.2 ((congrArg Addr.block e).trans (add_block _ _)))).trans hcy⟩)
                (fail)
              have h7' := HR7.out.setFirm (i := k) (k := s) hk hs256 y
              rw [← HE7.out] at h7'
              have k7' : Keep L w (w6.setCell ⟨gk, s, none⟩ (.int .u8 (y.toNat : Int))).drew := (HK7.out.setCell (a := ⟨gk, s, none⟩) (fun _ => hLg) _).drew
              have hR7' : RDs S (w6.setCell ⟨gk, s, none⟩ (.int .u8 (y.toNat : Int))).drew p L n { D with now := D.now.set k (ovJ old a b (j + 1)), firm := D.firm.set k (ovJ oldf a b (j + 1)) } := by
                have e : (({ D with now := D.now.set k (ovJ old a b (j + 1)), firm := D.firm.set k (ovJ oldf a b j) } : Dev).firm).set k (((({ D with now := D.now.set k (ovJ old a b (j + 1)), firm := D.firm.set k (ovJ oldf a b j) } : Dev).firm).getD k []).set s y) = D.firm.set k (ovJ oldf a b (j + 1)) := by
                  show (D.firm.set k (ovJ oldf a b j)).set k (((D.firm.set k (ovJ oldf a b j)).getD k []).set s y) = _
                  rw [getD_set, if_pos ⟨rfl, by rw [HOK.out.fl]; exact hk⟩, set_set, HSS.out, HYY.out, ovJ_succ _ _ _ _ (by rw [HOLD.out.2]; omega)]
                have h9 : RDs S (w6.setCell ⟨gk, s, none⟩ (.int .u8 (y.toNat : Int))) p L n { D with now := D.now.set k (ovJ old a b (j + 1)), firm := D.firm.set k (ovJ oldf a b (j + 1)) } := by
                  have := h7'
                  rw [e] at this
                  exact this
                exact h9.keep (fun _ _ => rfl) (Nat.le_refl _)
              clear h7' hkc hkb hkf hke hcy hLg HNE HE7
              try clear hHeld
              generalize (w6.setCell ⟨gk, s, none⟩ (.int .u8 (y.toNat : Int))).drew = w7 at *
              have HR8 := Lib.hid hR7'; clear hR7'
              have HK8 := Lib.hid k7'; clear k7' HR7 HK7
              go_wp2_with fail
              go_roundw
              case rel => exact ⟨j + 1, by omega, by go_num, ⟨S, HR8.out⟩, HK8.out⟩
              case measure => simp [intOf]; omega
            · have hji : ¬ (j : Int) < (len : Int) := by omega
              have hjn : j = b.length := by have := HN.out; omega
              rw [hjn] at HR6
              rw [ovJ_all, ovJ_all] at HR6
              clear hjn
              go_wp2_with fail
              go_ret
              exact ⟨rfl, ⟨S, HR6.out⟩, HK6.out⟩
        · have hf : forB n i at_ b.length = false := by unfold forB; rw [h1, hn]; simp [h4]
          have eW : D.foreign n i at_ b = D := by unfold Dev.foreign; rw [if_neg (by rw [hf]; decide)]
          rw [if_neg (by rw [hf]; decide), eW]
          have hwr : IntKind.i64.wrap (256 - at_) = 256 - at_ := IntWalk.i64_in _ (by omega)
          have h2' : ¬ at_ < 0 := by omega
          have h3' : ¬ (256 : Int) < at_ := by omega
          have h4' : (256 : Int) - at_ < (len : Int) := by omega
          have HF := Lib.hid h; clear h
          clear hr hA hn hf eW h1 h2 h3 h4
          go_enter Try.func43, Try.ntmps43
          go_wp2_with fail
          refine HH.out.mono ?_
          rintro e w1 ⟨rfl, ew⟩
          have ew := ew.symm
          subst ew
          go_wp2_with fail
          go_ret
          exact ⟨rfl, HF.out, Keep.refl _ _⟩
      · have hf : forB n i at_ b.length = false := by
          unfold forB
          have : ¬ at_ + (b.length : Int) ≤ 256 := by omega
          simp [this]
        have eW : D.foreign n i at_ b = D := by unfold Dev.foreign; rw [if_neg (by rw [hf]; decide)]
        rw [if_neg (by rw [hf]; decide), eW]
        have h2' : ¬ at_ < 0 := by omega
        have h3' : (256 : Int) < at_ := by omega
        have HF := Lib.hid h; clear h
        clear hr hA hn hf eW h1 h2 h3
        go_enter Try.func43, Try.ntmps43
        go_wp2_with fail
        refine HH.out.mono ?_
        rintro e w1 ⟨rfl, ew⟩
        have ew := ew.symm
        subst ew
        go_wp2_with fail
        go_ret
        exact ⟨rfl, HF.out, Keep.refl _ _⟩
    · have hf : forB n i at_ b.length = false := by unfold forB; simp [h2]
      have eW : D.foreign n i at_ b = D := by unfold Dev.foreign; rw [if_neg (by rw [hf]; decide)]
      rw [if_neg (by rw [hf]; decide), eW]
      have h2' : at_ < 0 := by omega
      have HF := Lib.hid h; clear h
      clear hr hA hn hf eW h1 h2
      go_enter Try.func43, Try.ntmps43
      go_wp2_with fail
      refine HH.out.mono ?_
      rintro e w1 ⟨rfl, ew⟩
      have ew := ew.symm
      subst ew
      go_wp2_with fail
      go_ret
      exact ⟨rfl, HF.out, Keep.refl _ _⟩
  · have hf : forB n i at_ b.length = false := by unfold forB; simp [h1]
    have eW : D.foreign n i at_ b = D := by unfold Dev.foreign; rw [if_neg (by rw [hf]; decide)]
    rw [if_neg (by rw [hf]; decide), eW]
    rw [show hasB n i = false from by simpa using h1] at hh
    have HH := Lib.hid hh; clear hh
    have HF := Lib.hid h; clear h
    clear hr hA hn hf eW h1
    go_enter Try.func43, Try.ntmps43
    go_wp2_with fail
    refine HH.out.mono ?_
    rintro e w1 ⟨rfl, ew⟩
    have ew := ew.symm
    subst ew
    go_wp2_with fail
    go_ret
    exact ⟨rfl, HF.out, Keep.refl _ _⟩
end Go.Proofs.Ytpepbffhhfgdpaa
