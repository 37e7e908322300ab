/-
  The document's device (layer 8): Crash.
-/
import Derived.Test.YtpepbffhhfgdpaaFoldB
namespace Go.Proofs.Ytpepbffhhfgdpaa
open Go Go.RowKit
set_option linter.unusedVariables false
set_option linter.unusedSimpArgs false

theorem bit_t (x e : Nat) : ((x : Int) / 2 ^ e).tmod 2 = ((x / 2 ^ e % 2 : Nat) : Int) := by
  have h1 : (x : Int) / 2 ^ e = ((x / 2 ^ e : Nat) : Int) := by rw [Int.natCast_ediv, Int.natCast_pow]; rfl
  rw [h1, Int.tmod_eq_emod_of_nonneg (Int.natCast_nonneg _)]; rfl
set_option maxRecDepth 100000 in
set_option maxHeartbeats 16000000 in
theorem rdcrash_any (w : World) (p n : Nat) (L : Nat → Prop) (D : Dev) (A : Option Addr) (ms : List UInt8) (len cap : Nat) (h : RD w p L n D) (hn : ms.length = len) (hr : Rd w w.heap.size A (vb ms)) (hA : ms.length ≠ 0 → ∀ ad, A = some ad → ¬ L ad.block) (hnn : n ≤ 100000) (hm : D.waits.length ≤ 1000000) (hl : len ≤ 140737488351360) :
    Calls Try.prog 41 #[.pointer (some ⟨p, 0, none⟩), .slice A len cap] w fun e w' => e = .returned (.tuple #[]) ∧ RD w' p (ext L w w') n (D.crash (ms.map UInt8.toNat)) ∧ Keep L w w' := by
  have HLT := Lib.hid h.lt
  have hok := h.ok
  have hL : L p := by obtain ⟨S, h⟩ := h; exact h.lp.1
  have HR0 := Lib.hid h; clear h
  have HRD := Lib.hid hr; clear hr
  have HA := Lib.hid hA; clear hA
  have HN := Lib.hid hn; clear hn
  obtain ⟨W, hW⟩ : ∃ W, W = D.waits := ⟨_, rfl⟩
  obtain ⟨wl, hwl⟩ : ∃ wl, wl = D.waits.length := ⟨_, rfl⟩
  rw [← hwl] at hm
  have HWL := Lib.hid (And.intro hW hwl); clear hW hwl
  have HOK := Lib.hid hok; clear hok
  obtain ⟨mm, hmm⟩ : ∃ mm, mm = ms.map UInt8.toNat := ⟨_, rfl⟩
  rw [← hmm]
  have HMM := Lib.hid hmm; clear hmm
  have h00 : RD w p L n { D with firm := crN D.waits mm D.firm 0 } := HR0.out
  have HR := Lib.hid h00; clear h00
  go_enter Try.func41, Try.ntmps41
  go_wp2_with fail
  go_loopw [4] (fun i wr => ∃ k : Nat, k ≤ wl ∧ k ≤ len ∧ i = .int .i64 k ∧ RD wr p L n { D with firm := crN D.waits mm D.firm k } ∧ Keep L w wr) (fun i _ => wl - (intOf i).toNat)
  case atStart => exact ⟨0, Nat.zero_le _, Nat.zero_le _, rfl, HR.out, Keep.refl _ _⟩
  case round =>
    rename World => wr
    obtain ⟨k, hk1, hk2, rfl, ⟨S, hrd⟩, hkp⟩ := hrel
    clear HR
    have HR := Lib.hid hrd; clear hrd
    have HK := Lib.hid hkp; clear hkp
    obtain ⟨Aw, cw, hwv, _, _⟩ := Rd.of_own1 HR.out.ww
    have d2 := HR.out.c2
    rw [hwv] at d2
    rw [show ({ D with firm := crN D.waits mm D.firm k } : Dev).waits.length = wl from HWL.out.2.symm] at d2
    by_cases hlt : k < wl
    · have hi1 : (k : Int) < (wl : Int) := by omega
      by_cases hlt2 : k < len
      · have hi2 : (k : Int) < (len : Int) := by omega
        go_upto_region 3 with fail
        clear d2
        go_upto_region 4 with fail
        go_loopw [5] (fun i wx => ∃ j : Nat, j ≤ 256 ∧ i = .int .i64 j ∧ RD wx p L n { D with firm := (crN D.waits mm D.firm k).set (D.waits.getD k (0, [])).1 (crJ (mm.getD k 0) ((crN D.waits mm D.firm k).getD (D.waits.getD k (0, [])).1 []) (D.waits.getD k (0, [])).2 j) } ∧ Keep L w wx) (fun i _ => 256 - (intOf i).toNat)
        case atStart =>
          refine ⟨0, Nat.zero_le _, rfl, ?_, HK.out⟩
          have hwk := HOK.out.wl k (by rw [← HWL.out.2]; exact hlt)
          have hr := crN_row D.waits mm D.firm n HOK.out.fr k _ hwk.1
          rw [crJ_zero _ _ _ hr, set_get _ _ _ (by rw [crN_len, HOK.out.fl]; exact hwk.1)]
          exact ⟨S, HR.out⟩
        case round =>
          rename World => wx
          obtain ⟨j, hj, rfl, hrj, hkj⟩ := hrel
          by_cases hj2 : j < 256
          · have hji : (j : Int) < 256 := by omega
            obtain ⟨ad, hAd, hadb, hadc⟩ := (HRD.out.kept hkj HA.out).at_ (k := k) (by simp [vb, HN.out]; exact hlt2)
            obtain ⟨x, hx⟩ : ∃ x, x = mm.getD k 0 := ⟨_, rfl⟩
            have hadx : wx.cell? (ad.add k) = some (.int .u8 (x : Int)) := by
              rw [hadc, hx, HMM.out]
              have hkl : k < ms.length := by rw [HN.out]; exact hlt2
              simp [vb, List.getD_eq_getElem?_getD, List.getElem?_eq_getElem hkl]
            clear hadc hadb
            rw [← hx] at hrj ⊢
            obtain ⟨Sj, hrj⟩ := hrj
            obtain ⟨atn, hat⟩ : ∃ atn, atn = (D.waits.getD k (0, [])).1 := ⟨_, rfl⟩
            obtain ⟨nw, hnw⟩ : ∃ nw, nw = (D.waits.getD k (0, [])).2 := ⟨_, rfl⟩
            have hwk := HOK.out.wl k (by rw [← HWL.out.2]; exact hlt)
            rw [← hat, ← hnw] at hwk
            rw [← hat, ← hnw] at hrj ⊢
            obtain ⟨F, hF⟩ : ∃ F, F = crN D.waits mm D.firm k := ⟨_, rfl⟩
            obtain ⟨old, hold⟩ : ∃ old, old = F.getD atn [] := ⟨_, rfl⟩
            rw [← hF, ← hold] at hrj ⊢
            have HRJ := Lib.hid hrj; clear hrj
            have HKJ := Lib.hid hkj; clear hkj
            have HX := Lib.hid (And.intro hx (And.intro hat (And.intro hnw (And.intro hF hold)))); clear hx hat hnw hF hold
            by_cases hb : x / 2 ^ (j / 64) % 2 = 1
            · have hbi : ((x : Int) / 2 ^ (j / 64)).tmod 2 = 1 := by rw [bit_t, hb]; rfl
              have hwlj : (({ D with firm := F.set atn (crJ x old nw j) } : Dev).waits.length) = wl := HWL.out.2.symm
              obtain ⟨Awj, cwj, hwvj, _, hgj⟩ := Rd.of_own1 HRJ.out.ww
              rw [hwlj] at hwvj hgj
              obtain ⟨bw, rfl⟩ := hgj (by omega)
              have hww := HRJ.out.ww
              rw [hwlj, hwvj] at hww
              have hka : wx.cell? ⟨bw, k * 2, none⟩ = some (.int .i64 (atn : Int)) := by
                rw [hww.cellAt (k * 2) (by omega), prs_a _ _ _ _ hlt, HX.out.2.1]; rfl
              have hkb : wx.cell? ⟨bw, k * 2 + 1, none⟩ = some (.slice (some ⟨Sj.q k, 0, none⟩) 256 (Sj.cq k)) := by
                rw [hww.cellAt (k * 2 + 1) (by omega), prs_b _ _ _ _ hlt]; rfl
              have hky : wx.cell? ⟨Sj.q k, j, none⟩ = some (.int .u8 ((nw.getD j 0).toNat : Int)) := by
                have hq := HRJ.out.rq k (by rw [hwlj]; exact hlt)
                have : ((({ D with firm := F.set atn (crJ x old nw j) } : Dev).waits.getD k (0, [])).2) = nw := HX.out.2.2.1.symm
                rw [this] at hq
                exact hq.cellAt j (by rw [hwk.2]; exact hj2)
              have hkh : wx.cell? ⟨Sj.bf, atn, none⟩ = some (.slice (some ⟨Sj.h atn, 0, none⟩) 256 (Sj.ch atn)) := HRJ.out.sf.cellAt atn hwk.1
              have hkc := HRJ.out.c1
              have hkd := HRJ.out.c2
              rw [hwvj] at hkd
              have hkf := (HRJ.out.rf atn hwk.1).free j
              have hke := (HRJ.out.rf atn hwk.1).cellAt j (by rw [HRJ.out.ok.fr atn hwk.1]; exact hj2)
              have hkk : Sj.K (Sj.h atn) = 10 * atn + 14 := (HRJ.out.lh atn hwk.1).2
              have n1 : Sj.h atn ≠ p := fun e => by rw [e, HRJ.out.lp.2] at hkk; omega
              have n2 : Sj.h atn ≠ bw := fun e => by rw [e, (HRJ.out.lw bw (by rw [hwvj]; rfl)).2] at hkk; omega
              have n3 : Sj.h atn ≠ Sj.q k := fun e => by rw [e, (HRJ.out.lq k (by rw [hwlj]; exact hlt)).2] at hkk; omega
              have n4 : Sj.h atn ≠ Sj.bf := fun e => by rw [e, HRJ.out.lbf.2] at hkk; omega
              have HN4 := Lib.hid (And.intro n1 (And.intro n2 (And.intro n3 n4))); clear n1 n2 n3 n4 hkk
              have hLf : L (Sj.h atn) := (HRJ.out.lh atn hwk.1).1
              obtain ⟨hb2, hhb2⟩ : ∃ hb2, hb2 = Sj.h atn := ⟨_, rfl⟩
              obtain ⟨hc2, hhc2⟩ : ∃ hc2, hc2 = Sj.ch atn := ⟨_, rfl⟩
              obtain ⟨bf, hbf⟩ : ∃ bf, bf = Sj.bf := ⟨_, rfl⟩
              obtain ⟨cf, hcf⟩ : ∃ cf, cf = Sj.cf := ⟨_, rfl⟩
              obtain ⟨qk, hqk⟩ : ∃ qk, qk = Sj.q k := ⟨_, rfl⟩
              obtain ⟨cqk, hcqk⟩ : ∃ cqk, cqk = Sj.cq k := ⟨_, rfl⟩
              obtain ⟨y, hy⟩ : ∃ y, y = nw.getD j 0 := ⟨_, rfl⟩
              rw [← hhb2, ← hqk, ← hbf] at HN4
              rw [← hhb2] at hLf
              rw [← hqk, ← hcqk] at hkb
              rw [← hqk, ← hy] at hky
              rw [← hbf, ← hhb2, ← hhc2] at hkh
              rw [← hbf, ← hcf] at hkc
              rw [← hhb2] at hkf hke
              have hnk : (({ D with firm := F.set atn (crJ x old nw j) } : Dev).firm.getD atn []).getD j 0 = ((({ D with firm := F.set atn (crJ x old nw j) } : Dev).firm.getD atn []).getD j 0) := rfl
              generalize ((({ D with firm := F.set atn (crJ x old nw j) } : Dev).firm.getD atn []).getD j 0) = z0 at hke
              clear hnk hww
              have HJ := Lib.hid (And.intro hhb2 (And.intro hy hwk)); clear hhb2 hhc2 hbf hcf hqk hcqk hy
              have hati : (atn : Int) < (n : Int) := by have := HJ.out.2.2.1; omega
              clear hwvj hwlj hwv
              go_upto_region 7 with fail
              clear hadx hbi
              go_region_held3 (fun w' => w'.cell? ⟨p, 1, none⟩ = some (.slice (some ⟨bf, 0, none⟩) n cf) ∧ w'.cell? ⟨p, 2, none⟩ = some (.slice (some ⟨bw, 0, none⟩) wl cwj) ∧ w'.cell? ⟨bw, k * 2, none⟩ = some (.int .i64 (atn : Int)) ∧ w'.cell? ⟨bw, k * 2 + 1, none⟩ = some (.slice (some ⟨qk, 0, none⟩) 256 cqk) ∧ w'.cell? ⟨qk, j, none⟩ = some (.int .u8 (y.toNat : Int)) ∧ w'.cell? ⟨bf, atn, none⟩ = some (.slice (some ⟨hb2, 0, none⟩) 256 hc2))
                (first
                  | exact ⟨hkc, hkd, hka, hkb, hky, hkh⟩
                  | exact ⟨(World.cell?_setCell_other _ _ _ _ (fun e => HN4.out.1 (congrArg Addr.block e))).trans hkc, (World.cell?_setCell_other _ _ _ _ (fun e => HN4.out.1 (congrArg Addr.block e))).trans hkd, (World.cell?_setCell_other _ _ _ _ (fun e => HN4.out.2.1 (congrArg Addr.block e))).trans hka, (World.cell?_setCell_other _ _ _ _ (fun e => HN4.out.2.1 (congrArg Addr.block e))).trans hkb,
                      (World.cell?_setCell_other _ _ _ _ (fun e => HN4.out.2.2.1 (congrArg Addr.block e))).trans hky, (World.cell?_setCell_other _ _ _ _ (fun e => HN4.out.2.2.2 (congrArg Addr.block e))).trans hkh⟩)
                (fail)
              go_wp2_with fail
              go_roundw
              case rel =>
                have h8 := HRJ.out.setFirm (i := atn) (k := j) HJ.out.2.2.1 hj2 y
                rw [← HJ.out.1] at h8
                have hFl : atn < F.length := by rw [HX.out.2.2.2.1, crN_len, HOK.out.fl]; exact HJ.out.2.2.1
                have e8 : (F.set atn (crJ x old nw j)).set atn (((F.set atn (crJ x old nw j)).getD atn []).set j y) = F.set atn (crJ x old nw (j + 1)) := by
                  rw [getD_set, if_pos ⟨rfl, hFl⟩, set_set, HJ.out.2.1, crJ_yes x old nw j hj2 hb]
                have e9 : ({ ({ D with firm := F.set atn (crJ x old nw j) } : Dev) with firm := (F.set atn (crJ x old nw j)).set atn (((F.set atn (crJ x old nw j)).getD atn []).set j y) } : Dev) = { D with firm := F.set atn (crJ x old nw (j + 1)) } := by rw [e8]
                refine ⟨j + 1, by omega, by go_num, ⟨Sj, ?_⟩, (HKJ.out.setCell (a := ⟨hb2, j, none⟩) (fun _ => hLf) _).drew⟩
                have h9 : RDs Sj (wx.setCell ⟨hb2, j, none⟩ (.int .u8 (y.toNat : Int))) p L n { D with firm := F.set atn (crJ x old nw (j + 1)) } := by rw [← e9]; exact h8
                exact h9.keep (fun _ _ => rfl) (Nat.le_refl _)
              case measure => simp [intOf]; omega
            · have hb0 : x / 2 ^ (j / 64) % 2 = 0 := by omega
              have hbi : ((x : Int) / 2 ^ (j / 64)).tmod 2 = 0 := by rw [bit_t, hb0]; rfl
              go_wp2_with fail
              go_roundw
              case rel => exact ⟨j + 1, by omega, by go_num, ⟨Sj, by rw [crJ_no x old nw j hb]; exact HRJ.out⟩, HKJ.out⟩
              case measure => simp [intOf]; omega
          · have hj256 : j = 256 := by omega
            have hji : ¬ (j : Int) < 256 := by omega
            rw [hj256, crJ_all] at hrj
            have HRJ := Lib.hid hrj; clear hrj
            have HKJ := Lib.hid hkj; clear hkj
            go_wp2_with fail
            go_roundw
            case rel => exact ⟨k + 1, by omega, by omega, by go_num, HRJ.out, HKJ.out⟩
            case measure => simp [intOf]; omega
      · have hi2 : ¬ (k : Int) < (len : Int) := by omega
        have hcr : crN D.waits mm D.firm k = crF D.waits mm D.firm := by rw [crF_N]; congr 1; rw [HMM.out, List.length_map, HN.out, ← HWL.out.2]; omega
        have hR1 : RD wr p (ext L w wr) n { D with now := mixL (crF D.waits mm D.firm) D.now 0, firm := crF D.waits mm D.firm } := by
          rw [mixL_zero]
          have := HR.out
          rw [hcr] at this
          exact ⟨S, this.more (fun x hx => .inl hx) (fun x hx => hx.elim (this.lt x) (fun h => h.2))⟩
        have HR1 := Lib.hid hR1; clear hR1 hcr
        obtain ⟨G, hG⟩ : ∃ G, G = crF D.waits mm D.firm := ⟨_, rfl⟩
        rw [← hG] at HR1
        have HG : Hid (G.length = n ∧ D.now.length = n) := Lib.hid ⟨by rw [hG, crF_len, HOK.out.fl], HOK.out.nl⟩
        have HGG := Lib.hid hG; clear hG
        go_upto_region 8 with fail
        clear d2
        go_wp2_with fail
        go_loopw [6] (fun i wx => ∃ m : Nat, m ≤ n ∧ i = .int .i64 m ∧ RD wx p (ext L w wx) n { D with now := mixL G D.now m, firm := G } ∧ Keep L w wx) (fun i _ => n - (intOf i).toNat)
        case atStart => exact ⟨0, Nat.zero_le _, rfl, HR1.out, HK.out⟩
        case round =>
          rename World => wx
          obtain ⟨m, hm2, rfl, ⟨Sx, hrd⟩, hkx⟩ := hrel
          clear HR1 HR
          have HR := Lib.hid hrd; clear hrd
          have HKX := Lib.hid hkx; clear hkx
          have d0 := HR.out.c0
          by_cases hlt : m < n
          · have hrow := (HR.out.rf m hlt).rd
            have hlen := HR.out.ok.fr m hlt
            obtain ⟨bn, hbn⟩ : ∃ bn, bn = Sx.bn := ⟨_, rfl⟩
            obtain ⟨cn, hcn⟩ : ∃ cn, cn = Sx.cn := ⟨_, rfl⟩
            obtain ⟨bf, hbf⟩ : ∃ bf, bf = Sx.bf := ⟨_, rfl⟩
            obtain ⟨cf, hcf⟩ : ∃ cf, cf = Sx.cf := ⟨_, rfl⟩
            obtain ⟨gk, hgk⟩ : ∃ gk, gk = Sx.g m := ⟨_, rfl⟩
            obtain ⟨ck, hck⟩ : ∃ ck, ck = Sx.cg m := ⟨_, rfl⟩
            obtain ⟨hk, hhk⟩ : ∃ hk, hk = Sx.h m := ⟨_, rfl⟩
            obtain ⟨hc, hhc⟩ : ∃ hc, hc = Sx.ch m := ⟨_, rfl⟩
            obtain ⟨l, hl⟩ : ∃ l, l = G.getD m [] := ⟨_, rfl⟩
            have hrow2 : Rd wx wx.heap.size (some ⟨hk, 0, none⟩) (vb l) := by rw [hhk, hl]; exact hrow
            have hlen2 : l.length = 256 := by rw [hl]; exact hlen
            clear hrow hlen
            have hheld : ∀ W : World, Below wx.heap.size wx W → W.cell? ⟨p, 0, none⟩ = some (.slice (some ⟨bn, 0, none⟩) n cn) ∧ W.cell? ⟨p, 1, none⟩ = some (.slice (some ⟨bf, 0, none⟩) n cf) ∧ W.cell? ⟨bf, m, none⟩ = some (.slice (some ⟨hk, 0, none⟩) 256 hc) ∧
                W.cell? ⟨bn, m, none⟩ = some (.slice (some ⟨gk, 0, none⟩) 256 ck) ∧ W.frozen? ⟨bn, m, none⟩ = false := fun W hb => by
              have := HR.out.call hb
              rw [hbn, hcn, hbf, hcf, hgk, hck, hhk, hhc]
              exact ⟨this.c0, this.c1, this.sf.cellAt m hlt, this.sn.cellAt m hlt, this.sn.free m⟩
            have HC : Hid (∀ W : World, Below wx.heap.size wx W → Calls Try.prog 10 #[.slice (some ⟨hk, 0, none⟩) 256 hc] W fun e w' => e = .returned (.slice (some ⟨W.heap.size, 0, none⟩) 256 259) ∧ w'.ownsRow W.heap.size 5 1 (.slice (some ⟨W.heap.size, 0, none⟩) 256 259) 256 (vb l) ∧ Below W.heap.size W w') :=
              Lib.hid fun W hb => copyx_any _ (vb l) 256 hc (by simp [vb, hlen2]) (vb_onec l) W (by decide) (hrow2.go hb)
            have hpb : Hid (p ≠ bn ∧ bf ≠ bn) := Lib.hid ⟨fun e => (by have h7 := HR.out.lp.2; rw [e, hbn, HR.out.lbn.2] at h7; cases h7), fun e => (by have h7 := HR.out.lbf.2; rw [← hbf, e, hbn, HR.out.lbn.2] at h7; cases h7)⟩
            rw [← hbn, ← hcn] at d0
            have HE := Lib.hid (And.intro hbn (And.intro hl hlen2)); clear hbn hcn hbf hcf hgk hck hhk hhc hl hlen2 hrow2
            have HH := Lib.hid hheld; clear hheld
            have hmi : (m : Int) < (n : Int) := by omega
            go_upto_region 11 with fail
            clear d0
            go_region_held3 (fun w' => w'.cell? ⟨p, 0, none⟩ = some (.slice (some ⟨bn, 0, none⟩) n cn) ∧ w'.cell? ⟨p, 1, none⟩ = some (.slice (some ⟨bf, 0, none⟩) n cf) ∧ w'.cell? ⟨bf, m, none⟩ = some (.slice (some ⟨hk, 0, none⟩) 256 hc))
              (first
                | exact ⟨(HH.out _ ((Below.refl _ _).drew)).1, (HH.out _ ((Below.refl _ _).drew)).2.1, (HH.out _ ((Below.refl _ _).drew)).2.2.1⟩
                | exact ⟨(HH.out _ (by assumption)).1, (HH.out _ (by assumption)).2.1, (HH.out _ (by assumption)).2.2.1⟩
                | exact ⟨(World.cell?_setCell_other _ _ _ _ (fun e => hpb.out.1 (congrArg Addr.block e).symm)).trans (HH.out _ (by assumption)).1, (World.cell?_setCell_other _ _ _ _ (fun e => hpb.out.1 (congrArg Addr.block e).symm)).trans (HH.out _ (by assumption)).2.1, (World.cell?_setCell_other _ _ _ _ (fun e => hpb.out.2 (congrArg Addr.block e).symm)).trans (HH.out _ (by assumption)).2.2.1⟩)
              ((go_at_call 10; refine (HC.out _ ((Below.refl _ _).drew)).mono ?_; rintro e w3 ⟨rfl, ho3, hb3⟩; have hbw3 : Below wx.heap.size wx w3 := (Below.refl _ _).drew.trans (hb3.mono (Nat.le_refl _)); have hfc := (HH.out _ hbw3).2.2.2.1; have hff := (HH.out _ hbw3).2.2.2.2))
            have hrow : Row w3 wx.heap.size l := by obtain ⟨_, e3, _, hr3⟩ := Row.of_own ho3 (by decide); injection e3 with e3; injection e3 with e3; rw [← e3] at hr3; exact hr3
            have hz3 : wx.heap.size < w3.heap.size := hrow.lt
            have hex : ∀ x, ext L w wx x → x < wx.heap.size := HR.out.lt
            have h4 := (HR.out.call hbw3).newNow (M := ext L w w3) (k := m) (b := wx.heap.size) (c := 259) (l := l) hlt (fun hx => by have := hex _ hx; omega) hrow HE.out.2.2 (fun x hx => hx.imp id fun h => ⟨h.1, by omega⟩) (.inr ⟨HKX.out.size, by omega⟩) (fun x hx => hx.elim (fun hl => by have := hex x (.inl hl); omega) (fun h => h.2))
            rw [← HE.out.1] at h4
            have hk4 : Keep L w (w3.setCell ⟨bn, m, none⟩ (.slice (some ⟨wx.heap.size, 0, none⟩) 256 259)) := (HKX.out.call hbw3).setCell (a := ⟨bn, m, none⟩) (fun hlt => by
              have := HR.out.lbn.1
              rw [← HE.out.1] at this
              exact this.elim id fun h => by have : bn < w.heap.size := hlt; omega) _
            have hz4 : (w3.setCell ⟨bn, m, none⟩ (.slice (some ⟨wx.heap.size, 0, none⟩) 256 259)).heap.size = w3.heap.size := World.size_setCell _ _ _
            have hR4 : RD (w3.setCell ⟨bn, m, none⟩ (.slice (some ⟨wx.heap.size, 0, none⟩) 256 259)) p (ext L w (w3.setCell ⟨bn, m, none⟩ (.slice (some ⟨wx.heap.size, 0, none⟩) 256 259))) n { D with now := mixL G D.now (m + 1), firm := G } := by
              rw [← mixL_succ G D.now n m [] HG.out.1 HG.out.2 hlt, ← HE.out.2.1]
              exact ⟨_, h4.more (fun x hx => hx.imp id fun h => ⟨h.1, by rw [hz4]; exact h.2⟩) (fun x hx => h4.lt x (hx.imp id fun h => ⟨h.1, by have := h.2; rw [hz4] at this; exact this⟩))⟩
            clear h4 hrow hz3 hex hfc hff ho3 hb3 hbw3 HC HH hpb
            have HF := Lib.hid (And.intro hR4 hk4); clear hR4 hk4 hz4
            generalize w3.setCell ⟨bn, m, none⟩ (.slice (some ⟨wx.heap.size, 0, none⟩) 256 259) = w4 at *
            clear HR HKX HE
            go_wp2_with fail
            go_roundw
            case rel => exact ⟨m + 1, by omega, by go_num, HF.out.1, HF.out.2⟩
            case measure => simp [intOf]; omega
          · have hmn : m = n := by omega
            have hmi : ¬ (m : Int) < (n : Int) := by omega
            have hR5 : RDs Sx wx p (ext L w wx) n { D with now := G, firm := G } := by have := HR.out; rwa [hmn, mixL_all G D.now n HG.out.1 HG.out.2] at this
            clear hmn hlt hm2
            have HR5 := Lib.hid hR5; clear hR5
            have d2 := HR5.out.c2
            have f2 := HR5.out.free 2
            go_upto_region 12 with fail
            clear d0
            go_upto_region 13 with fail
            have h6 := HR5.out.noWaits
            have k6 : Keep L w (wx.setCell ⟨p, 2, none⟩ (.slice none 0 0)) := HKX.out.setCell (a := ⟨p, 2, none⟩) (fun _ => hL) _
            have z6 : (wx.setCell ⟨p, 2, none⟩ (.slice none 0 0)).heap.size = wx.heap.size := World.size_setCell _ _ _
            clear d2 f2
            generalize wx.setCell ⟨p, 2, none⟩ (.slice none 0 0) = w6 at *
            have H6 := Lib.hid h6; clear h6
            have Z6 := Lib.hid z6; clear z6
            have d4 := H6.out.c4
            have f4 := H6.out.free 4
            go_upto_region 14 with fail
            have h7 := H6.out.setFail 0 (Nat.zero_le _)
            have k7 : Keep L w (w6.setCell ⟨p, 4, none⟩ (.int .i64 0)) := k6.setCell (a := ⟨p, 4, none⟩) (fun _ => hL) _
            have z7 : (w6.setCell ⟨p, 4, none⟩ (.int .i64 0)).heap.size = wx.heap.size := (World.size_setCell _ _ _).trans Z6.out
            clear d4 f4
            rw [show ((0 : Nat) : Int) = 0 from rfl] at h7
            generalize w6.setCell ⟨p, 4, none⟩ (.int .i64 0) = w7 at *
            have H7 := Lib.hid h7; clear h7
            have Z7 := Lib.hid z7; clear z7
            have d5 := H7.out.c5
            have f5 := H7.out.free 5
            go_upto_region 15 with fail
            have h8 := H7.out.setCut (-1) ⟨Int.le_refl _, by decide⟩
            have k8 : Keep L w (w7.setCell ⟨p, 5, none⟩ (.int .i64 (-1))) := k7.setCell (a := ⟨p, 5, none⟩) (fun _ => hL) _
            have z8 : (w7.setCell ⟨p, 5, none⟩ (.int .i64 (-1))).heap.size = wx.heap.size := (World.size_setCell _ _ _).trans Z7.out
            clear d5 f5
            generalize w7.setCell ⟨p, 5, none⟩ (.int .i64 (-1)) = w8 at *
            have H8 := Lib.hid h8; clear h8
            have Z8 := Lib.hid z8; clear z8
            have d6 := H8.out.c6
            have f6 := H8.out.free 6
            go_wp2_with fail
            have h9 := H8.out.setDown false
            have k9 : Keep L w (w8.setCell ⟨p, 6, none⟩ (.bool false)) := k8.setCell (a := ⟨p, 6, none⟩) (fun _ => hL) _
            have z9 : (w8.setCell ⟨p, 6, none⟩ (.bool false)).heap.size = wx.heap.size := (World.size_setCell _ _ _).trans Z8.out
            have HF : Hid (RD (w8.setCell ⟨p, 6, none⟩ (.bool false)) p (ext L w (w8.setCell ⟨p, 6, none⟩ (.bool false))) n (D.crash mm) ∧ Keep L w (w8.setCell ⟨p, 6, none⟩ (.bool false))) := by
              have e : D.crash mm = { now := G, firm := G, waits := [], steps := D.steps, fail := 0, cut := -1, down := false } := by unfold Dev.crash; rw [← HGG.out]
              rw [e]
              exact Lib.hid ⟨⟨_, h9.more (fun x hx => hx.imp id fun h => ⟨h.1, by rw [z9]; exact h.2⟩) (fun x hx => h9.lt x (hx.imp id fun h => ⟨h.1, by have := h.2; rw [z9] at this; exact this⟩))⟩, k9⟩
            clear h9 k9 z9 d6 f6 k8 k7 k6
            generalize w8.setCell ⟨p, 6, none⟩ (.bool false) = w9 at *
            go_returns
            exact ⟨rfl, HF.out⟩
    · have hi1 : ¬ (k : Int) < (wl : Int) := by omega
      have hcr : crN D.waits mm D.firm k = crF D.waits mm D.firm := by rw [crF_N]; congr 1; rw [HMM.out, List.length_map, HN.out, ← HWL.out.2]; omega
      have hR1 : RD wr p (ext L w wr) n { D with now := mixL (crF D.waits mm D.firm) D.now 0, firm := crF D.waits mm D.firm } := by
        rw [mixL_zero]
        have := HR.out
        rw [hcr] at this
        exact ⟨S, this.more (fun x hx => .inl hx) (fun x hx => hx.elim (this.lt x) (fun h => h.2))⟩
      have HR1 := Lib.hid hR1; clear hR1 hcr
      obtain ⟨G, hG⟩ : ∃ G, G = crF D.waits mm D.firm := ⟨_, rfl⟩
      rw [← hG] at HR1
      have HG : Hid (G.length = n ∧ D.now.length = n) := Lib.hid ⟨by rw [hG, crF_len, HOK.out.fl], HOK.out.nl⟩
      have HGG := Lib.hid hG; clear hG
      go_upto_region 8 with fail
      clear d2
      go_wp2_with fail
      go_loopw [6] (fun i wx => ∃ m : Nat, m ≤ n ∧ i = .int .i64 m ∧ RD wx p (ext L w wx) n { D with now := mixL G D.now m, firm := G } ∧ Keep L w wx) (fun i _ => n - (intOf i).toNat)
      case atStart => exact ⟨0, Nat.zero_le _, rfl, HR1.out, HK.out⟩
      case round =>
        rename World => wx
        obtain ⟨m, hm2, rfl, ⟨Sx, hrd⟩, hkx⟩ := hrel
        clear HR1 HR
        have HR := Lib.hid hrd; clear hrd
        have HKX := Lib.hid hkx; clear hkx
        have d0 := HR.out.c0
        by_cases hlt : m < n
        · have hrow := (HR.out.rf m hlt).rd
          have hlen := HR.out.ok.fr m hlt
          obtain ⟨bn, hbn⟩ : ∃ bn, bn = Sx.bn := ⟨_, rfl⟩
          obtain ⟨cn, hcn⟩ : ∃ cn, cn = Sx.cn := ⟨_, rfl⟩
          obtain ⟨bf, hbf⟩ : ∃ bf, bf = Sx.bf := ⟨_, rfl⟩
          obtain ⟨cf, hcf⟩ : ∃ cf, cf = Sx.cf := ⟨_, rfl⟩
          obtain ⟨gk, hgk⟩ : ∃ gk, gk = Sx.g m := ⟨_, rfl⟩
          obtain ⟨ck, hck⟩ : ∃ ck, ck = Sx.cg m := ⟨_, rfl⟩
          obtain ⟨hk, hhk⟩ : ∃ hk, hk = Sx.h m := ⟨_, rfl⟩
          obtain ⟨hc, hhc⟩ : ∃ hc, hc = Sx.ch m := ⟨_, rfl⟩
          obtain ⟨l, hl⟩ : ∃ l, l = G.getD m [] := ⟨_, rfl⟩
          have hrow2 : Rd wx wx.heap.size (some ⟨hk, 0, none⟩) (vb l) := by rw [hhk, hl]; exact hrow
          have hlen2 : l.length = 256 := by rw [hl]; exact hlen
          clear hrow hlen
          have hheld : ∀ W : World, Below wx.heap.size wx W → W.cell? ⟨p, 0, none⟩ = some (.slice (some ⟨bn, 0, none⟩) n cn) ∧ W.cell? ⟨p, 1, none⟩ = some (.slice (some ⟨bf, 0, none⟩) n cf) ∧ W.cell? ⟨bf, m, none⟩ = some (.slice (some ⟨hk, 0, none⟩) 256 hc) ∧
              W.cell? ⟨bn, m, none⟩ = some (.slice (some ⟨gk, 0, none⟩) 256 ck) ∧ W.frozen? ⟨bn, m, none⟩ = false := fun W hb => by
            have := HR.out.call hb
            rw [hbn, hcn, hbf, hcf, hgk, hck, hhk, hhc]
            exact ⟨this.c0, this.c1, this.sf.cellAt m hlt, this.sn.cellAt m hlt, this.sn.free m⟩
          have HC : Hid (∀ W : World, Below wx.heap.size wx W → Calls Try.prog 10 #[.slice (some ⟨hk, 0, none⟩) 256 hc] W fun e w' => e = .returned (.slice (some ⟨W.heap.size, 0, none⟩) 256 259) ∧ w'.ownsRow W.heap.size 5 1 (.slice (some ⟨W.heap.size, 0, none⟩) 256 259) 256 (vb l) ∧ Below W.heap.size W w') :=
            Lib.hid fun W hb => copyx_any _ (vb l) 256 hc (by simp [vb, hlen2]) (vb_onec l) W (by decide) (hrow2.go hb)
          have hpb : Hid (p ≠ bn ∧ bf ≠ bn) := Lib.hid ⟨fun e => (by have h7 := HR.out.lp.2; rw [e, hbn, HR.out.lbn.2] at h7; cases h7), fun e => (by have h7 := HR.out.lbf.2; rw [← hbf, e, hbn, HR.out.lbn.2] at h7; cases h7)⟩
          rw [← hbn, ← hcn] at d0
          have HE := Lib.hid (And.intro hbn (And.intro hl hlen2)); clear hbn hcn hbf hcf hgk hck hhk hhc hl hlen2 hrow2
          have HH := Lib.hid hheld; clear hheld
          have hmi : (m : Int) < (n : Int) := by omega
          go_upto_region 11 with fail
          clear d0
          go_region_held3 (fun w' => w'.cell? ⟨p, 0, none⟩ = some (.slice (some ⟨bn, 0, none⟩) n cn) ∧ w'.cell? ⟨p, 1, none⟩ = some (.slice (some ⟨bf, 0, none⟩) n cf) ∧ w'.cell? ⟨bf, m, none⟩ = some (.slice (some ⟨hk, 0, none⟩) 256 hc))
            (first
              | exact ⟨(HH.out _ ((Below.refl _ _).drew)).1, (HH.out _ ((Below.refl _ _).drew)).2.1, (HH.out _ ((Below.refl _ _).drew)).2.2.1⟩
              | exact ⟨(HH.out _ (by assumption)).1, (HH.out _ (by assumption)).2.1, (HH.out _ (by assumption)).2.2.1⟩
              | exact ⟨(World.cell?_setCell_other _ _ _ _ (fun e => hpb.out.1 (congrArg Addr.block e).symm)).trans (HH.out _ (by assumption)).1, (World.cell?_setCell_other _ _ _ _ (fun e => hpb.out.1 (congrArg Addr.block e).symm)).trans (HH.out _ (by assumption)).2.1, (World.cell?_setCell_other _ _ _ _ (fun e => hpb.out.2 (congrArg Addr.block e).symm)).trans (HH.out _ (by assumption)).2.2.1⟩)
            ((go_at_call 10; refine (HC.out _ ((Below.refl _ _).drew)).mono ?_; rintro e w3 ⟨rfl, ho3, hb3⟩; have hbw3 : Below wx.heap.size wx w3 := (Below.refl _ _).drew.trans (hb3.mono (Nat.le_refl _)); have hfc := (HH.out _ hbw3).2.2.2.1; have hff := (HH.out _ hbw3).2.2.2.2))
          have hrow : Row w3 wx.heap.size l := by obtain ⟨_, e3, _, hr3⟩ := Row.of_own ho3 (by decide); injection e3 with e3; injection e3 with e3; rw [← e3] at hr3; exact hr3
          have hz3 : wx.heap.size < w3.heap.size := hrow.lt
          have hex : ∀ x, ext L w wx x → x < wx.heap.size := HR.out.lt
          have h4 := (HR.out.call hbw3).newNow (M := ext L w w3) (k := m) (b := wx.heap.size) (c := 259) (l := l) hlt (fun hx => by have := hex _ hx; omega) hrow HE.out.2.2 (fun x hx => hx.imp id fun h => ⟨h.1, by omega⟩) (.inr ⟨HKX.out.size, by omega⟩) (fun x hx => hx.elim (fun hl => by have := hex x (.inl hl); omega) (fun h => h.2))
          rw [← HE.out.1] at h4
          have hk4 : Keep L w (w3.setCell ⟨bn, m, none⟩ (.slice (some ⟨wx.heap.size, 0, none⟩) 256 259)) := (HKX.out.call hbw3).setCell (a := ⟨bn, m, none⟩) (fun hlt => by
            have := HR.out.lbn.1
            rw [← HE.out.1] at this
            exact this.elim id fun h => by have : bn < w.heap.size := hlt; omega) _
          have hz4 : (w3.setCell ⟨bn, m, none⟩ (.slice (some ⟨wx.heap.size, 0, none⟩) 256 259)).heap.size = w3.heap.size := World.size_setCell _ _ _
          have hR4 : RD (w3.setCell ⟨bn, m, none⟩ (.slice (some ⟨wx.heap.size, 0, none⟩) 256 259)) p (ext L w (w3.setCell ⟨bn, m, none⟩ (.slice (some ⟨wx.heap.size, 0, none⟩) 256 259))) n { D with now := mixL G D.now (m + 1), firm := G } := by
            rw [← mixL_succ G D.now n m [] HG.out.1 HG.out.2 hlt, ← HE.out.2.1]
            exact ⟨_, h4.more (fun x hx => hx.imp id fun h => ⟨h.1, by rw [hz4]; exact h.2⟩) (fun x hx => h4.lt x (hx.imp id fun h => ⟨h.1, by have := h.2; rw [hz4] at this; exact this⟩))⟩
          clear h4 hrow hz3 hex hfc hff ho3 hb3 hbw3 HC HH hpb
          have HF := Lib.hid (And.intro hR4 hk4); clear hR4 hk4 hz4
          generalize w3.setCell ⟨bn, m, none⟩ (.slice (some ⟨wx.heap.size, 0, none⟩) 256 259) = w4 at *
          clear HR HKX HE
          go_wp2_with fail
          go_roundw
          case rel => exact ⟨m + 1, by omega, by go_num, HF.out.1, HF.out.2⟩
          case measure => simp [intOf]; omega
        · have hmn : m = n := by omega
          have hmi : ¬ (m : Int) < (n : Int) := by omega
          have hR5 : RDs Sx wx p (ext L w wx) n { D with now := G, firm := G } := by have := HR.out; rwa [hmn, mixL_all G D.now n HG.out.1 HG.out.2] at this
          clear hmn hlt hm2
          have HR5 := Lib.hid hR5; clear hR5
          have d2 := HR5.out.c2
          have f2 := HR5.out.free 2
          go_upto_region 12 with fail
          clear d0
          go_upto_region 13 with fail
          have h6 := HR5.out.noWaits
          have k6 : Keep L w (wx.setCell ⟨p, 2, none⟩ (.slice none 0 0)) := HKX.out.setCell (a := ⟨p, 2, none⟩) (fun _ => hL) _
          have z6 : (wx.setCell ⟨p, 2, none⟩ (.slice none 0 0)).heap.size = wx.heap.size := World.size_setCell _ _ _
          clear d2 f2
          generalize wx.setCell ⟨p, 2, none⟩ (.slice none 0 0) = w6 at *
          have H6 := Lib.hid h6; clear h6
          have Z6 := Lib.hid z6; clear z6
          have d4 := H6.out.c4
          have f4 := H6.out.free 4
          go_upto_region 14 with fail
          have h7 := H6.out.setFail 0 (Nat.zero_le _)
          have k7 : Keep L w (w6.setCell ⟨p, 4, none⟩ (.int .i64 0)) := k6.setCell (a := ⟨p, 4, none⟩) (fun _ => hL) _
          have z7 : (w6.setCell ⟨p, 4, none⟩ (.int .i64 0)).heap.size = wx.heap.size := (World.size_setCell _ _ _).trans Z6.out
          clear d4 f4
          rw [show ((0 : Nat) : Int) = 0 from rfl] at h7
          generalize w6.setCell ⟨p, 4, none⟩ (.int .i64 0) = w7 at *
          have H7 := Lib.hid h7; clear h7
          have Z7 := Lib.hid z7; clear z7
          have d5 := H7.out.c5
          have f5 := H7.out.free 5
          go_upto_region 15 with fail
          have h8 := H7.out.setCut (-1) ⟨Int.le_refl _, by decide⟩
          have k8 : Keep L w (w7.setCell ⟨p, 5, none⟩ (.int .i64 (-1))) := k7.setCell (a := ⟨p, 5, none⟩) (fun _ => hL) _
          have z8 : (w7.setCell ⟨p, 5, none⟩ (.int .i64 (-1))).heap.size = wx.heap.size := (World.size_setCell _ _ _).trans Z7.out
          clear d5 f5
          generalize w7.setCell ⟨p, 5, none⟩ (.int .i64 (-1)) = w8 at *
          have H8 := Lib.hid h8; clear h8
          have Z8 := Lib.hid z8; clear z8
          have d6 := H8.out.c6
          have f6 := H8.out.free 6
          go_wp2_with fail
          have h9 := H8.out.setDown false
          have k9 : Keep L w (w8.setCell ⟨p, 6, none⟩ (.bool false)) := k8.setCell (a := ⟨p, 6, none⟩) (fun _ => hL) _
          have z9 : (w8.setCell ⟨p, 6, none⟩ (.bool false)).heap.size = wx.heap.size := (World.size_setCell _ _ _).trans Z8.out
          have HF : Hid (RD (w8.setCell ⟨p, 6, none⟩ (.bool false)) p (ext L w (w8.setCell ⟨p, 6, none⟩ (.bool false))) n (D.crash mm) ∧ Keep L w (w8.setCell ⟨p, 6, none⟩ (.bool false))) := by
            have e : D.crash mm = { now := G, firm := G, waits := [], steps := D.steps, fail := 0, cut := -1, down := false } := by unfold Dev.crash; rw [← HGG.out]
            rw [e]
            exact Lib.hid ⟨⟨_, h9.more (fun x hx => hx.imp id fun h => ⟨h.1, by rw [z9]; exact h.2⟩) (fun x hx => h9.lt x (hx.imp id fun h => ⟨h.1, by have := h.2; rw [z9] at this; exact this⟩))⟩, k9⟩
          clear h9 k9 z9 d6 f6 k8 k7 k6
          generalize w8.setCell ⟨p, 6, none⟩ (.bool false) = w9 at *
          go_returns
          exact ⟨rfl, HF.out⟩
end Go.Proofs.Ytpepbffhhfgdpaa
