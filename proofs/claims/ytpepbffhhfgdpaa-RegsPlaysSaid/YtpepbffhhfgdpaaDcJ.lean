/-
  The landed code's device (layer 8): Crash. (Printed by wip/gen/dccrash.py.)
-/
import Derived.Test.YtpepbffhhfgdpaaFoldC
namespace Go.Proofs.Ytpepbffhhfgdpaa
open Go Go.RowKit
set_option linter.unusedVariables false
set_option linter.unusedSimpArgs false

theorem wr_infoX : ∃ i, Try.prog.info? 83 = some i := by
  have := wr_size
  cases h : Try.prog.info? 83 with
  | none => rw [h] at this; cases this
  | some i => exact ⟨i, rfl⟩
theorem crN_off (ws : List (Nat × List UInt8)) (ms : List Nat) (F : List (List UInt8)) (x : Nat) : ∀ j, (∀ k, k < j → (ws.getD k (0, [])).1 ≠ x) → (crN ws ms F j).getD x [] = F.getD x []
  | 0, _ => rfl
  | j + 1, h => by
    rw [crN, getD_set, if_neg (fun e => h j (by omega) e.1.symm)]
    exact crN_off ws ms F x j fun k hk => h k (by omega)
theorem getD_mapU (ms : List UInt8) (k : Nat) (hk : k < ms.length) : (ms.map UInt8.toNat).getD k 0 = (ms.getD k 0).toNat := by
  rw [List.getD_eq_getElem?_getD, List.getD_eq_getElem?_getD, List.getElem?_map, List.getElem?_eq_getElem hk]; rfl
set_option maxRecDepth 100000 in
set_option maxHeartbeats 40000000 in
theorem cdcrash_any (w : World) (d n : Nat) (L : Nat → Prop) (D : Dev) (h : CD w d L n D) (A : Option Addr) (ms : List UInt8) (len cap : Nat) (hn : ms.length = len) (hc : len ≤ cap) (hl : len ≤ 140737488351232) (hr : Rd w w.heap.size A (vb ms)) (hA : ms.length ≠ 0 → ∀ ad, A = some ad → ¬ L ad.block) (hm : D.waits.length ≤ 1000000) :
    Calls Try.prog 29 #[.pointer (some ⟨d, 0, none⟩), .slice A len cap] w fun e w' => e = .returned (.int .i64 0) ∧ CD w' d (ext L w w') n (D.crash (ms.map UInt8.toNat)) ∧ Keep L w w' := by
  obtain ⟨S, hcd⟩ := h
  obtain ⟨A0, c0, hwf, hwc, hrw⟩ := wv_form hcd
  have d2 := hcd.c2
  rw [hwf] at d2
  obtain ⟨m, hm0⟩ : ∃ m, m = D.waits.length := ⟨_, rfl⟩
  rw [← hm0] at d2 hwf hwc hm
  obtain ⟨t, ht⟩ : ∃ t, t = min m len := ⟨_, rfl⟩
  have htm : t ≤ m := by omega
  have htl : t ≤ len := by omega
  obtain ⟨bf, hbf⟩ : ∃ bf, bf = S.bf := ⟨_, rfl⟩
  obtain ⟨Gs, hGs⟩ : ∃ Gs, Gs = crF D.waits (ms.map UInt8.toNat) D.firm := ⟨_, rfl⟩
  have hGt : crN D.waits (ms.map UInt8.toNat) D.firm t = Gs := by rw [hGs, crF_N, List.length_map, hn, ← hm0, ht]
  have HCD := Lib.hid hcd
  have HT := Lib.hid (And.intro hGt (And.intro htm (And.intro htl (And.intro hbf (And.intro hm0 hwf))))); clear hGt
  have HMS := Lib.hid (And.intro hr (And.intro hA hn)); clear hr hA
  have HGS := Lib.hid hGs
  obtain ⟨iw, hiw⟩ := wr_infoX
  have hhead := fun W : World => run_head (P := Try.prog) 67 83 iw Try.underlying67 hiw A0 m c0 t (by omega) W
  clear hiw
  clear hcd hrw hwf hbf hm0 hGs
  have hmin : (if (m : Int) < (len : Int) then (m : Int) else (len : Int)) = (t : Int) := by split <;> omega
  have hmin2 : min (len : Int) (m : Int) = (t : Int) := by omega
  have hrm : ∀ (W : World) (ts : Array TypeId) (ty : TypeId), (Builtin.min_ ts ty #[.int .i64 (len : Int), .int .i64 (m : Int)]).run Try.prog W = .ok (.int .i64 (t : Int)) W := fun W ts ty => by
    rw [run_min_int2, hmin]
  clear ht hmin hmin2
  go_enter Try.func29, Try.ntmps29
  go_upto_region 3 with fail
  go_wp2_with fail
  clear hrm hhead
  go_loopw [27] (fun ix wr => ∃ j : Nat, j ≤ t ∧ ix = .int .i64 j ∧ Hid (Fr wr bf 81 (n * 256) (bF (crN D.waits (ms.map UInt8.toNat) D.firm j))) ∧ Hid (Keep (fun b => b = bf) w wr)) (fun ix _ => t - (intOf ix).toNat)
  case atStart => exact ⟨0, Nat.zero_le _, rfl, Lib.hid (by rw [HT.out.2.2.2.1]; exact HCD.out.rr), Lib.hid (Keep.refl _ _)⟩
  case round =>
    rename World => wr
    obtain ⟨j, hj, rfl, HFJ, HKJ⟩ := hrel
    by_cases hlt : j < t
    · have hji : (j : Int) < (t : Int) := by omega
      have hcd := HCD.out
      obtain ⟨e0, e1, e2, e3, e4, e5⟩ := HT.out
      obtain ⟨g, cw, hwv, hcw, hrg⟩ := hcd.waitAt (by omega)
      rw [e5] at hwv
      rw [← e4] at hwv hcw hrg
      obtain ⟨rfl, rfl⟩ : A0 = some ⟨g, 0, none⟩ ∧ c0 = cw := by injection hwv with h1 _ h2; exact ⟨h1, h2⟩
      obtain ⟨x, hx⟩ : ∃ x, x = D.waits.getD j (0, []) := ⟨_, rfl⟩
      obtain ⟨hxi, hxl⟩ := hcd.ok.wl j (by omega)
      rw [← hx] at hxi hxl
      have hrg := hrg j (by omega)
      rw [← hx] at hrg
      obtain ⟨i, l⟩ := x
      have hgw := hcd.lw g (by rw [e5]; rfl)
      have hgl := hcd.lt g hgw.1
      have HRG : Hid (wr.rangeAt g (j * 257) (wL (i, l))) := Lib.hid fun q v hq => (World.cell?_of_block (w := w) (HKJ.out.block g hgl (fun e => hgw.2.2.2 (by rw [← e3]; exact e)))).trans (hrg q v hq)
      have HXL : Hid (((i, l) : Nat × List UInt8).2.length = 256) := Lib.hid hxl
      have hjl : j < ms.length := by rw [HMS.out.2.2]; omega
      obtain ⟨adm, eadm, hadl, hsrc⟩ := HMS.out.1 (by rw [List.length_map]; omega)
      have hadn : adm.block ≠ bf := fun e => HMS.out.2.1 (by omega) adm eadm (by rw [e, e3]; exact hcd.ld.2.2)
      obtain ⟨mk, hmk⟩ : ∃ mk, mk = (ms.getD j 0).toNat := ⟨_, rfl⟩
      have hmkc : w.cell? (adm.add j) = some (.int .u8 (mk : Int)) := hsrc j _ (by rw [List.getElem?_map, hmk, List.getD_eq_getElem?_getD, List.getElem?_eq_getElem hjl]; rfl)
      have hmk256 : mk < 256 := by rw [hmk]; exact UInt8.toNat_lt _
      have HNX : Hid ((crN D.waits (ms.map UInt8.toNat) D.firm j).set i (crL8 mk ((crN D.waits (ms.map UInt8.toNat) D.firm j).getD i []) l) = crN D.waits (ms.map UInt8.toNat) D.firm (j + 1)) := Lib.hid (by rw [crN, ← hx, getD_mapU ms j hjl, ← hmk])
      have hFl : (crN D.waits (ms.map UInt8.toNat) D.firm j).length = n := by rw [crN_len]; exact hcd.ok.fl
      have hFi : ((crN D.waits (ms.map UInt8.toNat) D.firm j).getD i []).length = 256 := crN_row _ _ _ n hcd.ok.fr j i hxi
      have hzw := zeroWr
      have HBX := Lib.hid (new_wr_box wr (i, l) HXL.out)
      have hdn : d ≠ bf := fun e => hcd.ne.2.1 (by rw [← e3]; exact e.symm)
      have hdc : w.cell? ⟨d, 1, none⟩ = some (.slice (some ⟨bf, 0, none⟩) n S.cf) := by rw [e3]; exact hcd.c1
      have hdl := hcd.lt d hcd.ld.1
      have hn4 := hcd.n4.2
      subst eadm
      have HFI := Lib.hid (And.intro hFl (And.intro hFi (And.intro hxi (And.intro hn4 (And.intro hxl (And.intro hdn hmk256)))))); clear hFl hFi hxi hn4 hxl hmk256
      have HDC := Lib.hid (And.intro hdc hdl); clear hdc hdl
      have HMK := Lib.hid (And.intro hmkc (And.intro hadn hadl)); clear hmkc hadn hadl hsrc
      obtain ⟨x, hxe⟩ : ∃ x : Nat × List UInt8, x = (i, l) := ⟨_, rfl⟩
      rw [← hxe] at HRG HXL HBX
      have HXE := Lib.hid hxe; clear hxe
      clear hcd e0 e1 e2 e3 e4 e5 hwv hrg hx hgw hgl hjl hmk hdn hcw
      go_wp2_with (first
        | ((with_reducible show wpList _ _ _ (⟨some 31, _, _, _, _, _⟩ :: _) _ _); refine wpList_load_mid rfl 83 (.tmp 30) rfl g (j * 257) rfl (wL x) _ HRG.out Try.underlying83 rfl (wL_sizeL x HXL.out) ?_)
        | ((with_reducible show wpList _ _ _ (⟨none, .store _ (.tmp 7) (.tmp 31), _, _, _, _⟩ :: _) _ _); refine wpList_store_mid rfl 83 (.tmp 7) (.tmp 31) rfl wr.heap.size 0 (wL x).toArray rfl rfl (new_wr_there wr x HXL.out) (wL_sizeA x HXL.out) (all_oneCell_toArray (wL_one x)) ?_))
      have hbx : Fr ((wr.alloc (.cells (wC 0 fun _ => .int .u8 0) 83)).setCells wr.heap.size 0 (wL x).toArray.toList) wr.heap.size 83 257 (fun k => ((wL x)[k]?).getD undef) ∧ Below wr.heap.size wr ((wr.alloc (.cells (wC 0 fun _ => .int .u8 0) 83)).setCells wr.heap.size 0 (wL x).toArray.toList) := HBX.out
      clear HBX hzw
      try simp only [List.toList_toArray] at hbx ⊢
      generalize (wr.alloc (.cells (wC 0 fun _ => .int .u8 0) 83)).setCells wr.heap.size 0 (wL x) = wz at *
      obtain ⟨bx, hbx0⟩ : ∃ bx, bx = wr.heap.size := ⟨_, rfl⟩
      have HKZ : Hid (Keep (fun b => b = bf) w wz) := Lib.hid (HKJ.out.call hbx.2)
      have HFZ : Hid (Fr wz bf 81 (n * 256) (bF (crN D.waits (ms.map UInt8.toNat) D.firm j))) := Lib.hid (HFJ.out.call hbx.2)
      have hbf := HFJ.out.lt
      rw [← hbx0] at hbx hbf
      rw [← hbx0]
      have hbn : bx ≠ bf := by omega
      have hrb : wz.rangeAt bx 0 (wL x) := fun q v hq => by
        have hq2 : q < 257 := by have := (List.getElem?_eq_some_iff.1 hq).1; rwa [wL_len x HXL.out] at this
        have := hbx.1.cellAt q hq2
        rw [hq] at this
        rw [Nat.zero_add]; exact this
      have hmz : wz.cell? (adm.add j) = some (.int .u8 (mk : Int)) := (World.cell?_of_block (w := w) (HKZ.out.block _ (by rw [add_block]; exact HMK.out.2.2) (by rw [add_block]; exact HMK.out.2.1))).trans HMK.out.1
      have HBZ : Hid (bx < wz.heap.size ∧ adm.block < wz.heap.size) := Lib.hid ⟨hbx.1.lt, by have := HKZ.out.size; have := HMK.out.2.2; omega⟩
      have hheld : ∀ W : World, Keep (fun b => b = bf) wz W → W.rangeAt bx 0 (wL x) ∧ W.cell? (adm.add j) = some (.int .u8 (mk : Int)) := fun W hk => by
        refine ⟨fun q v hq => (World.cell?_of_block (w := wz) (a := ⟨bx, 0 + q, none⟩) (hk.block bx HBZ.out.1 hbn)).trans (hrb q v hq), (World.cell?_of_block (w := wz) (hk.block _ (by rw [add_block]; exact HBZ.out.2) (by rw [add_block]; exact HMK.out.2.1))).trans hmz⟩
      have HS := Lib.hid hheld; clear hheld
      have HHD : Hid (∀ W : World, Turn bf wz W → Calls Try.prog 47 #[.pointer (some ⟨d, 0, none⟩), .agg (wL x).toArray, .int .u8 (mk : Int)] wz.drew fun e w' => e = .returned (.tuple #[]) ∧ Fr w' bf 81 (n * 256) (bF ((crN D.waits (ms.map UInt8.toNat) D.firm j).set i (crL8 mk ((crN D.waits (ms.map UInt8.toNat) D.firm j).getD i []) l))) ∧ Keep (fun b => b = bf) wz.drew w') := Lib.hid fun W _ => by
        obtain ⟨f1, f2, f3, f4, f5, f6, f7⟩ := HFI.out
        rw [HXE.out]
        exact cdharden_any wz.drew d n bf S.cf i mk (crN D.waits (ms.map UInt8.toNat) D.firm j) l ((World.cell?_of_block (w := w) (a := ⟨d, 1, none⟩) (HKZ.out.block d HDC.out.2 f6)).trans HDC.out.1) HFZ.out f1 f2 f3 f4 f5 f6 f7
      have hjlen : (j : Int) < (len : Int) := by omega
      clear hbx hrb hmz hbx0 hbf hbn HKJ HFJ
      go_upto_region 7 with fail
      refine wp_region_noPanic ?_
      refine wp_region_held_drew (S := (fun w' => w'.rangeAt bx 0 (wL x) ∧ w'.cell? (adm.add j) = some (.int .u8 (mk : Int)))) (by kernel_rfl) ?_ (fun hHeld => ?_)
      · exact HS.out _ (Keep.refl _ _).drew
      refine wpAnyH_take (i := 0) (v := ?_) rfl (by kernel_rfl) (by kernel_rfl) (by kernel_rfl) (fun _ _ _ h => h) (Or.inl ⟨by rfl, ?_⟩) hHeld ?_
      rotate_left
      · intro w' hSw
        (try dsimp only at hSw)
        go_simp
        try with_reducible rfl
      try simp only [Act.put, zq1, zq2, zq3, zq4, zq5, zq6]
      refine wpAnyH_take (i := 1) rfl (by kernel_rfl) (by kernel_rfl) (by kernel_rfl) (fun _ _ _ h => h) (yieldsIf_load_mid (by rfl) 83 (.tmp 7) rfl (bx) (0) rfl (wL x) _ (fun _ h => h.1) Try.underlying83 rfl (wL_sizeL x HXL.out)) hHeld ?_
      try simp only [Act.put, zq1, zq2, zq3, zq4, zq5, zq6]
      refine wpAnyH_take (i := 2) (v := ?_) rfl (by kernel_rfl) (by kernel_rfl) (by kernel_rfl) (fun _ _ _ h => h) (Or.inl ⟨by rfl, ?_⟩) hHeld ?_
      rotate_left
      · intro w' hSw
        (try dsimp only at hSw)
        go_simp
        try with_reducible rfl
      try simp only [Act.put, zq1, zq2, zq3, zq4, zq5, zq6]
      refine wpAnyH_take (i := 3) (v := ?_) rfl (by kernel_rfl) (by kernel_rfl) (by kernel_rfl) (fun _ _ _ h => h) (Or.inl ⟨by rfl, ?_⟩) hHeld ?_
      rotate_left
      · intro w' hSw
        (try dsimp only at hSw)
        go_simp
        try with_reducible rfl
      try simp only [Act.put, zq1, zq2, zq3, zq4, zq5, zq6]
      refine wpAnyH_take (i := 4) (v := ?_) rfl (by kernel_rfl) (by kernel_rfl) (by kernel_rfl) (fun _ _ _ h => h) (Or.inl ⟨by rfl, ?_⟩) hHeld ?_
      rotate_left
      · intro w' hSw
        (try dsimp only at hSw)
        go_simp
        try with_reducible rfl
      try simp only [Act.put, zq1, zq2, zq3, zq4, zq5, zq6]
      refine wpAnyH_take (i := 5) (v := ?_) rfl (by kernel_rfl) (by kernel_rfl) (by kernel_rfl) (fun _ _ _ h => h) (Or.inl ⟨by rfl, ?_⟩) hHeld ?_
      rotate_left
      · intro w' hSw
        (try dsimp only at hSw)
        go_simp
        try with_reducible rfl
      try simp only [Act.put, zq1, zq2, zq3, zq4, zq5, zq6]
      refine wpAnyH_ready (rs := [6]) (by kernel_rfl) (by simp) ?_
      refine AllReadyH.cons rfl (fun K hK => ?_) (AllReadyH.nil)
      try simp only [zq1, zq2, zq3]
      go_simp
      refine (HHD.out _ (Turn.refl bf wz).drew).mono ?_
      rintro e w4 ⟨rfl, hF4, hK4⟩
      refine hK.out _ _ ?_ (fun hHeld => ?_)
      · exact HS.out _ ((Keep.refl _ _).trans (show Keep (fun b => b = bf) wz w4 from ⟨hK4.os, hK4.tape, hK4.output, hK4.size, hK4.block⟩) fun _ _ h => h)
      clear hK K
      try simp only [Act.put, zq1, zq2, zq3, zq4, zq5, zq6]
      refine wpAnyH_done (by kernel_rfl) ?_ _
      refine NoPanic.normal ?_
      have hk4 : Keep (fun b => b = bf) wz w4 := ⟨hK4.os, hK4.tape, hK4.output, hK4.size, hK4.block⟩
      have HFN := Lib.hid (And.intro hF4 ((HKZ.out).trans hk4 fun _ _ h => h)); clear hF4 hK4 hk4 hHeld HS HHD
      go_wp2_with fail
      go_roundw
      case rel => exact ⟨j + 1, by omega, by go_num, Lib.hid (by have := HFN.out.1; rw [HNX.out] at this; exact this), Lib.hid HFN.out.2⟩
      case measure => simp [intOf]; omega
    · have hji : ¬ (j : Int) < (t : Int) := by omega
      obtain rfl : j = t := by omega
      obtain ⟨w2, hw2⟩ : ∃ w2, w2 = wr := ⟨_, rfl⟩
      rw [← hw2] at HFJ HKJ ⊢
      clear hw2 hji hj hlt
      have hcd := HCD.out
      obtain ⟨e0, e1, e2, e3, e4, e5⟩ := HT.out
      obtain ⟨bt, hbt⟩ : ∃ bt, bt = S.bn := ⟨_, rfl⟩
      obtain ⟨ct, hct⟩ : ∃ ct, ct = S.cn := ⟨_, rfl⟩
      obtain ⟨cs, hcs⟩ : ∃ cs, cs = S.cf := ⟨_, rfl⟩
      obtain ⟨wv, hwv0⟩ : ∃ wv, wv = S.wv := ⟨_, rfl⟩
      obtain ⟨Ws, hWs⟩ : ∃ Ws, Ws = D.waits := ⟨_, rfl⟩
      obtain ⟨F0, hF0⟩ : ∃ F0, F0 = D.now := ⟨_, rfl⟩
      have hbs := e3
      obtain ⟨bs, hbsb⟩ : ∃ bs, bs = bf := ⟨_, rfl⟩
      rw [← hbsb] at HFJ HKJ hbs
      have HKJ1 := HKJ
      have HF0 : Hid (F0.length = n) := Lib.hid (by rw [hF0]; exact hcd.ok.nl)
      have HGN : Hid (Gs.length = n) := Lib.hid (by rw [← e0, crN_len]; exact hcd.ok.fl)
      have HGR : Hid (∀ i, i < n → (Gs.getD i []).length = 256) := Lib.hid (by rw [← e0]; exact crN_row _ _ _ n hcd.ok.fr j)
      have HFR : Hid (Fr w2 bt 81 (n * 256) (bF F0)) := Lib.hid (by rw [hbt, hF0]; exact hcd.rn.keep (HKJ.out.block _ (hcd.lt _ hcd.ld.2.1) (fun e => hcd.ne.2.2 (by rw [← hbs]; exact e))))
      have HFS : Hid (Fr w2 bs 81 (n * 256) (bF Gs)) := Lib.hid (by rw [← e0]; exact HFJ.out)
      have HINV : Hid (∀ x, x < n → (∀ k, k < m → (Ws.getD k (0, [])).1 ≠ x) → F0.getD x [] = Gs.getD x []) := Lib.hid (by
        rw [hWs, hF0, ← e0]
        intro x hx h
        rw [crN_off _ _ _ x j (fun k hk => h k (by omega))]
        exact hcd.inv x hx (by rw [← e4]; exact h))
      have HWL : Hid (∀ k, k < m → (Ws.getD k (0, [])).1 < n ∧ (Ws.getD k (0, [])).2.length = 256) := Lib.hid (by rw [hWs, e4]; exact hcd.ok.wl)
      have HGW : Hid (∀ g, wv.ownBlock = some g → g < w2.heap.size ∧ ¬ (fun b => b = bt) g) := Lib.hid (by rw [hwv0, hbt]; exact fun g hg => ⟨Nat.lt_of_lt_of_le (hcd.lt g (hcd.lw g hg).1) HKJ.out.size, (hcd.lw g hg).2.2.1⟩)
      have HW : Hid (0 < m → ∃ g cw, wv = .slice (some ⟨g, 0, none⟩) m cw ∧ m ≤ cw ∧ ∀ j, j < m → w2.rangeAt g (j * 257) (wL (Ws.getD j (0, [])))) := Lib.hid (fun h0 => by
        obtain ⟨g, cw, q1, q2, q3⟩ := hcd.waitAt (by rw [← e4]; exact h0)
        rw [e4, hwv0, hWs]
        have hgw := hcd.lw g (by rw [q1]; rfl)
        exact ⟨g, cw, q1, q2, fun j hj q v hq => (World.cell?_of_block (w := w) (HKJ.out.block g (hcd.lt g hgw.1) (fun e => hgw.2.2.2 (by rw [← hbs]; exact e)))).trans (q3 j hj q v hq)⟩)
      have HBS : Hid (¬ (fun b => b = bt) bs ∧ bs < w2.heap.size ∧ d < w2.heap.size ∧ ¬ (fun b => b = bt) d ∧ True) := Lib.hid (by
        have hsz := HKJ.out.size
        have h1 := hcd.lt _ hcd.ld.2.2
        have h2 := hcd.lt _ hcd.ld.1
        rw [← hbs] at h1
        exact ⟨fun e => hcd.ne.2.2 (by rw [← hbs, ← hbt]; exact e.symm), by omega, by omega, fun e => hcd.ne.1 (by rw [← hbt]; exact e.symm), trivial⟩)
      have hdk : w2.heap[d]? = w.heap[d]? := HKJ.out.block d (hcd.lt _ hcd.ld.1) (fun e => hcd.ne.2.1 (by rw [← hbs]; exact e.symm))
      have HD : Hid (w2.cell? ⟨d, 0, none⟩ = some (.slice (some ⟨bt, 0, none⟩) n ct) ∧ w2.cell? ⟨d, 1, none⟩ = some (.slice (some ⟨bs, 0, none⟩) n cs)) := Lib.hid (by
        rw [hbt, hct, hbs, hcs]
        exact ⟨(World.cell?_of_block (w := w) hdk).trans hcd.c0, (World.cell?_of_block (w := w) hdk).trans hcd.c1⟩)
      have d2 : w2.cell? ⟨d, 2, none⟩ = some (.slice A0 m c0) := by rw [World.cell?_of_block (w := w) hdk, hcd.c2, e5]
      have HWF : Hid (wv = .slice A0 m c0) := Lib.hid (by rw [hwv0]; exact e5)
      have HEQ := Lib.hid (And.intro hbt (And.intro hbs (And.intro hwv0 (And.intro e4 (And.intro hWs hF0)))))
      clear hcd e0 e1 e2 e3 e4 e5 hbt hct hcs hwv0 hWs hF0 hbs hdk hbsb HT HFJ HKJ
      go_wp2_with fail
      rw [← HWF.out]
      clear d2
      go_loopw [45] (fun ix wr => ∃ (j : Nat) (Fj : List (List UInt8)), j ≤ m ∧ ix = .int .i64 j ∧ Hid (Half Ws Gs F0 Fj n j) ∧ Hid (Fr wr bt 81 (n * 256) (bF Fj)) ∧ Hid (Keep (fun b => b = bt) w2 wr)) (fun ix _ => m - (intOf ix).toNat)
      case atStart => exact ⟨0, F0, Nat.zero_le _, rfl, Lib.hid (Half.zero Ws Gs F0 n HF0.out), Lib.hid HFR.out, Lib.hid (Keep.refl _ _)⟩
      case round =>
        rename World => wr
        obtain ⟨j, Fj, hj, rfl, HH, HFJ, HKJ2⟩ := hrel
        by_cases hlt : j < m
        · have hji : (j : Int) < (m : Int) := by omega
          obtain ⟨g, cw, hwv, hcw, hrg⟩ := HW.out (by omega)
          obtain ⟨x, hx⟩ : ∃ x, x = Ws.getD j (0, []) := ⟨_, rfl⟩
          obtain ⟨hxi, hxl⟩ := HWL.out j hlt
          rw [← hx] at hxi hxl
          have hrg := hrg j hlt
          rw [← hx] at hrg
          obtain ⟨i, hi0⟩ : ∃ i, i = x.1 := ⟨_, rfl⟩
          rw [← hi0] at hxi
          have hgw := HGW.out g (by rw [hwv]; rfl)
          have HRG : Hid (wr.rangeAt g (j * 257) (wL x)) := Lib.hid fun q v hq => (World.cell?_of_block (w := w2) (HKJ2.out.block g hgw.1 hgw.2)).trans (hrg q v hq)
          have HXL := Lib.hid hxl; clear hxl
          have HI : Hid (i < n ∧ (Ws.getD j (0, [])).1 = i ∧ i * 256 + 256 ≤ n * 256) := Lib.hid ⟨hxi, by rw [← hx, hi0], by omega⟩
          have hzw := zeroWr
          have HBX := Lib.hid (new_wr_box wr x HXL.out)
          have HWV := Lib.hid hwv
          subst hwv
          clear hrg hx
          go_wp2_with (first
            | ((with_reducible show wpList _ _ _ (⟨some 48, _, _, _, _, _⟩ :: _) _ _); refine wpList_load_mid rfl 83 (.tmp 47) rfl g (j * 257) rfl (wL x) _ HRG.out Try.underlying83 rfl (wL_sizeL x HXL.out) ?_)
            | ((with_reducible show wpList _ _ _ (⟨none, .store _ (.tmp 9) (.tmp 48), _, _, _, _⟩ :: _) _ _); refine wpList_store_mid rfl 83 (.tmp 9) (.tmp 48) rfl wr.heap.size 0 (wL x).toArray rfl rfl (new_wr_there wr x HXL.out) (wL_sizeA x HXL.out) (all_oneCell_toArray (wL_one x)) ?_))
          have hbx : Fr ((wr.alloc (.cells (wC 0 fun _ => .int .u8 0) 83)).setCells wr.heap.size 0 (wL x).toArray.toList) wr.heap.size 83 257 (fun k => ((wL x)[k]?).getD undef) ∧ Below wr.heap.size wr ((wr.alloc (.cells (wC 0 fun _ => .int .u8 0) 83)).setCells wr.heap.size 0 (wL x).toArray.toList) := HBX.out
          clear HBX hzw
          try simp only [List.toList_toArray] at hbx ⊢
          generalize (wr.alloc (.cells (wC 0 fun _ => .int .u8 0) 83)).setCells wr.heap.size 0 (wL x) = wz at *
          have HKZ : Hid (Keep (fun b => b = bt) w2 wz) := Lib.hid (HKJ2.out.call hbx.2)
          have HFZ : Hid (Fr wz bt 81 (n * 256) (bF Fj)) := Lib.hid (HFJ.out.call hbx.2)
          have hbc : wz.cell? ⟨wr.heap.size, 0, none⟩ = some (.int .i64 (i : Int)) := by rw [hi0]; exact hbx.1.cellAt 0 (by decide)
          have HGL : Hid ((Gs.getD i []).length = 256) := Lib.hid (HGR.out i hxi)
          have hrs : wz.rangeAt bs (i * 256) (fl 256 fun q => bF Gs (i * 256 + q)) := ((HFS.out.keep (HKZ.out.block bs HBS.out.2.1 HBS.out.1)).range (i * 256) 256 HI.out.2.2)
          have hv : fl 256 (fun q => bF Gs (i * 256 + q)) = vb (Gs.getD i []) := bF_block _ _ HGL.out
          generalize (fun q => bF Gs (i * 256 + q)) = fk at *
          have HV := Lib.hid hv; clear hv
          have hdz : wz.heap[d]? = w2.heap[d]? := HKZ.out.block d HBS.out.2.2.1 HBS.out.2.2.2.1
          have hwb : wr.heap.size ≠ bt := fun e => by have h1 := HFJ.out.lt; omega
          have hheld : ∀ W : World, Turn bt wz W → W.cell? ⟨d, 0, none⟩ = some (.slice (some ⟨bt, 0, none⟩) n ct) ∧ W.cell? ⟨wr.heap.size, 0, none⟩ = some (.int .i64 (i : Int)) ∧ W.cell? ⟨d, 1, none⟩ = some (.slice (some ⟨bs, 0, none⟩) n cs) ∧ W.rangeAt bs (i * 256) (fl 256 fk) := fun W ht => by
            have hd2 : W.heap[d]? = w2.heap[d]? := (ht.block d HBS.out.2.2.2.1).trans hdz
            refine ⟨(World.cell?_of_block (w := w2) hd2).trans HD.out.1, (ht.cell (p := ⟨wr.heap.size, 0, none⟩) hwb).trans hbc, (World.cell?_of_block (w := w2) hd2).trans HD.out.2, fun q v hq => (ht.cell (p := ⟨bs, _, none⟩) HBS.out.1).trans (hrs q v hq)⟩
          have HS := Lib.hid hheld; clear hheld hrs hbc hbx hdz hi0
          have HTH : Hid (wz.drew.there bt (i * 256) (fl 256 fk).toArray.size) := Lib.hid (fl_there (w := wz.drew) HFZ.out _ _ HI.out.2.2)
          have HSZ : Hid ((Try.prog.info? 81).map (·.size) = some (fl 256 fk).toArray.size) := Lib.hid (fl_sizeB fk)
          have HON : Hid (∀ v ∈ fl 256 fk, v.oneCell' = true) := Lib.hid (by rw [HV.out]; exact vb_oneC _)
          have hii : (i : Int) < (n : Int) := by have := HI.out.1; omega
          clear hwb hgw hcw
          go_upto_region 12 with fail
          refine wp_region_noPanic ?_
          refine wp_region_held_drew (S := (fun w' => w'.cell? ⟨d, 0, none⟩ = some (.slice (some ⟨bt, 0, none⟩) n ct) ∧ w'.cell? ⟨wr.heap.size, 0, none⟩ = some (.int .i64 (i : Int)) ∧ w'.cell? ⟨d, 1, none⟩ = some (.slice (some ⟨bs, 0, none⟩) n cs) ∧ w'.rangeAt bs (i * 256) (fl 256 fk))) (by kernel_rfl) ?_ (fun hHeld => ?_)
          · exact HS.out _ (Turn.refl _ _).drew
          refine wpAnyH_take (i := 0) (v := ?_) rfl (by kernel_rfl) (by kernel_rfl) (by kernel_rfl) (fun _ _ _ h => h) (Or.inl ⟨by rfl, ?_⟩) hHeld ?_
          rotate_left
          · intro w' hSw
            (try dsimp only at hSw)
            go_simp
            try with_reducible rfl
          try simp only [Act.put, zq1, zq2, zq3, zq4, zq5, zq6]
          refine wpAnyH_take (i := 1) (v := ?_) rfl (by kernel_rfl) (by kernel_rfl) (by kernel_rfl) (fun _ _ _ h => h) (Or.inl ⟨by rfl, ?_⟩) hHeld ?_
          rotate_left
          · intro w' hSw
            (try dsimp only at hSw)
            go_simp
            try with_reducible rfl
          try simp only [Act.put, zq1, zq2, zq3, zq4, zq5, zq6]
          refine wpAnyH_take (i := 2) (v := ?_) rfl (by kernel_rfl) (by kernel_rfl) (by kernel_rfl) (fun _ _ _ h => h) (Or.inl ⟨by rfl, ?_⟩) hHeld ?_
          rotate_left
          · intro w' hSw
            (try dsimp only at hSw)
            go_simp
            try with_reducible rfl
          try simp only [Act.put, zq1, zq2, zq3, zq4, zq5, zq6]
          refine wpAnyH_take (i := 3) (v := ?_) rfl (by kernel_rfl) (by kernel_rfl) (by kernel_rfl) (fun _ _ _ h => h) (Or.inl ⟨by rfl, ?_⟩) hHeld ?_
          rotate_left
          · intro w' hSw
            (try dsimp only at hSw)
            go_simp
            try with_reducible rfl
          try simp only [Act.put, zq1, zq2, zq3, zq4, zq5, zq6]
          refine wpAnyH_take (i := 4) (v := ?_) rfl (by kernel_rfl) (by kernel_rfl) (by kernel_rfl) (fun _ _ _ h => h) (Or.inl ⟨by rfl, ?_⟩) hHeld ?_
          rotate_left
          · intro w' hSw
            (try dsimp only at hSw)
            go_simp
            try with_reducible rfl
          try simp only [Act.put, zq1, zq2, zq3, zq4, zq5, zq6]
          refine wpAnyH_take (i := 5) (v := ?_) rfl (by kernel_rfl) (by kernel_rfl) (by kernel_rfl) (fun _ _ _ h => h) (Or.inl ⟨by rfl, ?_⟩) hHeld ?_
          rotate_left
          · intro w' hSw
            (try dsimp only at hSw)
            go_simp
            try with_reducible rfl
          try simp only [Act.put, zq1, zq2, zq3, zq4, zq5, zq6]
          refine wpAnyH_take (i := 6) (v := ?_) rfl (by kernel_rfl) (by kernel_rfl) (by kernel_rfl) (fun _ _ _ h => h) (Or.inl ⟨by rfl, ?_⟩) hHeld ?_
          rotate_left
          · intro w' hSw
            (try dsimp only at hSw)
            go_simp
            try with_reducible rfl
          try simp only [Act.put, zq1, zq2, zq3, zq4, zq5, zq6]
          refine wpAnyH_take (i := 7) (v := ?_) rfl (by kernel_rfl) (by kernel_rfl) (by kernel_rfl) (fun _ _ _ h => h) (Or.inl ⟨by rfl, ?_⟩) hHeld ?_
          rotate_left
          · intro w' hSw
            (try dsimp only at hSw)
            go_simp
            try with_reducible rfl
          try simp only [Act.put, zq1, zq2, zq3, zq4, zq5, zq6]
          refine wpAnyH_take (i := 8) (v := ?_) rfl (by kernel_rfl) (by kernel_rfl) (by kernel_rfl) (fun _ _ _ h => h) (Or.inl ⟨by rfl, ?_⟩) hHeld ?_
          rotate_left
          · intro w' hSw
            (try dsimp only at hSw)
            go_simp
            try with_reducible rfl
          try simp only [Act.put, zq1, zq2, zq3, zq4, zq5, zq6]
          refine wpAnyH_take (i := 9) (v := ?_) rfl (by kernel_rfl) (by kernel_rfl) (by kernel_rfl) (fun _ _ _ h => h) (Or.inl ⟨by rfl, ?_⟩) hHeld ?_
          rotate_left
          · intro w' hSw
            (try dsimp only at hSw)
            go_simp
            try with_reducible rfl
          try simp only [Act.put, zq1, zq2, zq3, zq4, zq5, zq6]
          refine wpAnyH_take (i := 10) (v := ?_) rfl (by kernel_rfl) (by kernel_rfl) (by kernel_rfl) (fun _ _ _ h => h) (Or.inl ⟨by rfl, ?_⟩) hHeld ?_
          rotate_left
          · intro w' hSw
            (try dsimp only at hSw)
            go_simp
            try with_reducible rfl
          try simp only [Act.put, zq1, zq2, zq3, zq4, zq5, zq6]
          refine wpAnyH_take (i := 11) (v := ?_) rfl (by kernel_rfl) (by kernel_rfl) (by kernel_rfl) (fun _ _ _ h => h) (Or.inl ⟨by rfl, ?_⟩) hHeld ?_
          rotate_left
          · intro w' hSw
            (try dsimp only at hSw)
            go_simp
            try with_reducible rfl
          try simp only [Act.put, zq1, zq2, zq3, zq4, zq5, zq6]
          refine wpAnyH_take (i := 12) (v := ?_) rfl (by kernel_rfl) (by kernel_rfl) (by kernel_rfl) (fun _ _ _ h => h) (Or.inl ⟨by rfl, ?_⟩) hHeld ?_
          rotate_left
          · intro w' hSw
            (try dsimp only at hSw)
            go_simp
            try with_reducible rfl
          try simp only [Act.put, zq1, zq2, zq3, zq4, zq5, zq6]
          refine wpAnyH_take (i := 13) rfl (by kernel_rfl) (by kernel_rfl) (by kernel_rfl) (fun _ _ _ h => h) (yieldsIf_load_mid (by rfl) 81 (.tmp 61) rfl (bs) (i * 256) rfl (fl 256 fk) (.array 256 5) (fun _ h => h.2.2.2) Try.underlying81 rfl (by rw [fl_len]; exact block_size)) hHeld ?_
          try simp only [Act.put, zq1, zq2, zq3, zq4, zq5, zq6]
          refine wpAnyH_take (i := 14) (v := ?_) rfl (by kernel_rfl) (by kernel_rfl) (by kernel_rfl) (fun _ _ _ h => h) (Or.inl ⟨by rfl, ?_⟩) hHeld ?_
          rotate_left
          · intro w' hSw
            (try dsimp only at hSw)
            go_simp
            try with_reducible rfl
          try simp only [Act.put, zq1, zq2, zq3, zq4, zq5, zq6]
          refine wpAnyH_ready (rs := [15]) (by kernel_rfl) (by simp) ?_
          refine AllReadyH.cons rfl (fun K hK => ?_) (AllReadyH.nil)
          try simp only [zq1, zq2, zq3]
          try simp only [zq1, zq2, zq3]
          rw [if_pos (by rfl)]
          refine wp_store_mid 81 (.tmp 63) (.tmp 62) rfl (bt) (i * 256) (fl 256 fk).toArray rfl rfl HTH.out HSZ.out (all_oneCell_toArray HON.out) ?_
          simp only [Act.put, zq1, zq2, zq3, zq4, zq5, zq6, List.toList_toArray]
          refine hK.out _ _ ?_ (fun hHeld => ?_)
          · exact HS.out _ (Turn.drew1 (turn_setCells _ _ _ wz.drew))
          clear hK K
          try simp only [Act.put, zq1, zq2, zq3, zq4, zq5, zq6]
          refine wpAnyH_done (by kernel_rfl) ?_ _
          refine NoPanic.normal ?_
          have hF3 : Fr (wz.drew.setCells bt (i * 256) (fl 256 fk)) bt 81 (n * 256) (bF (Fj.set i (Gs.getD i []))) := (Fr.setCells (fl 256 fk) (i * 256) wz.drew _ HFZ.out (by rw [fl_len]; exact HI.out.2.2)).congr fun q _ => by rw [HV.out]; exact bF_set Fj i n (Gs.getD i []) HGL.out (by rw [HH.out.1]; exact HI.out.1) q
          have hK3 : Keep (fun b => b = bt) w2 (wz.drew.setCells bt (i * 256) (fl 256 fk)) := Turn.keep HKZ.out (Turn.drew1 (turn_setCells _ _ _ wz.drew)) fun _ => rfl
          generalize wz.drew.setCells bt (i * 256) (fl 256 fk) = w5 at *
          clear hHeld HS
          have HFN := Lib.hid (And.intro hF3 hK3); clear hF3 hK3
          go_wp2_with fail
          go_roundw
          case rel => exact ⟨j + 1, Fj.set i (Gs.getD i []), by omega, by go_num, Lib.hid (HH.out.succ HI.out.2.1 HI.out.1), Lib.hid HFN.out.1, Lib.hid HFN.out.2⟩
          case measure => simp [intOf]; omega
        · have hji : ¬ (j : Int) < (m : Int) := by omega
          obtain rfl : j = m := by omega
          have hFG : Fj = Gs := HH.out.all HGN.out HINV.out
          subst hFG
          have hnw : CDs S wr d L n { D with now := Fj, firm := Fj } := by
            have hcd := HCD.out
            obtain ⟨e1, e2, e3, e4, e5, e6⟩ := HEQ.out
            refine hcd.rows (w' := wr) (D' := { D with now := Fj, firm := Fj }) ⟨HGN.out, HGN.out, HGR.out, HGR.out, hcd.ok.wl, hcd.ok.fs, hcd.ok.cs, hcd.ok.ss⟩ rfl ⟨rfl, rfl, rfl, rfl⟩ (fun _ _ _ => rfl) ?_ ?_ (fun x hx h1 h2 => (HKJ2.out.block x (Nat.lt_of_lt_of_le hx HKJ1.out.size) (fun e => h1 (by rw [← e1]; exact e))).trans (HKJ1.out.block x hx (fun e => h2 (by rw [← e2]; exact e)))) (Nat.le_trans HKJ1.out.size HKJ2.out.size)
            · rw [← e1]; exact HFJ.out
            · rw [← e2]; exact HFS.out.keep (HKJ2.out.block bs HBS.out.2.1 HBS.out.1)
          have hdl := hnw.lt d hnw.ld.1
          have d2' : wr.cell? ⟨d, 2, none⟩ = some S.wv := hnw.c2
          have f2 := hnw.free 2
          have d7 : wr.cell? ⟨d, 7, none⟩ = some (.bool D.down) := hnw.c7
          have f7 := hnw.free 7
          have HKW : Hid (Keep L w ((wr.setCell ⟨d, 2, none⟩ (.slice none 0 0)).setCell ⟨d, 7, none⟩ (.bool false))) := Lib.hid (by
            have hcd := HCD.out
            obtain ⟨e1, e2, _⟩ := HEQ.out
            exact Turn.keep (Turn.keep (((HKJ1.out.mono fun b _ (hb : b = bs) => by rw [hb, e2]; exact hcd.ld.2.2)).trans HKJ2.out fun b _ (hb : b = bt) => by rw [hb, e1]; exact hcd.ld.2.1) (turn_setCell _ _ _ _) fun _ => hcd.ld.1) (turn_setCell _ _ _ _) fun _ => hcd.ld.1)
          have HSZ8 : Hid (((wr.setCell ⟨d, 2, none⟩ (.slice none 0 0)).setCell ⟨d, 7, none⟩ (.bool false)).heap.size = wr.heap.size) := Lib.hid (by rw [World.size_setCell, World.size_setCell])
          have HX8 := Lib.hid ((hnw.noWaits rfl).setDown false)
          clear hnw hdl
          go_upto_region 16 with fail
          clear d2' f2 d7 f7
          generalize (wr.setCell ⟨d, 2, none⟩ (.slice none 0 0)).setCell ⟨d, 7, none⟩ (.bool false) = w8 at *
          go_wp2_with fail
          refine (cdfail0 _ w8 d n L _ HX8.out 0 (by decide)).mono ?_
          rintro e w9 ⟨rfl, ⟨S9, h9⟩, ht9⟩
          have HX9 := Lib.hid h9; clear h9
          have HT9 := Lib.hid ht9; clear ht9
          go_wp2_with fail
          refine (cdcut0 _ w9 d n L _ HX9.out (-1) (by decide)).mono ?_
          rintro e w10 ⟨rfl, ⟨S10, h10⟩, ht10⟩
          have HX10 := Lib.hid h10; clear h10
          have HT10 := Lib.hid ht10; clear ht10
          go_wp2_with fail
          go_ret
          have hfin : D.crash (ms.map UInt8.toNat) = ((({ D with now := Fj, firm := Fj, waits := [], down := false } : Dev).setFail 0).setCut (-1)) := by unfold Dev.crash; rw [← HGS.out]; rfl
          rw [hfin]
          exact ⟨rfl, HX10.out.ext HCD.out.lt (by have h1 := HT10.out.size; have h2 := HT9.out.size; have h3 := HKW.out.size; omega), Turn.keep (Turn.keep HKW.out HT9.out fun _ => HCD.out.ld.1) HT10.out fun _ => HCD.out.ld.1⟩
end Go.Proofs.Ytpepbffhhfgdpaa
