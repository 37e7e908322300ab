/-
  The landed code's device (layer 8): Sync. (Printed by wip/gen/dcsync.py.)
-/
import Derived.Test.YtajplflefagbaaaDcE
import Derived.Test.YtajplflefagbaaaDcG
namespace Go.Proofs.Ytajplflefagbaaa
open Go Go.RowKit
set_option linter.unusedVariables false
set_option linter.unusedSimpArgs false

theorem wr_size : (Try.prog.info? 71).map (·.size) = some 257 := by kernel_rfl
theorem zeroWr (w : World) : (zeroValue 71).run Try.prog w = .ok (.agg (wC 0 fun _ => .int .u8 0)) w := by kernel_rfl
theorem wL_arr (x : Nat × List UInt8) (h : x.2.length = 256) : (wL x).toArray.size = 257 := by simp [wL_len x h]
theorem wL_sizeA (x : Nat × List UInt8) (h : x.2.length = 256) : (Try.prog.info? 71).map (·.size) = some (wL x).toArray.size := by rw [wL_arr x h]; exact wr_size
theorem wL_sizeL (x : Nat × List UInt8) (h : x.2.length = 256) : (Try.prog.info? 71).map (·.size) = some (wL x).length := by rw [wL_len x h]; exact wr_size
theorem Fr.newA (w : World) (cs : Array Value) (t : TypeId) (m : Nat) (hm : m ≤ cs.size) : Fr (w.alloc (.cells cs t)) w.heap.size t m (fun k => (cs[k]?).getD undef) :=
  ⟨cs, heap_alloc_new w _, hm, fun k hk => by
    show _ = some ((cs[k]?).getD undef)
    rw [Array.getElem?_eq_getElem (show k < cs.size by omega)]; rfl⟩
theorem new_wr (w : World) : Fr (w.alloc (.cells (wC 0 fun _ => .int .u8 0) 71)) w.heap.size 71 257 (fun k => ((wC 0 fun _ => .int .u8 0)[k]?).getD undef) :=
  Fr.newA w _ _ 257 (Nat.le_of_eq (wC_size 0 _).symm)
theorem fl_there {w : World} {b m : Nat} {t : TypeId} {f : Nat → Value} (h : Fr w b t m f) (o : Nat) (g : Nat → Value) (ho : o + 256 ≤ m) : w.there b o (fl 256 g).toArray.size := by
  have e : (fl 256 g).toArray.size = 256 := by simp [fl_len]
  rw [e]; exact h.there o 256 ho
theorem fl_sizeB (g : Nat → Value) : (Try.prog.info? 67).map (·.size) = some (fl 256 g).toArray.size := by
  have e : (fl 256 g).toArray.size = 256 := by simp [fl_len]
  rw [e]; exact block_size
set_option maxRecDepth 100000 in
theorem new_wr_there (w : World) (x : Nat × List UInt8) (h : x.2.length = 256) : (w.alloc (.cells (wC 0 fun _ => .int .u8 0) 71)).there w.heap.size 0 (wL x).toArray.size := by rw [wL_arr x h]; exact (new_wr w).there 0 257 (Nat.le_refl _)
set_option maxRecDepth 100000 in
theorem new_wr_box (w : World) (x : Nat × List UInt8) (h : x.2.length = 256) : Fr ((w.alloc (.cells (wC 0 fun _ => .int .u8 0) 71)).setCells w.heap.size 0 (wL x)) w.heap.size 71 257 (fun k => ((wL x)[k]?).getD undef) ∧ Below w.heap.size w ((w.alloc (.cells (wC 0 fun _ => .int .u8 0) 71)).setCells w.heap.size 0 (wL x)) := by
  refine ⟨(Fr.setCells (wL x) 0 _ _ (new_wr w) (by rw [wL_len x h]; exact Nat.le_refl _)).congr fun k hk => ?_, Turn.below ((Below.refl _ _).alloc (Nat.le_refl _) _) (turn_setCells _ _ _ _) (Nat.le_refl _)⟩
  unfold layF
  rw [wL_len x h, if_pos (by omega)]; rfl
theorem rows_eq {F G : List (List UInt8)} {n : Nat} (h1 : F.length = n) (h2 : G.length = n) (h : ∀ x, x < n → F.getD x [] = G.getD x []) : F = G := by
  apply List.ext_getElem (by omega)
  intro i h3 h4
  have := h i (by omega)
  rw [List.getD_eq_getElem?_getD, List.getD_eq_getElem?_getD, List.getElem?_eq_getElem h3, List.getElem?_eq_getElem h4] at this
  exact this
/-- F is G where a write of the first j waits, F0 elsewhere. -/
def Half (W : List (Nat × List UInt8)) (G F0 F : List (List UInt8)) (n j : Nat) : Prop := F.length = n ∧ ∀ x, x < n → F.getD x [] = G.getD x [] ∨ (F.getD x [] = F0.getD x [] ∧ ∀ k, k < j → (W.getD k (0, [])).1 ≠ x)
theorem Half.zero (W : List (Nat × List UInt8)) (G F0 : List (List UInt8)) (n : Nat) (h : F0.length = n) : Half W G F0 F0 n 0 := ⟨h, fun x _ => .inr ⟨rfl, fun k hk => absurd hk (Nat.not_lt_zero _)⟩⟩
theorem Half.succ {W : List (Nat × List UInt8)} {G F0 F : List (List UInt8)} {n j i : Nat} (h : Half W G F0 F n j) (hi : (W.getD j (0, [])).1 = i) (hn : i < n) : Half W G F0 (F.set i (G.getD i [])) n (j + 1) := by
  refine ⟨by rw [List.length_set]; exact h.1, fun x hx => ?_⟩
  rw [getD_set]
  by_cases e : x = i
  · subst e; rw [if_pos ⟨rfl, by rw [h.1]; exact hn⟩]; exact .inl rfl
  · rw [if_neg (fun h => e h.1)]
    refine (h.2 x hx).imp id fun h2 => ⟨h2.1, fun k hk => ?_⟩
    by_cases e2 : k = j
    · subst e2; rw [hi]; exact fun e3 => e e3.symm
    · exact h2.2 k (by omega)
theorem Half.all {W : List (Nat × List UInt8)} {G F0 F : List (List UInt8)} {n m : Nat} (h : Half W G F0 F n m) (hG : G.length = n) (hinv : ∀ x, x < n → (∀ k, k < m → (W.getD k (0, [])).1 ≠ x) → F0.getD x [] = G.getD x []) : F = G :=
  rows_eq h.1 hG fun x hx => (h.2 x hx).elim id fun h2 => h2.1.trans (hinv x hx h2.2)
set_option maxRecDepth 100000 in
theorem CDs.noWaits {S : Cs} {w : World} {d n : Nat} {L : Nat → Prop} {D : Dev} (h : CDs S w d L n D) (e : D.now = D.firm) : CDs { S with wv := .slice none 0 0 } (w.setCell ⟨d, 2, none⟩ (.slice none 0 0)) d L n { D with waits := [] } :=
  ⟨⟨h.ok.nl, h.ok.fl, h.ok.nr, h.ok.fr, fun k hk' => absurd hk' (Nat.not_lt_zero _), h.ok.fs, h.ok.cs, h.ok.ss⟩, h.n4, h.cc, h.ss, h.rf, h.rc, fun i _ _ => by show D.now.getD i [] = D.firm.getD i []; rw [e], heap_setCell_same _ _ _ _ _ _ h.hp, h.ld, h.ne, fun b hb => by simp [Value.ownBlock] at hb,
    h.rn.turn (turn_setCell _ _ _ _) h.ne.1, h.rr.turn (turn_setCell _ _ _ _) h.ne.2.1, World.ownsRow_nil _ _ _ _, fun b hb => by rw [World.size_setCell]; exact h.lt b hb⟩
/-- One that waits can be read where it lies. -/
theorem CDs.waitAt {S : Cs} {w : World} {d n : Nat} {L : Nat → Prop} {D : Dev} (h : CDs S w d L n D) (h0 : 0 < D.waits.length) : ∃ g c, S.wv = .slice (some ⟨g, 0, none⟩) D.waits.length c ∧ D.waits.length ≤ c ∧ ∀ j, j < D.waits.length → w.rangeAt g (j * 257) (wL (D.waits.getD j (0, []))) := by
  obtain ⟨A, c, e, hc, hr⟩ := wv_form h
  obtain ⟨g, cap, e2, _, _⟩ := World.ownsRow.form h.ww h0
  rw [e] at e2
  injection e2 with e2 _ e4
  refine ⟨g, c, by rw [e, e2], hc, fun j hj k v hk => ?_⟩
  rw [← wF_at _ _ (h.ok.wl j hj).2] at hk
  obtain ⟨hk2, rfl⟩ := fl_of hk
  obtain ⟨ad, e5, _, hcs⟩ := hr (by rw [fl_len]; omega)
  rw [e2] at e5
  injection e5 with e5
  have := hcs (j * 257 + k) (wF D.waits (j * 257 + k)) (fl_get _ _ _ (by omega))
  rw [← e5, head_add] at this
  exact this
set_option maxRecDepth 100000 in
set_option maxHeartbeats 16000000 in
theorem cdsync_any (w : World) (d n : Nat) (L : Nat → Prop) (D : Dev) (h : CD w d L n D) (hm : D.load ≤ 1000000) : Calls Try.prog 25 #[.pointer (some ⟨d, 0, none⟩)] w fun e w' => e = .returned (.int .i64 (D.stepE : Int)) ∧ CD w' d (ext L w w') n D.sync ∧ Keep L w w' := by
  obtain ⟨S, h⟩ := h
  have hs := cdstep0 S w d n L D h hm
  have eW : D.sync = if D.stepE = 0 then { D.step with firm := D.step.now, waits := [] } else D.step := rfl
  rw [eW]
  have hwl : D.step.waits.length ≤ 1000000 := by rw [waits_stepE]; have := load_waits D; omega
  have hlt0 := h.lt
  have hld := h.ld
  obtain ⟨E, hE⟩ : ∃ E, E = D.stepE := ⟨_, rfl⟩
  rw [← hE] at hs
  rw [← hE]
  obtain ⟨D1, hD1⟩ : ∃ D1, D1 = D.step := ⟨_, rfl⟩
  rw [← hD1] at hs hwl
  rw [← hD1]
  have HS0 := Lib.hid hs; clear hs
  have HLT := Lib.hid hlt0; clear hlt0
  by_cases h0 : E = 0
  · rw [if_pos h0]
    subst h0
    clear hE hD1 h eW hm
    go_enter Try.func25, Try.ntmps25
    go_wp2_with fail
    refine HS0.out.mono ?_
    rintro e w2 ⟨rfl, hcd, ht2⟩
    clear HS0
    obtain ⟨bt, hbt⟩ : ∃ bt, bt = S.bf := ⟨_, rfl⟩
    obtain ⟨ct, hct⟩ : ∃ ct, ct = S.cf := ⟨_, rfl⟩
    obtain ⟨bs, hbs⟩ : ∃ bs, bs = S.bn := ⟨_, rfl⟩
    obtain ⟨cs, hcs⟩ : ∃ cs, cs = S.cn := ⟨_, rfl⟩
    obtain ⟨wv, hwv0⟩ : ∃ wv, wv = S.wv := ⟨_, rfl⟩
    obtain ⟨m, hm0⟩ : ∃ m, m = D1.waits.length := ⟨_, rfl⟩
    obtain ⟨Ws, hWs⟩ : ∃ Ws, Ws = D1.waits := ⟨_, rfl⟩
    obtain ⟨Gs, hGs⟩ : ∃ Gs, Gs = D1.now := ⟨_, rfl⟩
    obtain ⟨F0, hF0⟩ : ∃ F0, F0 = D1.firm := ⟨_, rfl⟩
    have HEQ := Lib.hid (And.intro hbt (And.intro hbs (And.intro hwv0 (And.intro hm0 (And.intro hWs (And.intro hGs hF0))))))
    have HF0 : Hid (F0.length = n) := Lib.hid (by rw [hF0]; exact hcd.ok.fl)
    have HGN : Hid (Gs.length = n) := Lib.hid (by rw [hGs]; exact hcd.ok.nl)
    have HGR : Hid (∀ i, i < n → (Gs.getD i []).length = 256) := Lib.hid (by rw [hGs]; exact hcd.ok.nr)
    have HFR : Hid (Fr w2 bt 67 (n * 256) (bF F0)) := Lib.hid (by rw [hbt, hF0]; exact hcd.rr)
    have HFS : Hid (Fr w2 bs 67 (n * 256) (bF Gs)) := Lib.hid (by rw [hbs, hGs]; exact hcd.rn)
    have HINV : Hid (∀ x, x < n → (∀ k, k < m → (Ws.getD k (0, [])).1 ≠ x) → F0.getD x [] = Gs.getD x []) := Lib.hid (by rw [hWs, hF0, hGs, hm0]; exact fun x hx h => (hcd.inv x hx h).symm)
    have HWL : Hid (∀ k, k < m → (Ws.getD k (0, [])).1 < n ∧ (Ws.getD k (0, [])).2.length = 256) := Lib.hid (by rw [hWs, hm0]; exact hcd.ok.wl)
    have HW : Hid (0 < m → ∃ g cw, wv = .slice (some ⟨g, 0, none⟩) m cw ∧ m ≤ cw ∧ ∀ j, j < m → w2.rangeAt g (j * 257) (wL (Ws.getD j (0, [])))) := Lib.hid (by rw [hm0, hwv0, hWs]; exact hcd.waitAt)
    have HGW : Hid (∀ g, wv.ownBlock = some g → g < w2.heap.size ∧ ¬ (fun b => b = bt) g) := Lib.hid (by rw [hwv0, hbt]; exact fun g hg => ⟨hcd.lt g (hcd.lw g hg).1, (hcd.lw g hg).2.2.2⟩)
    have HBS : Hid (¬ (fun b => b = bt) bs ∧ bs < w2.heap.size ∧ d < w2.heap.size ∧ ¬ (fun b => b = bt) d ∧ True) := Lib.hid (by rw [hbs, hbt]; exact ⟨hcd.ne.2.2, hcd.lt _ hcd.ld.2.1, hcd.lt _ hcd.ld.1, fun e => hcd.ne.2.1 e.symm, trivial⟩)
    have HD : Hid (w2.cell? ⟨d, 1, none⟩ = some (.slice (some ⟨bt, 0, none⟩) n ct) ∧ w2.cell? ⟨d, 0, none⟩ = some (.slice (some ⟨bs, 0, none⟩) n cs)) := Lib.hid (by rw [hbt, hct, hbs, hcs]; exact ⟨hcd.c1, hcd.c0⟩)
    obtain ⟨A0, c0, hwf, hwc, _⟩ := wv_form hcd
    rw [← hwv0, ← hm0] at hwf
    rw [← hm0] at hwc
    have d2 := hcd.c2
    rw [← hwv0, hwf] at d2
    have HWF := Lib.hid hwf; clear hwf
    have HW2 := Lib.hid (And.intro hcd ht2)
    rw [← hm0] at hwl
    clear hcd ht2 hbt hct hbs hcs hwv0 hm0 hWs hGs hF0
    go_upto_region 6 with fail
    go_wp2_with fail
    rw [← HWF.out]
    clear d2
    go_loopw [18] (fun ix wr => ∃ (j : Nat) (Fj : List (List UInt8)), j ≤ m ∧ ix = .int .i64 j ∧ Hid (Half Ws Gs F0 Fj n j) ∧ Hid (Fr wr bt 67 (n * 256) (bF Fj)) ∧ Hid (Keep (fun b => b = bt) w2 wr)) (fun ix _ => m - (intOf ix).toNat)
    case atStart => exact ⟨0, F0, Nat.zero_le _, rfl, Lib.hid (Half.zero Ws Gs F0 n HF0.out), Lib.hid HFR.out, Lib.hid (Keep.refl _ _)⟩
    case round =>
      rename World => wr
      obtain ⟨j, Fj, hj, rfl, HH, HFJ, HKJ⟩ := hrel
      by_cases hlt : j < m
      · have hji : (j : Int) < (m : Int) := by omega
        obtain ⟨g, cw, hwv, hcw, hrg⟩ := HW.out (by omega)
        obtain ⟨x, hx⟩ : ∃ x, x = Ws.getD j (0, []) := ⟨_, rfl⟩
        obtain ⟨hxi, hxl⟩ := HWL.out j hlt
        rw [← hx] at hxi hxl
        have hrg := hrg j hlt
        rw [← hx] at hrg
        obtain ⟨i, hi0⟩ : ∃ i, i = x.1 := ⟨_, rfl⟩
        rw [← hi0] at hxi
        have hgw := HGW.out g (by rw [hwv]; rfl)
        have HRG : Hid (wr.rangeAt g (j * 257) (wL x)) := Lib.hid fun q v hq => (World.cell?_of_block (w := w2) (HKJ.out.block g hgw.1 hgw.2)).trans (hrg q v hq)
        have HXL := Lib.hid hxl; clear hxl
        have HI : Hid (i < n ∧ (Ws.getD j (0, [])).1 = i ∧ i * 256 + 256 ≤ n * 256) := Lib.hid ⟨hxi, by rw [← hx, hi0], by omega⟩
        have hzw := zeroWr
        have HBX := Lib.hid (new_wr_box wr x HXL.out)
        have HWV := Lib.hid hwv
        subst hwv
        clear hrg hx
        go_wp2_with (first
          | ((with_reducible show wpList _ _ _ (⟨some 21, _, _, _, _, _⟩ :: _) _ _); refine wpList_load_mid rfl 71 (.tmp 20) rfl g (j * 257) rfl (wL x) _ HRG.out Try.underlying71 rfl (wL_sizeL x HXL.out) ?_)
          | ((with_reducible show wpList _ _ _ (⟨none, .store _ (.tmp 5) (.tmp 21), _, _, _, _⟩ :: _) _ _); refine wpList_store_mid rfl 71 (.tmp 5) (.tmp 21) rfl wr.heap.size 0 (wL x).toArray rfl rfl (new_wr_there wr x HXL.out) (wL_sizeA x HXL.out) (all_oneCell_toArray (wL_one x)) ?_))
        have hbx : Fr ((wr.alloc (.cells (wC 0 fun _ => .int .u8 0) 71)).setCells wr.heap.size 0 (wL x).toArray.toList) wr.heap.size 71 257 (fun k => ((wL x)[k]?).getD undef) ∧ Below wr.heap.size wr ((wr.alloc (.cells (wC 0 fun _ => .int .u8 0) 71)).setCells wr.heap.size 0 (wL x).toArray.toList) := HBX.out
        clear HBX hzw
        try simp only [List.toList_toArray] at hbx ⊢
        generalize (wr.alloc (.cells (wC 0 fun _ => .int .u8 0) 71)).setCells wr.heap.size 0 (wL x) = wz at *
        have HKZ : Hid (Keep (fun b => b = bt) w2 wz) := Lib.hid (HKJ.out.call hbx.2)
        have HFZ : Hid (Fr wz bt 67 (n * 256) (bF Fj)) := Lib.hid (HFJ.out.call hbx.2)
        have hbc : wz.cell? ⟨wr.heap.size, 0, none⟩ = some (.int .i64 (i : Int)) := by rw [hi0]; exact hbx.1.cellAt 0 (by decide)
        have HGL : Hid ((Gs.getD i []).length = 256) := Lib.hid (HGR.out i hxi)
        have hrs : wz.rangeAt bs (i * 256) (fl 256 fun q => bF Gs (i * 256 + q)) := ((HFS.out.keep (HKZ.out.block bs HBS.out.2.1 HBS.out.1)).range (i * 256) 256 HI.out.2.2)
        have hv : fl 256 (fun q => bF Gs (i * 256 + q)) = vb (Gs.getD i []) := bF_block _ _ HGL.out
        generalize (fun q => bF Gs (i * 256 + q)) = fk at *
        have HV := Lib.hid hv; clear hv
        have hdz : wz.heap[d]? = w2.heap[d]? := HKZ.out.block d HBS.out.2.2.1 HBS.out.2.2.2.1
        have hwb : wr.heap.size ≠ bt := fun e => by have h1 := HFJ.out.lt; omega
        have hheld : ∀ W : World, Turn bt wz W → W.cell? ⟨d, 1, none⟩ = some (.slice (some ⟨bt, 0, none⟩) n ct) ∧ W.cell? ⟨wr.heap.size, 0, none⟩ = some (.int .i64 (i : Int)) ∧ W.cell? ⟨d, 0, none⟩ = some (.slice (some ⟨bs, 0, none⟩) n cs) ∧ W.rangeAt bs (i * 256) (fl 256 fk) := fun W ht => by
          have hd2 : W.heap[d]? = w2.heap[d]? := (ht.block d HBS.out.2.2.2.1).trans hdz
          refine ⟨(World.cell?_of_block (w := w2) hd2).trans HD.out.1, (ht.cell (p := ⟨wr.heap.size, 0, none⟩) hwb).trans hbc, (World.cell?_of_block (w := w2) hd2).trans HD.out.2, fun q v hq => (ht.cell (p := ⟨bs, _, none⟩) HBS.out.1).trans (hrs q v hq)⟩
        have HS := Lib.hid hheld; clear hheld hrs hbc hbx hdz hi0
        have HTH : Hid (wz.drew.there bt (i * 256) (fl 256 fk).toArray.size) := Lib.hid (fl_there (w := wz.drew) HFZ.out _ _ HI.out.2.2)
        have HSZ : Hid ((Try.prog.info? 67).map (·.size) = some (fl 256 fk).toArray.size) := Lib.hid (fl_sizeB fk)
        have HON : Hid (∀ v ∈ fl 256 fk, v.oneCell' = true) := Lib.hid (by rw [HV.out]; exact vb_oneC _)
        have hii : (i : Int) < (n : Int) := by have := HI.out.1; omega
        clear hwb hgw hcw
        go_upto_region 9 with fail
        refine wp_region_noPanic ?_
        refine wp_region_held_drew (S := (fun w' => w'.cell? ⟨d, 1, none⟩ = some (.slice (some ⟨bt, 0, none⟩) n ct) ∧ w'.cell? ⟨wr.heap.size, 0, none⟩ = some (.int .i64 (i : Int)) ∧ w'.cell? ⟨d, 0, none⟩ = some (.slice (some ⟨bs, 0, none⟩) n cs) ∧ w'.rangeAt bs (i * 256) (fl 256 fk))) (by kernel_rfl) ?_ (fun hHeld => ?_)
        · exact HS.out _ (Turn.refl _ _).drew
        refine wpAnyH_take (i := 0) (v := ?_) rfl (by kernel_rfl) (by kernel_rfl) (by kernel_rfl) (fun _ _ _ h => h) (Or.inl ⟨by rfl, ?_⟩) hHeld ?_
        rotate_left
        · intro w' hSw
          (try dsimp only at hSw)
          go_simp
          try with_reducible rfl
        try simp only [Act.put, zq1, zq2, zq3, zq4, zq5, zq6]
        refine wpAnyH_take (i := 1) (v := ?_) rfl (by kernel_rfl) (by kernel_rfl) (by kernel_rfl) (fun _ _ _ h => h) (Or.inl ⟨by rfl, ?_⟩) hHeld ?_
        rotate_left
        · intro w' hSw
          (try dsimp only at hSw)
          go_simp
          try with_reducible rfl
        try simp only [Act.put, zq1, zq2, zq3, zq4, zq5, zq6]
        refine wpAnyH_take (i := 2) (v := ?_) rfl (by kernel_rfl) (by kernel_rfl) (by kernel_rfl) (fun _ _ _ h => h) (Or.inl ⟨by rfl, ?_⟩) hHeld ?_
        rotate_left
        · intro w' hSw
          (try dsimp only at hSw)
          go_simp
          try with_reducible rfl
        try simp only [Act.put, zq1, zq2, zq3, zq4, zq5, zq6]
        refine wpAnyH_take (i := 3) (v := ?_) rfl (by kernel_rfl) (by kernel_rfl) (by kernel_rfl) (fun _ _ _ h => h) (Or.inl ⟨by rfl, ?_⟩) hHeld ?_
        rotate_left
        · intro w' hSw
          (try dsimp only at hSw)
          go_simp
          try with_reducible rfl
        try simp only [Act.put, zq1, zq2, zq3, zq4, zq5, zq6]
        refine wpAnyH_take (i := 4) (v := ?_) rfl (by kernel_rfl) (by kernel_rfl) (by kernel_rfl) (fun _ _ _ h => h) (Or.inl ⟨by rfl, ?_⟩) hHeld ?_
        rotate_left
        · intro w' hSw
          (try dsimp only at hSw)
          go_simp
          try with_reducible rfl
        try simp only [Act.put, zq1, zq2, zq3, zq4, zq5, zq6]
        refine wpAnyH_take (i := 5) (v := ?_) rfl (by kernel_rfl) (by kernel_rfl) (by kernel_rfl) (fun _ _ _ h => h) (Or.inl ⟨by rfl, ?_⟩) hHeld ?_
        rotate_left
        · intro w' hSw
          (try dsimp only at hSw)
          go_simp
          try with_reducible rfl
        try simp only [Act.put, zq1, zq2, zq3, zq4, zq5, zq6]
        refine wpAnyH_take (i := 6) (v := ?_) rfl (by kernel_rfl) (by kernel_rfl) (by kernel_rfl) (fun _ _ _ h => h) (Or.inl ⟨by rfl, ?_⟩) hHeld ?_
        rotate_left
        · intro w' hSw
          (try dsimp only at hSw)
          go_simp
          try with_reducible rfl
        try simp only [Act.put, zq1, zq2, zq3, zq4, zq5, zq6]
        refine wpAnyH_take (i := 7) (v := ?_) rfl (by kernel_rfl) (by kernel_rfl) (by kernel_rfl) (fun _ _ _ h => h) (Or.inl ⟨by rfl, ?_⟩) hHeld ?_
        rotate_left
        · intro w' hSw
          (try dsimp only at hSw)
          go_simp
          try with_reducible rfl
        try simp only [Act.put, zq1, zq2, zq3, zq4, zq5, zq6]
        refine wpAnyH_take (i := 8) (v := ?_) rfl (by kernel_rfl) (by kernel_rfl) (by kernel_rfl) (fun _ _ _ h => h) (Or.inl ⟨by rfl, ?_⟩) hHeld ?_
        rotate_left
        · intro w' hSw
          (try dsimp only at hSw)
          go_simp
          try with_reducible rfl
        try simp only [Act.put, zq1, zq2, zq3, zq4, zq5, zq6]
        refine wpAnyH_take (i := 9) (v := ?_) rfl (by kernel_rfl) (by kernel_rfl) (by kernel_rfl) (fun _ _ _ h => h) (Or.inl ⟨by rfl, ?_⟩) hHeld ?_
        rotate_left
        · intro w' hSw
          (try dsimp only at hSw)
          go_simp
          try with_reducible rfl
        try simp only [Act.put, zq1, zq2, zq3, zq4, zq5, zq6]
        refine wpAnyH_take (i := 10) (v := ?_) rfl (by kernel_rfl) (by kernel_rfl) (by kernel_rfl) (fun _ _ _ h => h) (Or.inl ⟨by rfl, ?_⟩) hHeld ?_
        rotate_left
        · intro w' hSw
          (try dsimp only at hSw)
          go_simp
          try with_reducible rfl
        try simp only [Act.put, zq1, zq2, zq3, zq4, zq5, zq6]
        refine wpAnyH_take (i := 11) (v := ?_) rfl (by kernel_rfl) (by kernel_rfl) (by kernel_rfl) (fun _ _ _ h => h) (Or.inl ⟨by rfl, ?_⟩) hHeld ?_
        rotate_left
        · intro w' hSw
          (try dsimp only at hSw)
          go_simp
          try with_reducible rfl
        try simp only [Act.put, zq1, zq2, zq3, zq4, zq5, zq6]
        refine wpAnyH_take (i := 12) (v := ?_) rfl (by kernel_rfl) (by kernel_rfl) (by kernel_rfl) (fun _ _ _ h => h) (Or.inl ⟨by rfl, ?_⟩) hHeld ?_
        rotate_left
        · intro w' hSw
          (try dsimp only at hSw)
          go_simp
          try with_reducible rfl
        try simp only [Act.put, zq1, zq2, zq3, zq4, zq5, zq6]
        refine wpAnyH_take (i := 13) rfl (by kernel_rfl) (by kernel_rfl) (by kernel_rfl) (fun _ _ _ h => h) (yieldsIf_load_mid (by rfl) 67 (.tmp 34) rfl (bs) (i * 256) rfl (fl 256 fk) (.array 256 5) (fun _ h => h.2.2.2) Try.underlying67 rfl (by rw [fl_len]; exact block_size)) hHeld ?_
        try simp only [Act.put, zq1, zq2, zq3, zq4, zq5, zq6]
        refine wpAnyH_take (i := 14) (v := ?_) rfl (by kernel_rfl) (by kernel_rfl) (by kernel_rfl) (fun _ _ _ h => h) (Or.inl ⟨by rfl, ?_⟩) hHeld ?_
        rotate_left
        · intro w' hSw
          (try dsimp only at hSw)
          go_simp
          try with_reducible rfl
        try simp only [Act.put, zq1, zq2, zq3, zq4, zq5, zq6]
        refine wpAnyH_ready (rs := [15]) (by kernel_rfl) (by simp) ?_
        refine AllReadyH.cons rfl (fun K hK => ?_) (AllReadyH.nil)
        try simp only [zq1, zq2, zq3]
        try simp only [zq1, zq2, zq3]
        rw [if_pos (by rfl)]
        refine wp_store_mid 67 (.tmp 36) (.tmp 35) rfl (bt) (i * 256) (fl 256 fk).toArray rfl rfl HTH.out HSZ.out (all_oneCell_toArray HON.out) ?_
        simp only [Act.put, zq1, zq2, zq3, zq4, zq5, zq6, List.toList_toArray]
        refine hK.out _ _ ?_ (fun hHeld => ?_)
        · exact HS.out _ (Turn.drew1 (turn_setCells _ _ _ wz.drew))
        clear hK K
        try simp only [Act.put, zq1, zq2, zq3, zq4, zq5, zq6]
        refine wpAnyH_done (by kernel_rfl) ?_ _
        refine NoPanic.normal ?_
        have hF3 : Fr (wz.drew.setCells bt (i * 256) (fl 256 fk)) bt 67 (n * 256) (bF (Fj.set i (Gs.getD i []))) := (Fr.setCells (fl 256 fk) (i * 256) wz.drew _ HFZ.out (by rw [fl_len]; exact HI.out.2.2)).congr fun q _ => by rw [HV.out]; exact bF_set Fj i n (Gs.getD i []) HGL.out (by rw [HH.out.1]; exact HI.out.1) q
        have hK3 : Keep (fun b => b = bt) w2 (wz.drew.setCells bt (i * 256) (fl 256 fk)) := Turn.keep HKZ.out (Turn.drew1 (turn_setCells _ _ _ wz.drew)) fun _ => rfl
        generalize wz.drew.setCells bt (i * 256) (fl 256 fk) = w5 at *
        clear hHeld HS
        have HFN := Lib.hid (And.intro hF3 hK3); clear hF3 hK3
        go_wp2_with fail
        go_roundw
        case rel => exact ⟨j + 1, Fj.set i (Gs.getD i []), by omega, by go_num, Lib.hid (HH.out.succ HI.out.2.1 HI.out.1), Lib.hid HFN.out.1, Lib.hid HFN.out.2⟩
        case measure => simp [intOf]; omega
      · have hji : ¬ (j : Int) < (m : Int) := by omega
        obtain rfl : j = m := by omega
        have hFG : Fj = Gs := HH.out.all HGN.out HINV.out
        subst hFG
        have hnw : CDs S wr d L n { D1 with firm := D1.now } := by
          have hcd := HW2.out.1
          obtain ⟨e1, e2, e3, e4, e5, e6, e7⟩ := HEQ.out
          refine hcd.rows (w' := wr) (D' := { D1 with firm := D1.now }) ⟨hcd.ok.nl, hcd.ok.nl, hcd.ok.nr, hcd.ok.nr, hcd.ok.wl, hcd.ok.fs, hcd.ok.cs, hcd.ok.ss⟩ rfl ⟨rfl, rfl, rfl, rfl⟩ (fun _ _ _ => rfl) ?_ ?_ (fun x hx _ h2 => HKJ.out.block x hx (fun e => h2 (by rw [← e1]; exact e))) HKJ.out.size
          · rw [← e2]; have := HFS.out.keep (HKJ.out.block bs HBS.out.2.1 HBS.out.1); rw [e6] at this; exact this
          · rw [← e1]; have := HFJ.out; rw [e6] at this; exact this
        have d2' : wr.cell? ⟨d, 2, none⟩ = some S.wv := hnw.c2
        have f2 := hnw.free 2
        have HF : Hid (CD (wr.setCell ⟨d, 2, none⟩ (.slice none 0 0)) d (ext L w (wr.setCell ⟨d, 2, none⟩ (.slice none 0 0))) n { D1 with firm := D1.now, waits := [] } ∧ Keep L w (wr.setCell ⟨d, 2, none⟩ (.slice none 0 0))) := Lib.hid ⟨(hnw.noWaits rfl).ext HLT.out (by rw [World.size_setCell]; have := HW2.out.2.size; have := HKJ.out.size; omega), Turn.keep (Keep.trans (HW2.out.2.keepL HW2.out.1.ld.1) HKJ.out fun x _ hx => by rw [show x = bt from hx, HEQ.out.1]; exact HW2.out.1.ld.2.2) (turn_setCell _ _ _ _) fun _ => HW2.out.1.ld.1⟩
        clear hnw
        go_wp2_with fail
        go_ret
        exact ⟨rfl, HF.out⟩
  · rw [if_neg h0]
    have hEi : ¬ (E : Int) = 0 := by omega
    clear hE hD1 h eW hwl h0 hm
    go_enter Try.func25, Try.ntmps25
    go_wp2_with fail
    refine HS0.out.mono ?_
    rintro e w2 ⟨rfl, hcd, ht2⟩
    have HF := Lib.hid (And.intro (hcd.ext HLT.out (Nat.le_of_eq ht2.size.symm)) (ht2.keepL hld.1)); clear hcd ht2 HS0
    go_wp2_with fail
    go_ret
    exact ⟨rfl, HF.out⟩
end Go.Proofs.Ytajplflefagbaaa
