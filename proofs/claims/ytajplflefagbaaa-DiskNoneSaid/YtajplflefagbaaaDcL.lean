/-
  The landed code's device (layer 8): Fork. (Printed by wip/gen/dcfork.py.)
-/
import Derived.Test.YtajplflefagbaaaDcK
import Derived.Test.YtajplflefagbaaaDkP
namespace Go.Proofs.Ytajplflefagbaaa
open Go Go.RowKit
set_option linter.unusedVariables false
set_option linter.unusedSimpArgs false

abbrev zDisk : Array Value := #[.slice none 0 0, .slice none 0 0, .slice none 0 0, .int .u64 0, .int .u64 0, .bool false, .int .u64 0, .bool false]
theorem disk_size : (Try.prog.info? 63).map (·.size) = some 8 := by kernel_rfl
theorem cCells_one {S : Cs} {w : World} {d n : Nat} {L : Nat → Prop} {D : Dev} (h : CDs S w d L n D) : (cCells S n D).all (·.oneCell') = true := by
  obtain ⟨A, c, e, _, _⟩ := wv_form h
  simp [cCells, Value.oneCell', e]
theorem World.ownsRow.weaken {w : World} {base e sz n : Nat} {v : Value} {xs : List Value} (h : w.ownsRow base e sz v n xs) : w.ownsRow 0 e sz v n xs := by
  obtain ⟨h1, h2⟩ := h
  refine ⟨h1, h2.imp id ?_⟩
  rintro ⟨g, cap, cur, a, b, r⟩
  exact ⟨g, cap, cur, a, Nat.zero_le _, r⟩
theorem own_belowW {w w' : World} {base e sz n : Nat} {v : Value} {xs : List Value} (h : w.ownsRow base e sz v n xs) (hb : Below w.heap.size w w') : w'.ownsRow base e sz v n xs := own_same h fun b hv => hb.block b (h.lt b hv).2
theorem CDs.forked {S : Cs} {w w1 w4 : World} {d n f : Nat} {L : Nat → Prop} {D : Dev} {v1 v2 v3 : Value} (h : CDs S w d L n D) (hf : f = w.heap.size) (hz : w1.heap.size = w.heap.size + 1) (hF : w4.heap[f]? = some (.cells (cCells S n D) 63 (0, 0))) (hs : w1.heap.size ≤ w4.heap.size)
    {y1 y2 : World} (h1 : w4.ownsRow w1.heap.size 67 256 v1 n (fl (n * 256) (bF D.now))) (h1l : ∀ b, v1.ownBlock = some b → b < y1.heap.size) (h2 : w4.ownsRow y1.heap.size 67 256 v2 n (fl (n * 256) (bF D.firm))) (h2l : ∀ b, v2.ownBlock = some b → b < y2.heap.size) (h3 : w4.ownsRow y2.heap.size 71 257 v3 D.waits.length (fl (D.waits.length * 257) (wF D.waits))) (hs1 : w1.heap.size ≤ y1.heap.size) (hs2 : y1.heap.size ≤ y2.heap.size) :
    CD (((w4.setCell ⟨f, 0, none⟩ v1).setCell ⟨f, 1, none⟩ v2).setCell ⟨f, 2, none⟩ v3) f (fun b => w.heap.size ≤ b ∧ b < (((w4.setCell ⟨f, 0, none⟩ v1).setCell ⟨f, 1, none⟩ v2).setCell ⟨f, 2, none⟩ v3).heap.size) n D ∧ Turn f w4 (((w4.setCell ⟨f, 0, none⟩ v1).setCell ⟨f, 1, none⟩ v2).setCell ⟨f, 2, none⟩ v3) := by
  have hT : Turn f w4 (((w4.setCell ⟨f, 0, none⟩ v1).setCell ⟨f, 1, none⟩ v2).setCell ⟨f, 2, none⟩ v3) := ((turn_setCell _ _ _ _).trans (turn_setCell _ _ _ _)).trans (turn_setCell _ _ _ _)
  obtain ⟨g1, c1, e1, a1, b1⟩ := World.ownsRow.form h1 h.n4.1
  obtain ⟨g2, c2, e2, a2, b2⟩ := World.ownsRow.form h2 h.n4.1
  subst e1
  subst e2
  have l1 := h1l g1 rfl
  have l2 := h2l g2 rfl
  obtain ⟨q1, eq1, _, r1⟩ := Fr.of_own h1 rfl h.n4.1
  obtain ⟨q2, eq2, _, r2⟩ := Fr.of_own h2 rfl h.n4.1
  obtain rfl : g1 = q1 := by injection eq1 with e; injection e
  obtain rfl : g2 = q2 := by injection eq2 with e; injection e
  have hc1 : n ≤ c1 := by
    rcases h1.2 with ⟨e, _⟩ | ⟨_, _, _, e, _, _, hc, _⟩
    · cases e
    · injection e with _ _ e; omega
  have hc2 : n ≤ c2 := by
    rcases h2.2 with ⟨e, _⟩ | ⟨_, _, _, e, _, _, hc, _⟩
    · cases e
    · injection e with _ _ e; omega
  have hw3 : ∀ b, v3.ownBlock = some b → y2.heap.size ≤ b ∧ b < w4.heap.size := h3.lt
  have hsz := hT.size
  refine ⟨⟨⟨g1, c1, g2, c2, v3, S.fl, S.cu, S.la⟩, ⟨h.ok, h.n4, ⟨hc1, hc2⟩, h.ss, h.rf, h.rc, h.inv, ?_, ⟨⟨by omega, by omega⟩, show w.heap.size ≤ g1 ∧ g1 < _ from ⟨by omega, by omega⟩, show w.heap.size ≤ g2 ∧ g2 < _ from ⟨by omega, by omega⟩⟩, ⟨show g1 ≠ f from by omega, show g2 ≠ f from by omega, show g1 ≠ g2 from by omega⟩, fun b hb => ?_, r1.turn hT (by omega), r2.turn hT (by omega), ?_, fun b hb => hb.2⟩⟩, hT⟩
  · exact heap_setCell_same _ _ _ _ _ _ (heap_setCell_same _ _ _ _ _ _ (heap_setCell_same _ _ _ _ _ _ hF))
  · obtain ⟨p1, p2⟩ := hw3 b hb
    exact ⟨⟨by omega, by omega⟩, by omega, show b ≠ g1 from by omega, show b ≠ g2 from by omega⟩
  · exact World.ownsRow.weaken (own_same h3 fun b hb => hT.block b (by have := hw3 b hb; omega))
set_option maxRecDepth 100000 in
set_option maxHeartbeats 16000000 in
theorem cdfork_any (w : World) (d n : Nat) (L : Nat → Prop) (D : Dev) (h : CD w d L n D) (hm : D.waits.length ≤ 1000000) : Calls Try.prog 23 #[.pointer (some ⟨d, 0, none⟩)] w fun e w' => ∃ f, e = .returned (.pointer (some ⟨f, 0, none⟩)) ∧ CD w' f (fun b => w.heap.size ≤ b ∧ b < w'.heap.size) n D ∧ Below w.heap.size w w' := by
  obtain ⟨S, hcd⟩ := h
  obtain ⟨A0, c0, hwf, hwc, hrw⟩ := wv_form hcd
  obtain ⟨C, hC⟩ : ∃ C, C = cCells S n D := ⟨_, rfl⟩
  have hsz : C.size = 8 := by rw [hC]; rfl
  have hinfo : (Try.prog.info? 63).map (·.size) = some C.size := by rw [hsz]; exact disk_size
  have hone : C.all (·.oneCell') = true := by rw [hC]; exact cCells_one hcd
  have hp := hcd.hp
  rw [← hC] at hp
  have HCD := Lib.hid hcd
  have HINF := Lib.hid (And.intro hinfo (And.intro hone hsz)); clear hinfo hone hsz
  have HP := Lib.hid hp; clear hp
  have HZ : Hid ((w.alloc (.cells zDisk 63)).heap[w.heap.size]? = some (.cells zDisk 63 (0, 0))) := Lib.hid (heap_alloc_new w _)
  have HRW := Lib.hid (And.intro hrw (And.intro hwf hC)); clear hrw hwf hC
  clear hcd
  go_enter Try.func23, Try.ntmps23
  go_wp2_with (first
    | ((with_reducible show wpList _ _ _ (⟨some 8, _, _, _, _, _⟩ :: _) _ _); refine wpList_load_row rfl 63 (.tmp 7) rfl d rfl 63 C (0, 0) _ HP.out Try.underlying63 rfl HINF.out.1 ?_)
    | ((with_reducible show wpList _ _ _ (⟨none, .store _ (.tmp 3) (.tmp 8), _, _, _, _⟩ :: _) _ _); refine wpList_store_row rfl 63 (.tmp 3) (.tmp 8) rfl w.heap.size C rfl rfl 63 zDisk HZ.out HINF.out.1 HINF.out.2.2.symm HINF.out.2.1 ?_))
  have h1 : ((w.alloc (.cells zDisk 63)).setRow w.heap.size C).heap[w.heap.size]? = some (.cells C 63 (0, 0)) := setRow_heap _ _ _ _ _ _ HZ.out
  have hb1 : Below w.heap.size w ((w.alloc (.cells zDisk 63)).setRow w.heap.size C) := below_setRow ((Below.refl _ _).alloc (Nat.le_refl _) _) (Nat.le_refl _) _
  have hs1 : ((w.alloc (.cells zDisk 63)).setRow w.heap.size C).heap.size = w.heap.size + 1 := by rw [size_setRow, World.size_alloc]
  clear HZ
  generalize (w.alloc (.cells zDisk 63)).setRow w.heap.size C = w1 at *
  obtain ⟨f, hf⟩ : ∃ f, f = w.heap.size := ⟨_, rfl⟩
  rw [← hf] at h1 hs1
  rw [← hf]
  have HF1 := Lib.hid (And.intro h1 (And.intro hb1 (And.intro hs1 hf))); clear h1 hb1 hs1 hf
  obtain ⟨bn, hbn⟩ : ∃ bn, bn = S.bn := ⟨_, rfl⟩
  obtain ⟨cn, hcn⟩ : ∃ cn, cn = S.cn := ⟨_, rfl⟩
  obtain ⟨bf, hbf⟩ : ∃ bf, bf = S.bf := ⟨_, rfl⟩
  obtain ⟨cf, hcf⟩ : ∃ cf, cf = S.cf := ⟨_, rfl⟩
  obtain ⟨m, hm0⟩ : ∃ m, m = D.waits.length := ⟨_, rfl⟩
  have hdk : w1.heap[d]? = w.heap[d]? := HF1.out.2.1.block d (HCD.out.lt d HCD.out.ld.1)
  have hdl : d < w1.heap.size := by have := HCD.out.lt d HCD.out.ld.1; have := HF1.out; omega
  have HN : Hid (n ≤ 1000000 ∧ m ≤ 1000000) := Lib.hid ⟨by have := HCD.out.n4.2; omega, by rw [hm0]; exact hm⟩
  have HSD : Hid (∀ W : World, W.heap[d]? = w1.heap[d]? → W.cell? ⟨d, 0, none⟩ = some (.slice (some ⟨bn, 0, none⟩) n cn) ∧ W.cell? ⟨d, 1, none⟩ = some (.slice (some ⟨bf, 0, none⟩) n cf) ∧ W.cell? ⟨d, 2, none⟩ = some (.slice A0 m c0)) := Lib.hid fun W hW => by
    have e := hW.trans hdk
    rw [hbn, hcn, hbf, hcf, hm0]
    exact ⟨(World.cell?_of_block (w := w) (a := ⟨d, 0, none⟩) e).trans HCD.out.c0, (World.cell?_of_block (w := w) (a := ⟨d, 1, none⟩) e).trans HCD.out.c1, (World.cell?_of_block (w := w) (a := ⟨d, 2, none⟩) e).trans (by rw [HCD.out.c2, HRW.out.2.1])⟩
  have HDB : Hid (∀ W : World, Below w1.heap.size w1 W → W.heap[d]? = w1.heap[d]?) := Lib.hid fun W hb => hb.block d hdl
  have HFA : Hid (∀ W : World, Below w1.heap.size w1 W → Rd W W.heap.size (some ⟨bn, 0, none⟩) (fl (n * 256) (bF D.now)) ∧ Rd W W.heap.size (some ⟨bf, 0, none⟩) (fl (n * 256) (bF D.firm)) ∧ Rd W W.heap.size A0 (fl (m * 257) (wF D.waits)) ∧ True) := Lib.hid fun W hb => by
    have hbw : Below w.heap.size w W := HF1.out.2.1.trans (hb.mono HF1.out.2.1.size)
    rw [hbn, hbf, hm0]
    exact ⟨(HCD.out.rn.call hbw).rd, (HCD.out.rr.call hbw).rd, HRW.out.1.go hbw, trivial⟩
  have HFD : Hid (f ≠ d) := Lib.hid (by have := HCD.out.lt d HCD.out.ld.1; have := HF1.out; omega)
  have HCF : Hid (∀ W : World, W.heap[f]? = w1.heap[f]? → ∀ k, (k < 8 → (W.cell? ⟨f, k, none⟩).isSome = true) ∧ W.frozen? ⟨f, k, none⟩ = false) := Lib.hid fun W hW k => by
    have e := hW.trans HF1.out.1
    refine ⟨fun hk => ?_, frozen_of_row _ _ _ _ _ e⟩
    rw [cell_of_row _ _ _ _ _ _ e, Array.getElem?_eq_getElem (by rw [HINF.out.2.2]; exact hk)]; rfl
  rw [← hm0] at hwc
  clear hbn hcn hbf hcf hdk hdl
  have HM0 := Lib.hid hm0; clear hm0 hm
  go_upto_region 4 with fail
  refine wp_region_noPanic ?_
  refine wp_region_held_drew (S := (fun w' => w'.cell? ⟨d, 0, none⟩ = some (.slice (some ⟨bn, 0, none⟩) n cn) ∧ w'.cell? ⟨d, 1, none⟩ = some (.slice (some ⟨bf, 0, none⟩) n cf) ∧ w'.cell? ⟨d, 2, none⟩ = some (.slice A0 m c0))) (by kernel_rfl) ?_ (fun hHeld => ?_)
  · exact HSD.out _ rfl
  have hB0 : Below w1.heap.size w1 w1.drew := (Below.refl w1.heap.size w1).drew
  have hz0 : w1.drew.heap.size = w1.heap.size := rfl
  have HZ0 := Lib.hid hz0; clear hz0
  generalize w1.drew = y0 at *
  refine wpAnyH_take (i := 0) (v := ?_) rfl (by kernel_rfl) (by kernel_rfl) (by kernel_rfl) (fun _ _ _ h => h) (Or.inl ⟨by rfl, ?_⟩) hHeld ?_
  rotate_left
  · intro w' hSw
    (try dsimp only at hSw)
    go_simp
    try with_reducible rfl
  try simp only [Act.put, zq1, zq2, zq3, zq4, zq5, zq6]
  refine wpAnyH_take (i := 1) (v := ?_) rfl (by kernel_rfl) (by kernel_rfl) (by kernel_rfl) (fun _ _ _ h => h) (Or.inl ⟨by rfl, ?_⟩) hHeld ?_
  rotate_left
  · intro w' hSw
    (try dsimp only at hSw)
    go_simp
    try with_reducible rfl
  try simp only [Act.put, zq1, zq2, zq3, zq4, zq5, zq6]
  refine wpAnyH_take (i := 2) (v := ?_) rfl (by kernel_rfl) (by kernel_rfl) (by kernel_rfl) (fun _ _ _ h => h) (Or.inl ⟨by rfl, ?_⟩) hHeld ?_
  rotate_left
  · intro w' hSw
    (try dsimp only at hSw)
    go_simp
    try with_reducible rfl
  try simp only [Act.put, zq1, zq2, zq3, zq4, zq5, zq6]
  refine wpAnyH_take (i := 3) (v := ?_) rfl (by kernel_rfl) (by kernel_rfl) (by kernel_rfl) (fun _ _ _ h => h) (Or.inl ⟨by rfl, ?_⟩) hHeld ?_
  rotate_left
  · intro w' hSw
    (try dsimp only at hSw)
    go_simp
    try with_reducible rfl
  try simp only [Act.put, zq1, zq2, zq3, zq4, zq5, zq6]
  refine wpAnyH_take (i := 5) (v := ?_) rfl (by kernel_rfl) (by kernel_rfl) (by kernel_rfl) (fun _ _ _ h => h) (Or.inl ⟨by rfl, ?_⟩) hHeld ?_
  rotate_left
  · intro w' hSw
    (try dsimp only at hSw)
    go_simp
    try with_reducible rfl
  try simp only [Act.put, zq1, zq2, zq3, zq4, zq5, zq6]
  refine wpAnyH_take (i := 6) (v := ?_) rfl (by kernel_rfl) (by kernel_rfl) (by kernel_rfl) (fun _ _ _ h => h) (Or.inl ⟨by rfl, ?_⟩) hHeld ?_
  rotate_left
  · intro w' hSw
    (try dsimp only at hSw)
    go_simp
    try with_reducible rfl
  try simp only [Act.put, zq1, zq2, zq3, zq4, zq5, zq6]
  refine wpAnyH_take (i := 7) (v := ?_) rfl (by kernel_rfl) (by kernel_rfl) (by kernel_rfl) (fun _ _ _ h => h) (Or.inl ⟨by rfl, ?_⟩) hHeld ?_
  rotate_left
  · intro w' hSw
    (try dsimp only at hSw)
    go_simp
    try with_reducible rfl
  try simp only [Act.put, zq1, zq2, zq3, zq4, zq5, zq6]
  refine wpAnyH_take (i := 8) (v := ?_) rfl (by kernel_rfl) (by kernel_rfl) (by kernel_rfl) (fun _ _ _ h => h) (Or.inl ⟨by rfl, ?_⟩) hHeld ?_
  rotate_left
  · intro w' hSw
    (try dsimp only at hSw)
    go_simp
    try with_reducible rfl
  try simp only [Act.put, zq1, zq2, zq3, zq4, zq5, zq6]
  refine wpAnyH_take (i := 10) (v := ?_) rfl (by kernel_rfl) (by kernel_rfl) (by kernel_rfl) (fun _ _ _ h => h) (Or.inl ⟨by rfl, ?_⟩) hHeld ?_
  rotate_left
  · intro w' hSw
    (try dsimp only at hSw)
    go_simp
    try with_reducible rfl
  try simp only [Act.put, zq1, zq2, zq3, zq4, zq5, zq6]
  refine wpAnyH_take (i := 11) (v := ?_) rfl (by kernel_rfl) (by kernel_rfl) (by kernel_rfl) (fun _ _ _ h => h) (Or.inl ⟨by rfl, ?_⟩) hHeld ?_
  rotate_left
  · intro w' hSw
    (try dsimp only at hSw)
    go_simp
    try with_reducible rfl
  try simp only [Act.put, zq1, zq2, zq3, zq4, zq5, zq6]
  refine wpAnyH_take (i := 12) (v := ?_) rfl (by kernel_rfl) (by kernel_rfl) (by kernel_rfl) (fun _ _ _ h => h) (Or.inl ⟨by rfl, ?_⟩) hHeld ?_
  rotate_left
  · intro w' hSw
    (try dsimp only at hSw)
    go_simp
    try with_reducible rfl
  try simp only [Act.put, zq1, zq2, zq3, zq4, zq5, zq6]
  refine wpAnyH_take (i := 13) (v := ?_) rfl (by kernel_rfl) (by kernel_rfl) (by kernel_rfl) (fun _ _ _ h => h) (Or.inl ⟨by rfl, ?_⟩) hHeld ?_
  rotate_left
  · intro w' hSw
    (try dsimp only at hSw)
    go_simp
    try with_reducible rfl
  try simp only [Act.put, zq1, zq2, zq3, zq4, zq5, zq6]
  refine wpAnyH_ready (rs := [4]) (by kernel_rfl) (by simp) ?_
  refine AllReadyH.cons rfl (fun K hK => ?_) (AllReadyH.nil)
  try simp only [zq1, zq2, zq3]
  go_simp
  refine (clblk_any (some ⟨bn, 0, none⟩) (bF D.now) n cn HN.out.1 (bF_one _) y0 (HFA.out _ hB0).1).mono ?_
  rintro e y1 ⟨v1, rfl, ho1, hb1⟩
  obtain ⟨G1, k1, rfl, _, _⟩ := Rd.of_own1 ho1
  have hB1 : Below w1.heap.size w1 y1 := hB0.trans (hb1.mono hB0.size)
  have HO1 := Lib.hid (And.intro ho1 hb1); clear ho1 hb1
  refine hK.out _ _ ?_ (fun hHeld => ?_)
  · exact HSD.out _ (HDB.out _ hB1)
  clear hK K
  try simp only [Act.put, zq1, zq2, zq3, zq4, zq5, zq6]
  refine wpAnyH_ready (rs := [9]) (by kernel_rfl) (by simp) ?_
  refine AllReadyH.cons rfl (fun K hK => ?_) (AllReadyH.nil)
  try simp only [zq1, zq2, zq3]
  go_simp
  refine (clblk_any (some ⟨bf, 0, none⟩) (bF D.firm) n cf HN.out.1 (bF_one _) y1 (HFA.out _ hB1).2.1).mono ?_
  rintro e y2 ⟨v2, rfl, ho2, hb2⟩
  obtain ⟨G2, k2, rfl, _, _⟩ := Rd.of_own1 ho2
  have hB2 : Below w1.heap.size w1 y2 := hB1.trans (hb2.mono hB1.size)
  have HO2 := Lib.hid (And.intro ho2 hb2); clear ho2 hb2
  refine hK.out _ _ ?_ (fun hHeld => ?_)
  · exact HSD.out _ (HDB.out _ hB2)
  clear hK K
  try simp only [Act.put, zq1, zq2, zq3, zq4, zq5, zq6]
  refine wpAnyH_ready (rs := [14]) (by kernel_rfl) (by simp) ?_
  refine AllReadyH.cons rfl (fun K hK => ?_) (AllReadyH.nil)
  try simp only [zq1, zq2, zq3]
  go_simp
  refine (clwr_any A0 (wF D.waits) m c0 HN.out.2 (wF_one _) y2 (HFA.out _ hB2).2.2.1).mono ?_
  rintro e y3 ⟨v3, rfl, ho3, hb3⟩
  obtain ⟨G3, k3, rfl, _, _⟩ := Rd.of_own1 ho3
  have hB3 : Below w1.heap.size w1 y3 := hB2.trans (hb3.mono hB2.size)
  have HO3 := Lib.hid (And.intro ho3 hb3); clear ho3 hb3
  refine hK.out _ _ ?_ (fun hHeld => ?_)
  · exact HSD.out _ (HDB.out _ hB3)
  clear hK K
  try simp only [Act.put, zq1, zq2, zq3, zq4, zq5, zq6]
  refine wpAnyH_take (i := 15) (v := ?_) rfl (by kernel_rfl) (by kernel_rfl) (by kernel_rfl) (fun _ _ _ h => h) (Or.inl ⟨by rfl, ?_⟩) hHeld ?_
  rotate_left
  · intro w' hSw
    (try dsimp only at hSw)
    go_simp
    try with_reducible rfl
  try simp only [Act.put, zq1, zq2, zq3, zq4, zq5, zq6]
  refine wpAnyH_ready (rs := [16]) (by kernel_rfl) (by simp) ?_
  refine AllReadyH.cons rfl (fun K hK => ?_) (AllReadyH.nil)
  try simp only [zq1, zq2, zq3]
  have ef0 : y3.heap[f]? = w1.heap[f]? := hB3.block f (by have := HF1.out; omega)
  have ed0 : y3.heap[d]? = w1.heap[d]? := HDB.out _ hB3
  have hrow3 : y3.heap[f]? = some (.cells C 63 (0, 0)) := ef0.trans HF1.out.1
  have HRK1 : Hid (∃ cs : Array Value, (y3.setCell ⟨f, 0, none⟩ (.slice G1 n k1)).heap[f]? = some (.cells cs 63 (0, 0)) ∧ cs.size = 8) := Lib.hid ⟨_, heap_setCell_same _ _ _ _ _ _ hrow3, by rw [Array.size_setIfInBounds]; exact HINF.out.2.2⟩
  have HRK2 : Hid (∃ cs : Array Value, ((y3.setCell ⟨f, 0, none⟩ (.slice G1 n k1)).setCell ⟨f, 1, none⟩ (.slice G2 n k2)).heap[f]? = some (.cells cs 63 (0, 0)) ∧ cs.size = 8) := Lib.hid ⟨_, heap_setCell_same _ _ _ _ _ _ (heap_setCell_same _ _ _ _ _ _ hrow3), by rw [Array.size_setIfInBounds, Array.size_setIfInBounds]; exact HINF.out.2.2⟩
  have HR3 := Lib.hid hrow3; clear hrow3
  obtain ⟨u0, hu0⟩ := Option.isSome_iff_exists.1 ((HCF.out y3 ef0 0).1 (by decide))
  have hfl0 := (HCF.out y3 ef0 0).2
  go_simp
  clear hu0 hfl0
  refine hK.out _ _ ?_ (fun hHeld => ?_)
  · exact HSD.out _ ((heap_setCell_other _ _ _ _ (fun e => HFD.out e.symm)).trans (ed0))
  clear hK K
  try simp only [Act.put, zq1, zq2, zq3, zq4, zq5, zq6]
  refine wpAnyH_take (i := 17) (v := ?_) rfl (by kernel_rfl) (by kernel_rfl) (by kernel_rfl) (fun _ _ _ h => h) (Or.inl ⟨by rfl, ?_⟩) hHeld ?_
  rotate_left
  · intro w' hSw
    (try dsimp only at hSw)
    go_simp
    try with_reducible rfl
  try simp only [Act.put, zq1, zq2, zq3, zq4, zq5, zq6]
  refine wpAnyH_ready (rs := [18]) (by kernel_rfl) (by simp) ?_
  refine AllReadyH.cons rfl (fun K hK => ?_) (AllReadyH.nil)
  try simp only [zq1, zq2, zq3]
  have hrk1 : ∃ cs : Array Value, (y3.setCell ⟨f, 0, none⟩ (.slice G1 n k1)).heap[f]? = some (.cells cs 63 (0, 0)) ∧ cs.size = 8 := HRK1.out
  obtain ⟨cs1, hr1, hn1⟩ := hrk1
  have hu1 : (y3.setCell ⟨f, 0, none⟩ (.slice G1 n k1)).cell? ⟨f, 1, none⟩ = some (cs1[1]'(by rw [hn1]; decide)) := by rw [cell_of_row _ _ _ _ _ _ hr1, Array.getElem?_eq_getElem (by rw [hn1]; decide)]
  have hfl1 := frozen_of_row (y3.setCell ⟨f, 0, none⟩ (.slice G1 n k1)) f 1 _ _ hr1
  go_simp
  clear hu1 hfl1 hr1
  refine hK.out _ _ ?_ (fun hHeld => ?_)
  · exact HSD.out _ ((heap_setCell_other _ _ _ _ (fun e => HFD.out e.symm)).trans ((heap_setCell_other _ _ _ _ (fun e => HFD.out e.symm)).trans (ed0)))
  clear hK K
  try simp only [Act.put, zq1, zq2, zq3, zq4, zq5, zq6]
  refine wpAnyH_take (i := 19) (v := ?_) rfl (by kernel_rfl) (by kernel_rfl) (by kernel_rfl) (fun _ _ _ h => h) (Or.inl ⟨by rfl, ?_⟩) hHeld ?_
  rotate_left
  · intro w' hSw
    (try dsimp only at hSw)
    go_simp
    try with_reducible rfl
  try simp only [Act.put, zq1, zq2, zq3, zq4, zq5, zq6]
  refine wpAnyH_ready (rs := [20]) (by kernel_rfl) (by simp) ?_
  refine AllReadyH.cons rfl (fun K hK => ?_) (AllReadyH.nil)
  try simp only [zq1, zq2, zq3]
  have hrk2 : ∃ cs : Array Value, ((y3.setCell ⟨f, 0, none⟩ (.slice G1 n k1)).setCell ⟨f, 1, none⟩ (.slice G2 n k2)).heap[f]? = some (.cells cs 63 (0, 0)) ∧ cs.size = 8 := HRK2.out
  obtain ⟨cs2, hr2, hn2⟩ := hrk2
  have hu2 : ((y3.setCell ⟨f, 0, none⟩ (.slice G1 n k1)).setCell ⟨f, 1, none⟩ (.slice G2 n k2)).cell? ⟨f, 2, none⟩ = some (cs2[2]'(by rw [hn2]; decide)) := by rw [cell_of_row _ _ _ _ _ _ hr2, Array.getElem?_eq_getElem (by rw [hn2]; decide)]
  have hfl2 := frozen_of_row ((y3.setCell ⟨f, 0, none⟩ (.slice G1 n k1)).setCell ⟨f, 1, none⟩ (.slice G2 n k2)) f 2 _ _ hr2
  go_simp
  clear hu2 hfl2 hr2
  refine hK.out _ _ ?_ (fun hHeld => ?_)
  · exact HSD.out _ ((heap_setCell_other _ _ _ _ (fun e => HFD.out e.symm)).trans ((heap_setCell_other _ _ _ _ (fun e => HFD.out e.symm)).trans ((heap_setCell_other _ _ _ _ (fun e => HFD.out e.symm)).trans (ed0))))
  clear hK K
  try simp only [Act.put, zq1, zq2, zq3, zq4, zq5, zq6]
  refine wpAnyH_done (by kernel_rfl) ?_ _
  refine NoPanic.normal ?_
  have hfz := HF1.out
  have hown1 := own_belowW (own_belowW HO1.out.1 HO2.out.2) HO3.out.2
  have hown2 := own_belowW HO2.out.1 HO3.out.2
  have hlt1 := HO1.out.1.lt
  have hlt2 := HO2.out.1.lt
  have hfin := HCD.out.forked (w1 := w1) (w4 := y3) (f := f) (v1 := (.slice G1 n k1)) (v2 := (.slice G2 n k2)) (v3 := (.slice G3 m k3)) (y1 := y1) (y2 := y2) hfz.2.2.2 (by rw [← hfz.2.2.2]; exact hfz.2.2.1) (by rw [← HRW.out.2.2]; exact HR3.out) hB3.size (by rw [← HZ0.out]; exact hown1) (fun b hb => (hlt1 b hb).2) hown2 (fun b hb => (hlt2 b hb).2) (by rw [← HM0.out]; exact HO3.out.1) hB1.size HO2.out.2.size
  have hbl : Below w.heap.size w y3 := hfz.2.1.trans (hB3.mono hfz.2.1.size)
  have HFIN := Lib.hid (And.intro hfin.1 (Turn.below hbl hfin.2 (by rw [hfz.2.2.2]; exact Nat.le_refl _))); clear hfin hbl hfz hown1 hown2 hlt1 hlt2
  go_wp2_with fail
  go_ret
  exact ⟨_, rfl, HFIN.out.1, HFIN.out.2⟩
end Go.Proofs.Ytajplflefagbaaa
