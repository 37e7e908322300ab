/-
  The landed code's device (layer 8): the sectors of a write that come through. (Printed by wip/gen/dcharden.py.)
-/
import Derived.Test.YtajplflefagbaaaDcH
namespace Go.Proofs.Ytajplflefagbaaa
open Go Go.RowKit
set_option linter.unusedVariables false
set_option linter.unusedSimpArgs false

theorem run_cut2 (b o f g : Nat) (hg : g = f + 64) (h : g ≤ 256) (W : World) : (Instr.sliceAt 67 (.pointer (some ⟨b, o, none⟩)) (some (.int .i64 (f : Int))) (some (.int .i64 (g : Int))) none).run Try.prog W = .ok (.slice (some ⟨b, o + f, none⟩) 64 (256 - f)) W := by
  subst hg
  have hu := Try.underlying67
  have hs : (sizeOf 5).run Try.prog W = .ok 1 W := by
    have := u8_one
    cases hi : Try.prog.info? 5 with
    | none => rw [hi] at this; cases this
    | some i => rw [hi] at this; simp at this; simp [sizeOf, typeInfo, hi, this]
  have h0 : (f : Int) + 64 ≤ 256 := by omega
  have h1 : (0 : Int) ≤ (f : Int) + 64 := by omega
  have h2 : (f : Int) ≤ (f : Int) + 64 := by omega
  have h3 : ((f : Int) + 64).toNat = f + 64 := by omega
  have h4 : ¬ 256 = f := by omega
  simp [Instr.sliceAt, Instr.sureAddr, run_underlying hu, Instr.sliceBounds, run_sliceBound, hs, h0, h1, h2, h3, h4, Addr.add_mid]
theorem run_cut1 (b o f : Nat) (h : f < 256) (W : World) : (Instr.sliceAt 67 (.pointer (some ⟨b, o, none⟩)) (some (.int .i64 (f : Int))) none none).run Try.prog W = .ok (.slice (some ⟨b, o + f, none⟩) (256 - f) (256 - f)) W := by
  have := run_cutA b o f (by omega) W
  unfold cutA at this
  rw [if_neg (by omega)] at this
  exact this
theorem bits_low (m : Nat) (hm : m < 256) : bits .and .u8 (m : Int) 1 = ((m % 2 : Nat) : Int) := by
  have h := bits_and (UInt8.ofNat m) 1
  have e1 : (UInt8.ofNat m).toNat = m := by rw [UInt8.toNat_ofNat']; omega
  rw [e1] at h
  have e2 : (UInt8.ofNat m &&& 1).toNat = m % 2 := by
    rw [UInt8.toNat_and, e1]
    show m &&& 1 = m % 2
    exact Nat.and_one_is_mod m
  rw [e2] at h
  exact h
theorem crJ_same (M : Nat) (old new : List UInt8) (q : Nat) (h : ¬ M / 2 ^ q % 2 = 1) : crJ M old new (64 * q + 64) = crJ M old new (64 * q) := by
  unfold crJ
  apply List.map_congr_left
  intro k hk
  by_cases h1 : k < 64 * q + 64 ∧ M / 2 ^ (k / 64) % 2 = 1
  · by_cases h2 : k < 64 * q
    · rw [if_pos h1, if_pos ⟨h2, h1.2⟩]
    · exact absurd (by rw [show k / 64 = q from by omega] at h1; exact h1.2) h
  · rw [if_neg h1, if_neg (fun h3 => h1 ⟨by omega, h3.2⟩)]
theorem crJ_getD (M : Nat) (old new : List UInt8) (j k : Nat) (hk : k < 256) : (crJ M old new j).getD k 0 = if k < j ∧ M / 2 ^ (k / 64) % 2 = 1 then new.getD k 0 else old.getD k 0 := by
  rw [List.getD_eq_getElem?_getD, crJ_get M old new j k hk]; rfl
theorem cell_callw8 {w w' : World} {p : Addr} {v : Value} (hb : Below w.heap.size w w') (h : w.cell? p = some v) : w'.cell? p = some v := (hb.cell (block_lt_of_cell h)).trans h
theorem Turn.drew1' {g : Nat} {a b : World} (h : Turn g a.drew b) : Turn g a b := h.drew1
/-- A sector laid over. -/
theorem bF_sect (F : List (List UInt8)) (i n M q : Nat) (old l : List UInt8) (hi : i < n) (hF : F.length = n) (hb : M / 2 ^ q % 2 = 1) (hq : q < 4) (k : Nat) :
    layF (bF (F.set i (crJ M old l (64 * q)))) (i * 256 + 64 * q) (fl 64 fun j => .int .u8 ((l.getD (64 * q + j) 0).toNat : Int)) k = bF (F.set i (crJ M old l (64 * q + 64))) k := by
  unfold layF
  rw [fl_len]
  unfold bF
  by_cases h1 : i * 256 + 64 * q ≤ k ∧ k < i * 256 + 64 * q + 64
  · rw [if_pos h1, fl_get _ _ _ (by omega), show k / 256 = i from by omega, getD_set, if_pos ⟨rfl, by omega⟩, crJ_getD _ _ _ _ _ (by omega), if_pos ⟨by omega, by rw [show k % 256 / 64 = q from by omega]; exact hb⟩, show 64 * q + (k - (i * 256 + 64 * q)) = k % 256 from by omega]; rfl
  · rw [if_neg h1, getD_set, getD_set]
    by_cases h2 : k / 256 = i
    · rw [if_pos ⟨h2, by omega⟩, if_pos ⟨h2, by omega⟩, crJ_getD _ _ _ _ _ (by omega), crJ_getD _ _ _ _ _ (by omega)]
      by_cases h3 : k % 256 < 64 * q ∧ M / 2 ^ (k % 256 / 64) % 2 = 1
      · rw [if_pos h3, if_pos ⟨by omega, h3.2⟩]
      · rw [if_neg h3, if_neg (fun h4 => h3 ⟨by omega, h4.2⟩)]
    · rw [if_neg (fun h => h2 h.1), if_neg (fun h => h2 h.1)]
theorem byte_oneC (f : Nat → UInt8) (n : Nat) : ∀ v ∈ fl n (fun j => Value.int .u8 ((f j).toNat : Int)), v.oneCell' = true := fun v hv => by obtain ⟨b, _, rfl⟩ := List.mem_map.1 hv; rfl
set_option maxRecDepth 100000 in
set_option maxHeartbeats 16000000 in
theorem cdharden_any (w : World) (d n bf cf i M : Nat) (F : List (List UInt8)) (l : List UInt8) (hd : w.cell? ⟨d, 1, none⟩ = some (.slice (some ⟨bf, 0, none⟩) n cf)) (hF : Fr w bf 67 (n * 256) (bF F)) (hFl : F.length = n) (hFi : (F.getD i []).length = 256) (hi : i < n) (hn : n ≤ 4096) (hl : l.length = 256) (hne : d ≠ bf) (hM : M < 256) :
    Calls Try.prog 42 #[.pointer (some ⟨d, 0, none⟩), .agg (wL (i, l)).toArray, .int .u8 (M : Int)] w fun e w' => e = .returned (.tuple #[]) ∧ Fr w' bf 67 (n * 256) (bF (F.set i (crL8 M (F.getD i []) l))) ∧ Keep (fun b => b = bf) w w' := by
  obtain ⟨old, hold⟩ : ∃ old, old = F.getD i [] := ⟨_, rfl⟩
  rw [← hold] at hFi ⊢
  have hb1 : Below w.heap.size w (w.alloc (.cells (wL (i, l)).toArray 71)) := (Below.refl _ _).alloc (Nat.le_refl _) _
  have hbx := Fr.newA w (wL (i, l)).toArray 71 257 (by rw [wL_arr (i, l) hl]; exact Nat.le_refl _)
  have hdl := block_lt_of_cell hd
  have HB1' : Hid (Keep (fun b => b = bf) w (w.alloc (.cells (wL (i, l)).toArray 71))) := Lib.hid (Keep.of hb1)
  have HL := Lib.hid hl; clear hl
  have HIN := Lib.hid (And.intro hi hFl); clear hFl
  have hF0 : F.set i (crJ M old l 0) = F := by rw [crJ_zero _ _ _ hFi, hold, set_get _ _ _ (by rw [HIN.out.2]; exact hi)]
  have hii : (i : Int) < (n : Int) := by omega
  go_enter Try.func42, Try.ntmps42
  go_upto_region 1 with fail
  have HFR : Hid (Fr (w.alloc (.cells (wL (i, l)).toArray 71)) bf 67 (n * 256) (bF (F.set i (crJ M old l (64 * 0))))) := Lib.hid (by rw [show 64 * 0 = 0 from rfl, hF0]; exact hF.call hb1)
  have HD : Hid ((w.alloc (.cells (wL (i, l)).toArray 71)).cell? ⟨d, 1, none⟩ = some (.slice (some ⟨bf, 0, none⟩) n cf)) := Lib.hid (cell_callw8 hb1 hd)
  have HBX := Lib.hid hbx
  have HLT : Hid (bf < w.heap.size ∧ d < w.heap.size) := Lib.hid ⟨hF.lt, hdl⟩
  have hsz1 : (w.alloc (.cells (wL (i, l)).toArray 71)).heap.size = w.heap.size + 1 := World.size_alloc _ _
  clear hbx hb1 hF hd hdl hF0 hold
  generalize w.alloc (.cells (wL (i, l)).toArray 71) = w1 at *
  obtain ⟨bx, hbx0⟩ : ∃ bx, bx = w.heap.size := ⟨_, rfl⟩
  rw [← hbx0] at hsz1 HLT HBX
  rw [← hbx0]
  have HZ1 := Lib.hid hsz1; clear hsz1 hbx0
  go_wp2_with fail
  go_loopw [2, 6] (fun mk fr wr => ∃ q : Nat, q ≤ 4 ∧ fr = .int .i64 ((64 * q : Nat) : Int) ∧ mk = .int .u8 ((M / 2 ^ q : Nat) : Int) ∧ Hid (Fr wr bf 67 (n * 256) (bF (F.set i (crJ M old l (64 * q))))) ∧ Hid (Keep (fun b => b = bf) w1 wr)) (fun _ fr _ => 256 - (intOf fr).toNat)
  case atStart => exact ⟨0, by decide, rfl, by simp, HFR, Lib.hid (Keep.refl _ _)⟩
  case round =>
    rename World => wr
    obtain ⟨q, hq, rfl, rfl, HFJ, HKJ⟩ := hrel
    obtain ⟨f, hf⟩ : ∃ f, f = 64 * q := ⟨_, rfl⟩
    rw [← hf] at HFJ
    rw [← hf]
    obtain ⟨mq, hmq⟩ : ∃ mq, mq = M / 2 ^ q := ⟨_, rfl⟩
    have hmqb : mq < 256 := by rw [hmq]; exact Nat.lt_of_le_of_lt (Nat.div_le_self _ _) hM
    rw [← hmq]
    by_cases hlt : q < 4
    · have hfi : (f : Int) < 256 := by omega
      have hbl := bits_low mq hmqb
      have hm2 : M / 2 ^ (q + 1) = mq / 2 := by rw [hmq, Nat.pow_succ, Nat.div_div_eq_div_mul]
      have HM2 := Lib.hid hm2; clear hm2
      obtain ⟨b, hbq⟩ : ∃ b, b = mq % 2 := ⟨_, rfl⟩
      have HMQ := Lib.hid (And.intro hmq hbq)
      rw [← hbq] at hbl
      by_cases hb1 : b = 1
      · have HB1 : Hid (M / 2 ^ q % 2 = 1) := Lib.hid (by rw [← hmq, ← hbq]; exact hb1)
        rw [hb1] at hbl
        obtain ⟨g, hg⟩ : ∃ g, g = f + 64 := ⟨_, rfl⟩
        have HG : Hid (g = f + 64 ∧ g ≤ 256 ∧ f < 256) := Lib.hid ⟨hg, by omega, by omega⟩
        have HG2 : Hid (f = 64 * q ∧ q < 4) := Lib.hid ⟨hf, hlt⟩
        have hwf : IntKind.i64.wrap (g : Int) = (g : Int) := IntWalk.i64_in _ (by omega)
        have hwf2 : (f : Int) + 64 = (g : Int) := by omega
        have HMIN : Hid ((fl 64 fun j => Value.int .u8 ((l.getD (f + j) 0).toNat : Int)).length = Nat.min (256 - f) 64) := Lib.hid (by rw [fl_len]; exact (Nat.min_eq_right (by omega)).symm)
        have HFIT : Hid (i * 256 + f + (fl 64 fun j => Value.int .u8 ((l.getD (f + j) 0).toNat : Int)).length ≤ n * 256) := Lib.hid (by rw [fl_len]; omega)
        have hxf : bx ≠ bf := by have := HLT.out.1; omega
        have hsrc : ∀ (j : Nat) (v : Value), (fl 64 fun j => Value.int .u8 ((l.getD (f + j) 0).toNat : Int))[j]? = some v → wr.drew.cell? ((⟨bx, 1 + f, none⟩ : Addr).add j) = some v := fun j v hj => by
          obtain ⟨hj2, rfl⟩ := fl_of hj
          have hc := HBX.out.cellAt (1 + f + j) (by omega)
          have hk := (World.cell?_of_block (w := w1) (a := ⟨bx, 1 + f + j, none⟩) (HKJ.out.block bx (by have := HZ1.out; omega) hxf)).trans hc
          rw [Addr.add_mid]
          refine hk.trans ?_
          rw [List.getElem?_toArray, show 1 + f + j = (f + j) + 1 from by omega]
          show some (((wL (i, l))[(f + j) + 1]?).getD undef) = _
          unfold wL
          rw [List.getElem?_cons_succ, List.getElem?_map, List.getD_eq_getElem?_getD, List.getElem?_eq_getElem (by rw [HL.out]; omega)]; rfl
        have HSRC := Lib.hid hsrc; clear hsrc
        have hheld : ∀ W : World, Turn bf wr W → W.cell? ⟨d, 1, none⟩ = some (.slice (some ⟨bf, 0, none⟩) n cf) ∧ W.cell? ⟨bx, 0, none⟩ = some (.int .i64 (i : Int)) := fun W ht => by
          have hc := HBX.out.cellAt 0 (by decide)
          refine ⟨(ht.cell (p := ⟨d, 1, none⟩) hne).trans ((World.cell?_of_block (w := w1) (a := ⟨d, 1, none⟩) (HKJ.out.block d (by have := HZ1.out; have := HLT.out.2; omega) hne)).trans HD.out), (ht.cell (p := ⟨bx, 0, none⟩) hxf).trans ((World.cell?_of_block (w := w1) (a := ⟨bx, 0, none⟩) (HKJ.out.block bx (by have := HZ1.out; omega) hxf)).trans hc)⟩
        have HS := Lib.hid hheld; clear hheld hxf
        clear hf hmq hbq hb1 hg
        go_upto_region 5 with fail
        refine wp_region_noPanic ?_
        refine wp_region_held_drew (S := (fun w' => w'.cell? ⟨d, 1, none⟩ = some (.slice (some ⟨bf, 0, none⟩) n cf) ∧ w'.cell? ⟨bx, 0, none⟩ = some (.int .i64 (i : Int)))) (by kernel_rfl) ?_ (fun hHeld => ?_)
        · exact HS.out _ (Turn.refl _ _).drew
        refine wpAnyH_take (i := 0) (v := ?_) rfl (by kernel_rfl) (by kernel_rfl) (by kernel_rfl) (fun _ _ _ h => h) (Or.inl ⟨by rfl, ?_⟩) hHeld ?_
        rotate_left
        · intro w' hSw
          (try dsimp only at hSw)
          go_simp
          try with_reducible rfl
        try simp only [Act.put, zq1, zq2, zq3, zq4, zq5, zq6]
        refine wpAnyH_take (i := 1) (v := ?_) rfl (by kernel_rfl) (by kernel_rfl) (by kernel_rfl) (fun _ _ _ h => h) (Or.inl ⟨by rfl, ?_⟩) hHeld ?_
        rotate_left
        · intro w' hSw
          (try dsimp only at hSw)
          go_simp
          try with_reducible rfl
        try simp only [Act.put, zq1, zq2, zq3, zq4, zq5, zq6]
        refine wpAnyH_take (i := 2) (v := ?_) rfl (by kernel_rfl) (by kernel_rfl) (by kernel_rfl) (fun _ _ _ h => h) (Or.inl ⟨by rfl, ?_⟩) hHeld ?_
        rotate_left
        · intro w' hSw
          (try dsimp only at hSw)
          go_simp
          try with_reducible rfl
        try simp only [Act.put, zq1, zq2, zq3, zq4, zq5, zq6]
        refine wpAnyH_take (i := 3) (v := ?_) rfl (by kernel_rfl) (by kernel_rfl) (by kernel_rfl) (fun _ _ _ h => h) (Or.inl ⟨by rfl, ?_⟩) hHeld ?_
        rotate_left
        · intro w' hSw
          (try dsimp only at hSw)
          go_simp
          try with_reducible rfl
        try simp only [Act.put, zq1, zq2, zq3, zq4, zq5, zq6]
        refine wpAnyH_take (i := 4) (v := ?_) rfl (by kernel_rfl) (by kernel_rfl) (by kernel_rfl) (fun _ _ _ h => h) (Or.inl ⟨by rfl, ?_⟩) hHeld ?_
        rotate_left
        · intro w' hSw
          (try dsimp only at hSw)
          go_simp
          try with_reducible rfl
        try simp only [Act.put, zq1, zq2, zq3, zq4, zq5, zq6]
        refine wpAnyH_take (i := 5) (v := ?_) rfl (by kernel_rfl) (by kernel_rfl) (by kernel_rfl) (fun _ _ _ h => h) (Or.inl ⟨by rfl, ?_⟩) hHeld ?_
        rotate_left
        · intro w' hSw
          (try dsimp only at hSw)
          go_simp
          try with_reducible rfl
        try simp only [Act.put, zq1, zq2, zq3, zq4, zq5, zq6]
        refine wpAnyH_take (i := 6) (v := ?_) rfl (by kernel_rfl) (by kernel_rfl) (by kernel_rfl) (fun _ _ _ h => h) (Or.inl ⟨by rfl, ?_⟩) hHeld ?_
        rotate_left
        · intro w' hSw
          (try dsimp only at hSw)
          go_simp
          try with_reducible rfl
        try simp only [Act.put, zq1, zq2, zq3, zq4, zq5, zq6]
        refine wpAnyH_take (i := 7) (v := ?_) rfl (by kernel_rfl) (by kernel_rfl) (by kernel_rfl) (fun _ _ _ h => h) (Or.inl ⟨by rfl, ?_⟩) hHeld ?_
        rotate_left
        · intro w' hSw
          (try dsimp only at hSw)
          go_simp
          try with_reducible rfl
        try simp only [Act.put, zq1, zq2, zq3, zq4, zq5, zq6]
        refine wpAnyH_take (i := 8) (v := ?_) rfl (by kernel_rfl) (by kernel_rfl) (by kernel_rfl) (fun _ _ _ h => h) (Or.inl ⟨by rfl, ?_⟩) hHeld ?_
        rotate_left
        · intro w' hSw
          (try dsimp only at hSw)
          go_simp
          try with_reducible rfl
        try simp only [Act.put, zq1, zq2, zq3, zq4, zq5, zq6]
        refine wpAnyH_take (i := 9) (v := ?_) rfl (by kernel_rfl) (by kernel_rfl) (by kernel_rfl) (fun _ _ _ h => h) (Or.inl ⟨by rfl, ?_⟩) hHeld ?_
        rotate_left
        · intro w' hSw
          (try dsimp only at hSw)
          go_simp
          try with_reducible rfl
        try simp only [Act.put, zq1, zq2, zq3, zq4, zq5, zq6]
        refine wpAnyH_take (i := 10) (v := ?_) rfl (by kernel_rfl) (by kernel_rfl) (by kernel_rfl) (fun _ _ _ h => h) (Or.inl ⟨by rfl, ?_⟩) hHeld ?_
        rotate_left
        · intro w' hSw
          (try dsimp only at hSw)
          have hcut := run_cut2 bf (i * 256) f g HG.out.1 HG.out.2.1 w'
          go_simp
          try with_reducible rfl
        try simp only [Act.put, zq1, zq2, zq3, zq4, zq5, zq6]
        refine wpAnyH_take (i := 11) (v := ?_) rfl (by kernel_rfl) (by kernel_rfl) (by kernel_rfl) (fun _ _ _ h => h) (Or.inl ⟨by rfl, ?_⟩) hHeld ?_
        rotate_left
        · intro w' hSw
          (try dsimp only at hSw)
          go_simp
          try with_reducible rfl
        try simp only [Act.put, zq1, zq2, zq3, zq4, zq5, zq6]
        refine wpAnyH_take (i := 12) (v := ?_) rfl (by kernel_rfl) (by kernel_rfl) (by kernel_rfl) (fun _ _ _ h => h) (Or.inl ⟨by rfl, ?_⟩) hHeld ?_
        rotate_left
        · intro w' hSw
          (try dsimp only at hSw)
          go_simp
          try with_reducible rfl
        try simp only [Act.put, zq1, zq2, zq3, zq4, zq5, zq6]
        refine wpAnyH_take (i := 13) (v := ?_) rfl (by kernel_rfl) (by kernel_rfl) (by kernel_rfl) (fun _ _ _ h => h) (Or.inl ⟨by rfl, ?_⟩) hHeld ?_
        rotate_left
        · intro w' hSw
          (try dsimp only at hSw)
          have hcut := run_cut1 bx 1 f HG.out.2.2 w'
          go_simp
          try with_reducible rfl
        try simp only [Act.put, zq1, zq2, zq3, zq4, zq5, zq6]
        refine wpAnyH_ready (rs := [14]) (by kernel_rfl) (by simp) ?_
        refine AllReadyH.cons rfl (fun K hK => ?_) (AllReadyH.nil)
        refine step_copy_fr rfl (.tmp 24) (.tmp 27) 34 34 rfl 5 Try.underlying34 u8_one bf (i * 256 + f) 64 (256 - f) ⟨bx, 1 + f, none⟩ (256 - f) (256 - f) rfl rfl (n * 256) 67 (bF (F.set i (crJ M old l f))) HFJ.out (fl 64 fun j => .int .u8 ((l.getD (f + j) 0).toNat : Int)) HMIN.out HSRC.out HFIT.out (byte_oneC _ _) ?_
        intro w4 hF4 hT4
        refine hK.out _ _ ?_ (fun hHeld => ?_)
        · exact HS.out _ hT4.out.drew1
        clear hK K
        try simp only [Act.put, zq1, zq2, zq3, zq4, zq5, zq6]
        refine wpAnyH_done (by kernel_rfl) ?_ _
        refine NoPanic.normal ?_
        have HFN : Hid (Fr w4 bf 67 (n * 256) (bF (F.set i (crJ M old l (64 * q + 64))))) := Lib.hid (hF4.out.congr fun k _ => by rw [HG2.out.1]; exact bF_sect F i n M q old l HIN.out.1 HIN.out.2 HB1.out HG2.out.2 k)
        have HKN : Hid (Keep (fun b => b = bf) w1 w4) := Lib.hid (Turn.keep HKJ.out hT4.out.drew1 fun _ => rfl)
        clear hF4 hT4 HS hHeld HFJ HKJ HSRC
        go_wp2_with fail
        go_roundw
        case rel => exact ⟨q + 1, by omega, val_int (by have h1 := HG2.out; (try have h2 := HG.out); omega), val_int (by rw [HM2.out]; omega), Lib.hid (by have := HFN.out; rw [show 64 * (q + 1) = 64 * q + 64 from by omega]; exact this), HKN⟩
        case measure => have h1 := HG2.out; (try have h2 := HG.out); simp [intOf]; omega
      · have hb0 : b = 0 := by omega
        have HFN : Hid (Fr wr bf 67 (n * 256) (bF (F.set i (crJ M old l (64 * q + 64))))) := Lib.hid (by rw [crJ_same M old l q (by rw [← hmq, ← hbq, hb0]; decide), ← hf]; exact HFJ.out)
        have HKN := HKJ
        have HG2 : Hid (f = 64 * q ∧ q < 4) := Lib.hid ⟨hf, hlt⟩
        rw [hb0] at hbl
        clear HFJ HKJ hf hmq hbq hb1
        go_wp2_with fail
        go_roundw
        case rel => exact ⟨q + 1, by omega, val_int (by have h1 := HG2.out; (try have h2 := HG.out); omega), val_int (by rw [HM2.out]; omega), Lib.hid (by have := HFN.out; rw [show 64 * (q + 1) = 64 * q + 64 from by omega]; exact this), HKN⟩
        case measure => have h1 := HG2.out; (try have h2 := HG.out); simp [intOf]; omega
    · obtain rfl : q = 4 := by omega
      have hfi : ¬ (f : Int) < 256 := by omega
      have HFE : Hid (Fr wr bf 67 (n * 256) (bF (F.set i (crL8 M old l)))) := Lib.hid (by have := HFJ.out; rw [hf] at this; rw [← crJ_all]; exact this)
      clear HFJ hmq hmqb
      go_wp2_with fail
      refine bodyPost_end (results_none rfl _ _ _) rfl ?_
      exact ⟨rfl, HFE.out, HB1'.out.trans HKJ.out fun x _ h => h⟩
end Go.Proofs.Ytajplflefagbaaa
