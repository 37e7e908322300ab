/-
  The first counter block of any nonce, and the one behind any other one, are the document's: CtrBlocks, for every input.
-/
import Derived.Test.YtfgigoheaoanpaaLaw
import Derived.Test.YtfgigoheaoanpaaCtrL
import Derived.Test.YtfgigoheaoanpaaEqB
namespace Go.Proofs.Ytfgigoheaoanpaa
open Go Go.RowKit Go.ChangeShapes Go.WideShapes Go.ChangeAt
set_option linter.unusedVariables false
set_option linter.unusedSimpArgs false

theorem eqz (f : Nat → Nat) (s : Bool) (h : sameB f (fun _ => 0) = s) (w : World) : (Op.equalIn 10000 23 (.agg (vl 16 f).toArray) (.agg #[.int .u8 0, .int .u8 0, .int .u8 0, .int .u8 0, .int .u8 0, .int .u8 0, .int .u8 0, .int .u8 0, .int .u8 0, .int .u8 0, .int .u8 0, .int .u8 0, .int .u8 0, .int .u8 0, .int .u8 0, .int .u8 0])).run Try.prog w = .ok s w := by
  rw [zero16, ← h]; exact eqin16 f _ w
theorem eqzz (w : World) : (Op.equalIn 10000 23 (.agg (aN 16 fun _ => 0)) (.agg #[.int .u8 0, .int .u8 0, .int .u8 0, .int .u8 0, .int .u8 0, .int .u8 0, .int .u8 0, .int .u8 0, .int .u8 0, .int .u8 0, .int .u8 0, .int .u8 0, .int .u8 0, .int .u8 0, .int .u8 0, .int .u8 0])).run Try.prog w = .ok true w := by
  rw [zero16, eqin16, sameB_true (E16.refl _)]

set_option maxRecDepth 100000 in
set_option maxHeartbeats 20000000 in
theorem kblocks_any (A : Option Addr) (l : List UInt8) (n cap : Nat) (hn : l.length = n) (f : Nat → Nat) (w : World) (hl : n ≤ 140737488351232) (h : Rd w w.heap.size A (vb l)) (hf : ∀ i, i < 16 → f i < 256) :
    Calls Try.prog 3 #[.slice A n cap, .agg (aN 16 f)] w fun e w' => e = .returned (.bool true) ∧ Below w.heap.size w w' := by
  have HF : Hid (B16 f) := Lib.hid hf; clear hf
  have HN := Lib.hid hn; clear hn
  have hB : Below w.heap.size w (w.alloc (.cells (aN 16 f) 23)) := (Below.refl _ _).alloc (Nat.le_refl _) _
  have X3 : Hid (H16 (w.alloc (.cells (aN 16 f) 23)) w.heap.size f) := Lib.hid (H16.newAt rfl)
  have R := Lib.hid (h.go hB); clear h
  have HB := Lib.hid hB; clear hB
  have hg16 := guard16
  have q3 := eqv (nxF f) (nxF f) true (sameB_true (E16.refl _))
  have q2 := eqv (stF (l.map UInt8.toNat)) (stF (l.map UInt8.toNat)) true (sameB_true (E16.refl _))
  have q1 := eqzz
  go_enter Try.func3, Try.ntmps3
  go_wp2_with fail
  generalize w.alloc (.cells (aN 16 f) 23) = u1 at *
  obtain ⟨c3, hc3⟩ : ∃ c3, c3 = w.heap.size := ⟨_, rfl⟩
  rw [← hc3] at X3
  rw [← hc3]
  clear hc3
  refine (copyv_any A (vb l) n cap (by simpa using HN.out) (vb_onec l) u1 hl R.out).mono ?_
  rintro e w2 ⟨v2, rfl, ho2, hb2⟩
  obtain ⟨A2, c2, rfl, _, r2⟩ := Rd.of_own ho2
  have hc2 := own_cap ho2
  have R2 := Lib.hid r2; clear r2 ho2
  replace X3 := Lib.hid (X3.out.call hb2)
  replace R := Lib.hid (R.out.go hb2)
  replace HB : Hid (Below w.heap.size w w2) := Lib.hid (HB.out.trans (hb2.mono HB.out.size))
  clear hb2
  try clear u1
  go_wp2_with fail
  by_cases h12 : n = 12
  · subst h12
    refine (cfirst_any A2 (l.map UInt8.toNat) c2 (by simpa using HN.out) (vb_lt l) hc2 w2 (by rw [← vb_vn]; exact R2.out)).mono ?_
    clear R2
    rintro e w4 ⟨rfl, hb4⟩
    have dS := new_dS w4
    go_upto_region 2 with (refine wpList_store_row rfl 23 (.tmp 5) (.tmp 11) rfl w4.heap.size (aN 16 (stF (l.map UInt8.toNat))) rfl rfl 23 _ dS (by rw [aN_size]; exact blk_size) (by simp only [aN_size]) (aN_one _ _) ?_)
    obtain ⟨hN5, hbN⟩ := new_row w4 (stF (l.map UInt8.toNat))
    have hb5 := hb4.trans (hbN.mono hb4.size)
    replace X3 := Lib.hid (X3.out.call hb5)
    replace R := Lib.hid (R.out.go hb5)
    have X5 := Lib.hid hN5; clear hN5
    replace HB : Hid (Below w.heap.size w ((w4.alloc (.cells #[.int .u8 0, .int .u8 0, .int .u8 0, .int .u8 0, .int .u8 0, .int .u8 0, .int .u8 0, .int .u8 0, .int .u8 0, .int .u8 0, .int .u8 0, .int .u8 0, .int .u8 0, .int .u8 0, .int .u8 0, .int .u8 0] 23)).setRow w4.heap.size (aN 16 (stF (l.map UInt8.toNat))))) := Lib.hid (HB.out.trans (hb5.mono HB.out.size))
    clear hb4 hbN hb5 dS
    generalize (w4.alloc (.cells #[.int .u8 0, .int .u8 0, .int .u8 0, .int .u8 0, .int .u8 0, .int .u8 0, .int .u8 0, .int .u8 0, .int .u8 0, .int .u8 0, .int .u8 0, .int .u8 0, .int .u8 0, .int .u8 0, .int .u8 0, .int .u8 0] 23)).setRow w4.heap.size (aN 16 (stF (l.map UInt8.toNat))) = u2 at *
    obtain ⟨b5, hb5⟩ : ∃ b5, b5 = w4.heap.size := ⟨_, rfl⟩
    rw [← hb5] at X5
    rw [← hb5]
    clear hb5
    try clear w4
    go_upto_region 5 with fail
    refine wp_region_noPanic ?_
    refine wp_region_held_drew (S := (fun w' => w'.rangeAt (b5) 0 (vl 16 (stF (l.map UInt8.toNat))) ∧ Below u2.heap.size u2 w')) (by kernel_rfl) ?_ (fun hHeld => ?_)
    · exact ⟨range_kept ((Below.refl u2.heap.size u2).drew) (row16_range X5.out), (Below.refl u2.heap.size u2).drew⟩
    have hs2 : Below u2.heap.size u2 u2.drew := (Below.refl u2.heap.size u2).drew
    generalize u2.drew = ws1 at *
    refine wpAnyH_take (i := 0) rfl (by kernel_rfl) (by kernel_rfl) (by kernel_rfl) (fun _ _ _ h => h) (yieldsIf_load_mid (by rfl) 23 (.tmp 5) rfl (b5) (0) rfl (vl 16 (stF (l.map UInt8.toNat))) (.array 16 5) (fun _ h => h.1) Try.underlying23 rfl (vln _)) hHeld ?_
    try simp only [Act.put, zq1, zq2, zq3, zq4, zq5, zq6]
    refine wpAnyH_take (i := 1) (v := ?_) rfl (by kernel_rfl) (by kernel_rfl) (by kernel_rfl) (fun _ _ _ h => h) (Or.inl ⟨by rfl, ?_⟩) hHeld ?_
    rotate_left
    · intro w' hSw
      (try dsimp only at hSw)
      go_simp
      try with_reducible rfl
    try simp only [Act.put, zq1, zq2, zq3, zq4, zq5, zq6]
    refine wpAnyH_ready (rs := [2]) (by kernel_rfl) (by simp) ?_
    refine AllReadyH.cons rfl (fun K hK => ?_) (AllReadyH.nil)
    try simp only [zq1, zq2, zq3]
    go_simp
    refine (rfirst_any A (l.map UInt8.toNat) cap (by simpa using HN.out) _ (by rw [← vb_vn]; exact R.out.go hs2)).mono ?_
    rintro e w3 ⟨rfl, hb4⟩
    rw [aN_vl 16 (stF (l.map UInt8.toNat))]
    have hw5 : Below u2.heap.size u2 w3 := hs2.trans (hb4.mono hs2.size)
    refine hK.out _ _ ?_ (fun hHeld => ?_)
    · exact ⟨range_kept (hw5) (row16_range X5.out), hw5⟩
    clear hK K
    try simp only [Act.put, zq1, zq2, zq3, zq4, zq5, zq6]
    clear hb4
    refine wpAnyH_take (i := 3) (v := ?_) rfl (by kernel_rfl) (by kernel_rfl) (by kernel_rfl) (fun _ _ _ h => h) (Or.inl ⟨by rfl, ?_⟩) hHeld ?_
    rotate_left
    · intro w' hSw
      (try dsimp only at hSw)
      go_simp
      try with_reducible rfl
    try simp only [Act.put, zq1, zq2, zq3, zq4, zq5, zq6]
    refine wpAnyH_take (i := 4) (v := ?_) rfl (by kernel_rfl) (by kernel_rfl) (by kernel_rfl) (fun _ _ _ h => h) (Or.inl ⟨by rfl, ?_⟩) hHeld ?_
    rotate_left
    · intro w' hSw
      (try dsimp only at hSw)
      go_simp
      try with_reducible rfl
    try simp only [Act.put, zq1, zq2, zq3, zq4, zq5, zq6]
    refine wpAnyH_take (i := 5) (v := ?_) rfl (by kernel_rfl) (by kernel_rfl) (by kernel_rfl) (fun _ _ _ h => h) (Or.inl ⟨by rfl, ?_⟩) hHeld ?_
    rotate_left
    · intro w' hSw
      (try dsimp only at hSw)
      go_simp
      try with_reducible rfl
    try simp only [Act.put, zq1, zq2, zq3, zq4, zq5, zq6]
    refine wpAnyH_take (i := 6) (v := ?_) rfl (by kernel_rfl) (by kernel_rfl) (by kernel_rfl) (fun _ _ _ h => h) (Or.inl ⟨by rfl, ?_⟩) hHeld ?_
    rotate_left
    · intro w' hSw
      (try dsimp only at hSw)
      go_simp
      try with_reducible rfl
    try simp only [Act.put, zq1, zq2, zq3, zq4, zq5, zq6]
    refine wpAnyH_take (i := 7) (v := ?_) rfl (by kernel_rfl) (by kernel_rfl) (by kernel_rfl) (fun _ _ _ h => h) (Or.inl ⟨by rfl, ?_⟩) hHeld ?_
    rotate_left
    · intro w' hSw
      (try dsimp only at hSw)
      go_simp
      try with_reducible rfl
    try simp only [Act.put, zq1, zq2, zq3, zq4, zq5, zq6]
    refine wpAnyH_done (by kernel_rfl) ?_ _
    refine NoPanic.normal ?_
    go_upto_region 7 with fail
    replace X3 := Lib.hid (H16.call hw5 X3.out)
    replace HB : Hid (Below w.heap.size w w3) := Lib.hid (HB.out.trans (hw5.mono HB.out.size))
    clear hw5 R X5
    obtain ⟨u7, hu7⟩ : ∃ u7 : World, u7 = w3 := ⟨_, rfl⟩
    rw [← hu7] at X3 HB ⊢
    clear hu7
    refine wp_region_noPanic ?_
    refine wp_region_held_drew (S := (fun w' => w'.rangeAt (c3) 0 (vl 16 (f)) ∧ Below u7.heap.size u7 w')) (by kernel_rfl) ?_ (fun hHeld => ?_)
    · exact ⟨range_kept ((Below.refl u7.heap.size u7).drew) (row16_range X3.out), (Below.refl u7.heap.size u7).drew⟩
    have hs102 : Below u7.heap.size u7 u7.drew := (Below.refl u7.heap.size u7).drew
    generalize u7.drew = ws101 at *
    refine wpAnyH_take (i := 0) rfl (by kernel_rfl) (by kernel_rfl) (by kernel_rfl) (fun _ _ _ h => h) (yieldsIf_load_mid (by rfl) 23 (.tmp 3) rfl (c3) (0) rfl (vl 16 (f)) (.array 16 5) (fun _ h => h.1) Try.underlying23 rfl (vln _)) hHeld ?_
    try simp only [Act.put, zq1, zq2, zq3, zq4, zq5, zq6]
    refine wpAnyH_take (i := 2) rfl (by kernel_rfl) (by kernel_rfl) (by kernel_rfl) (fun _ _ _ h => h) (yieldsIf_load_mid (by rfl) 23 (.tmp 3) rfl (c3) (0) rfl (vl 16 (f)) (.array 16 5) (fun _ h => h.1) Try.underlying23 rfl (vln _)) hHeld ?_
    try simp only [Act.put, zq1, zq2, zq3, zq4, zq5, zq6]
    refine wpAnyH_ready (rs := [1]) (by kernel_rfl) (by simp) ?_
    refine AllReadyH.cons rfl (fun K hK => ?_) (AllReadyH.nil)
    try simp only [zq1, zq2, zq3]
    go_simp
    refine (cnext_any f _ HF.out).mono ?_
    rintro e w103 ⟨rfl, hb104⟩
    rw [aN_vl 16 (nxF f)]
    have hw105 : Below u7.heap.size u7 w103 := hs102.trans (hb104.mono hs102.size)
    refine hK.out _ _ ?_ (fun hHeld => ?_)
    · exact ⟨range_kept (hw105) (row16_range X3.out), hw105⟩
    clear hK K
    try simp only [Act.put, zq1, zq2, zq3, zq4, zq5, zq6]
    clear hb104
    refine wpAnyH_ready (rs := [3]) (by kernel_rfl) (by simp) ?_
    refine AllReadyH.cons rfl (fun K hK => ?_) (AllReadyH.nil)
    try simp only [zq1, zq2, zq3]
    go_simp
    refine (rnext_any f _ HF.out).mono ?_
    rintro e w106 ⟨rfl, hb107⟩
    rw [aN_vl 16 (nxF f)]
    have hw108 : Below u7.heap.size u7 w106 := hw105.trans (hb107.mono hw105.size)
    refine hK.out _ _ ?_ (fun hHeld => ?_)
    · exact ⟨range_kept (hw108) (row16_range X3.out), hw108⟩
    clear hK K
    try simp only [Act.put, zq1, zq2, zq3, zq4, zq5, zq6]
    clear hb107
    refine wpAnyH_take (i := 4) (v := ?_) rfl (by kernel_rfl) (by kernel_rfl) (by kernel_rfl) (fun _ _ _ h => h) (Or.inl ⟨by rfl, ?_⟩) hHeld ?_
    rotate_left
    · intro w' hSw
      (try dsimp only at hSw)
      go_simp
      try with_reducible rfl
    try simp only [Act.put, zq1, zq2, zq3, zq4, zq5, zq6]
    refine wpAnyH_take (i := 5) (v := ?_) rfl (by kernel_rfl) (by kernel_rfl) (by kernel_rfl) (fun _ _ _ h => h) (Or.inl ⟨by rfl, ?_⟩) hHeld ?_
    rotate_left
    · intro w' hSw
      (try dsimp only at hSw)
      go_simp
      try with_reducible rfl
    try simp only [Act.put, zq1, zq2, zq3, zq4, zq5, zq6]
    refine wpAnyH_ready (rs := [6]) (by kernel_rfl) (by simp) ?_
    refine AllReadyH.cons rfl (fun K hK => ?_) (AllReadyH.nil)
    try simp only [zq1, zq2, zq3]
    go_simp
    refine (known05_any _).mono ?_
    rintro e w109 ⟨rfl, hb110⟩
    have hw111 : Below u7.heap.size u7 w109 := hw108.trans (hb110.mono hw108.size)
    refine hK.out _ _ ?_ (fun hHeld => ?_)
    · exact ⟨range_kept (hw111) (row16_range X3.out), hw111⟩
    clear hK K
    try simp only [Act.put, zq1, zq2, zq3, zq4, zq5, zq6]
    clear hb110
    refine wpAnyH_take (i := 7) (v := ?_) rfl (by kernel_rfl) (by kernel_rfl) (by kernel_rfl) (fun _ _ _ h => h) (Or.inl ⟨by rfl, ?_⟩) hHeld ?_
    rotate_left
    · intro w' hSw
      (try dsimp only at hSw)
      go_simp
      try with_reducible rfl
    try simp only [Act.put, zq1, zq2, zq3, zq4, zq5, zq6]
    refine wpAnyH_take (i := 8) (v := ?_) rfl (by kernel_rfl) (by kernel_rfl) (by kernel_rfl) (fun _ _ _ h => h) (Or.inl ⟨by rfl, ?_⟩) hHeld ?_
    rotate_left
    · intro w' hSw
      (try dsimp only at hSw)
      go_simp
      try with_reducible rfl
    try simp only [Act.put, zq1, zq2, zq3, zq4, zq5, zq6]
    refine wpAnyH_done (by kernel_rfl) ?_ _
    refine NoPanic.normal ?_
    go_wp2_with fail
    go_ret
    exact ⟨rfl, HB.out.trans (hw111.mono HB.out.size)⟩
  · refine (cfirst_no A2 n c2 h12 (by omega) w2).mono ?_
    clear R2
    have hi12 : (n : Int) ≠ 12 := by omega
    rintro e w4 ⟨rfl, hb4⟩
    have dS := new_dS w4
    go_upto_region 2 with (refine wpList_store_row rfl 23 (.tmp 5) (.tmp 11) rfl w4.heap.size (aN 16 (fun _ => 0)) rfl rfl 23 _ dS (by rw [aN_size]; exact blk_size) (by simp only [aN_size]) (aN_one _ _) ?_)
    obtain ⟨hN5, hbN⟩ := new_row w4 (fun _ => 0)
    have hb5 := hb4.trans (hbN.mono hb4.size)
    replace X3 := Lib.hid (X3.out.call hb5)
    replace R := Lib.hid (R.out.go hb5)
    have X5 := Lib.hid hN5; clear hN5
    replace HB : Hid (Below w.heap.size w ((w4.alloc (.cells #[.int .u8 0, .int .u8 0, .int .u8 0, .int .u8 0, .int .u8 0, .int .u8 0, .int .u8 0, .int .u8 0, .int .u8 0, .int .u8 0, .int .u8 0, .int .u8 0, .int .u8 0, .int .u8 0, .int .u8 0, .int .u8 0] 23)).setRow w4.heap.size (aN 16 (fun _ => 0)))) := Lib.hid (HB.out.trans (hb5.mono HB.out.size))
    clear hb4 hbN hb5 dS
    generalize (w4.alloc (.cells #[.int .u8 0, .int .u8 0, .int .u8 0, .int .u8 0, .int .u8 0, .int .u8 0, .int .u8 0, .int .u8 0, .int .u8 0, .int .u8 0, .int .u8 0, .int .u8 0, .int .u8 0, .int .u8 0, .int .u8 0, .int .u8 0] 23)).setRow w4.heap.size (aN 16 (fun _ => 0)) = u2 at *
    obtain ⟨b5, hb5⟩ : ∃ b5, b5 = w4.heap.size := ⟨_, rfl⟩
    rw [← hb5] at X5
    rw [← hb5]
    clear hb5
    try clear w4
    have d5 : u2.heap[b5]? = some (.cells (aN 16 fun _ => 0) 23 (0, 0)) := X5.out
    go_upto_region 7 with (refine wpList_load_row_g rfl 23 (.tmp 5) rfl b5 rfl 23 (aN 16 (fun _ => 0)) (0, 0) (.array 16 5) d5 Try.underlying23 rfl (by rw [aN_size]; exact blk_size) ?_)
    refine wp_region_noPanic ?_
    refine wp_region_held_drew (S := (fun w' => w'.rangeAt (c3) 0 (vl 16 (f)) ∧ Below u2.heap.size u2 w')) (by kernel_rfl) ?_ (fun hHeld => ?_)
    · exact ⟨range_kept ((Below.refl u2.heap.size u2).drew) (row16_range X3.out), (Below.refl u2.heap.size u2).drew⟩
    have hs102 : Below u2.heap.size u2 u2.drew := (Below.refl u2.heap.size u2).drew
    generalize u2.drew = ws101 at *
    refine wpAnyH_take (i := 0) rfl (by kernel_rfl) (by kernel_rfl) (by kernel_rfl) (fun _ _ _ h => h) (yieldsIf_load_mid (by rfl) 23 (.tmp 3) rfl (c3) (0) rfl (vl 16 (f)) (.array 16 5) (fun _ h => h.1) Try.underlying23 rfl (vln _)) hHeld ?_
    try simp only [Act.put, zq1, zq2, zq3, zq4, zq5, zq6]
    refine wpAnyH_take (i := 2) rfl (by kernel_rfl) (by kernel_rfl) (by kernel_rfl) (fun _ _ _ h => h) (yieldsIf_load_mid (by rfl) 23 (.tmp 3) rfl (c3) (0) rfl (vl 16 (f)) (.array 16 5) (fun _ h => h.1) Try.underlying23 rfl (vln _)) hHeld ?_
    try simp only [Act.put, zq1, zq2, zq3, zq4, zq5, zq6]
    refine wpAnyH_ready (rs := [1]) (by kernel_rfl) (by simp) ?_
    refine AllReadyH.cons rfl (fun K hK => ?_) (AllReadyH.nil)
    try simp only [zq1, zq2, zq3]
    go_simp
    refine (cnext_any f _ HF.out).mono ?_
    rintro e w103 ⟨rfl, hb104⟩
    rw [aN_vl 16 (nxF f)]
    have hw105 : Below u2.heap.size u2 w103 := hs102.trans (hb104.mono hs102.size)
    refine hK.out _ _ ?_ (fun hHeld => ?_)
    · exact ⟨range_kept (hw105) (row16_range X3.out), hw105⟩
    clear hK K
    try simp only [Act.put, zq1, zq2, zq3, zq4, zq5, zq6]
    clear hb104
    refine wpAnyH_ready (rs := [3]) (by kernel_rfl) (by simp) ?_
    refine AllReadyH.cons rfl (fun K hK => ?_) (AllReadyH.nil)
    try simp only [zq1, zq2, zq3]
    go_simp
    refine (rnext_any f _ HF.out).mono ?_
    rintro e w106 ⟨rfl, hb107⟩
    rw [aN_vl 16 (nxF f)]
    have hw108 : Below u2.heap.size u2 w106 := hw105.trans (hb107.mono hw105.size)
    refine hK.out _ _ ?_ (fun hHeld => ?_)
    · exact ⟨range_kept (hw108) (row16_range X3.out), hw108⟩
    clear hK K
    try simp only [Act.put, zq1, zq2, zq3, zq4, zq5, zq6]
    clear hb107
    refine wpAnyH_take (i := 4) (v := ?_) rfl (by kernel_rfl) (by kernel_rfl) (by kernel_rfl) (fun _ _ _ h => h) (Or.inl ⟨by rfl, ?_⟩) hHeld ?_
    rotate_left
    · intro w' hSw
      (try dsimp only at hSw)
      go_simp
      try with_reducible rfl
    try simp only [Act.put, zq1, zq2, zq3, zq4, zq5, zq6]
    refine wpAnyH_take (i := 5) (v := ?_) rfl (by kernel_rfl) (by kernel_rfl) (by kernel_rfl) (fun _ _ _ h => h) (Or.inl ⟨by rfl, ?_⟩) hHeld ?_
    rotate_left
    · intro w' hSw
      (try dsimp only at hSw)
      go_simp
      try with_reducible rfl
    try simp only [Act.put, zq1, zq2, zq3, zq4, zq5, zq6]
    refine wpAnyH_ready (rs := [6]) (by kernel_rfl) (by simp) ?_
    refine AllReadyH.cons rfl (fun K hK => ?_) (AllReadyH.nil)
    try simp only [zq1, zq2, zq3]
    go_simp
    refine (known05_any _).mono ?_
    rintro e w109 ⟨rfl, hb110⟩
    have hw111 : Below u2.heap.size u2 w109 := hw108.trans (hb110.mono hw108.size)
    refine hK.out _ _ ?_ (fun hHeld => ?_)
    · exact ⟨range_kept (hw111) (row16_range X3.out), hw111⟩
    clear hK K
    try simp only [Act.put, zq1, zq2, zq3, zq4, zq5, zq6]
    clear hb110
    refine wpAnyH_take (i := 7) (v := ?_) rfl (by kernel_rfl) (by kernel_rfl) (by kernel_rfl) (fun _ _ _ h => h) (Or.inl ⟨by rfl, ?_⟩) hHeld ?_
    rotate_left
    · intro w' hSw
      (try dsimp only at hSw)
      go_simp
      try with_reducible rfl
    try simp only [Act.put, zq1, zq2, zq3, zq4, zq5, zq6]
    refine wpAnyH_take (i := 8) (v := ?_) rfl (by kernel_rfl) (by kernel_rfl) (by kernel_rfl) (fun _ _ _ h => h) (Or.inl ⟨by rfl, ?_⟩) hHeld ?_
    rotate_left
    · intro w' hSw
      (try dsimp only at hSw)
      go_simp
      try with_reducible rfl
    try simp only [Act.put, zq1, zq2, zq3, zq4, zq5, zq6]
    refine wpAnyH_done (by kernel_rfl) ?_ _
    refine NoPanic.normal ?_
    go_wp2_with fail
    go_ret
    exact ⟨rfl, HB.out.trans (hw111.mono HB.out.size)⟩

set_option maxRecDepth 100000 in
theorem kblocks_lifted (os : Os) (started : os.Started) (H : Type) (enc : TypeId × Value → H) :
    ReturnsInHanded {} Try.checked os 3 .any (Rows.ctrBlocksSpec.pre6 enc Try.prog Try.f3 Rows.ctrBlocksRow.domain false) (Rows.ctrBlocksSpec.post enc Try.prog Try.f3 false true false false) := by
  refine returnsInHanded_of_change_sized (C := Try.checked) Try.own started (by kernel_rfl) Try.func3
    (ChangeSpec.witness6 (enc := enc) (C := Try.checked) false ⟨#[], #[.slice none 0 0, .agg #[.int .u8 0, .int .u8 0, .int .u8 0, .int .u8 0, .int .u8 0, .int .u8 0, .int .u8 0, .int .u8 0, .int .u8 0, .int .u8 0, .int .u8 0, .int .u8 0, .int .u8 0, .int .u8 0, .int .u8 0, .int .u8 0]], []⟩ 8 (by kernel_rfl) (by kernel_rfl) (by kernel_rfl) (by kernel_rfl)) ?_
  intro W base args ds gs before hval0 hW _ hsz0 _
  have hsz : (DataW.weightsEach Try.prog (Try.f3.params.toList ++ Rows.ctrBlocksSpec.plain.varTypes Try.prog) (ds ++ gs)).all (· ≤ reachBytes) = true := hsz0
  have hval : ∀ (j : Nat) t v, Try.f3.params[j]? = some t → args[j]? = some v → Value.okWide Try.prog W .any base t v := hval0
  have hW' := hW
  obtain ⟨p, q, hA0, hV, rfl, _, _⟩ := hW
  have hA : DataW.TrodAll enc Try.prog W 0 (fun _ => true) true Try.f3.params.toList args.toList ds p := hA0
  rw [Try.params3] at hA hval hsz
  have hlt := hW'.lt
  clear hA0 hval0 hsz0
  obtain ⟨v0, vs0, d0, ds0, p0, q0, hv0, rfl, rfl, h0, r0⟩ := trodAll_cons hA
  obtain ⟨v1, vs1, d1, ds1, p1, q1, hv1, rfl, rfl, h1, r1⟩ := trodAll_cons r0
  subst hv1
  obtain ⟨rfl, rfl, rfl⟩ := trodAll_nil r1
  obtain rfl : args = #[v0, v1] := by cases args; simp_all
  obtain ⟨rfl, rfl⟩ := trodVars_none hV
  obtain ⟨A0, l0, c0, rfl, rd0, le0⟩ := open_bytes Try.underlying22 Try.underlying5 Try.cellsU8 (hval 0 22 v0 rfl rfl) h0 (fun x hx => hlt x (by simp [hx])) (fun es sp he => by subst he; have := sized_slice hsz (j := 0) (t := 22) (e := 5) rfl rfl Try.underlying22; rw [Try.bytesU8, Nat.mul_one] at this; exact this)
  obtain ⟨f1, rfl, u1⟩ := open_arr_u8 Try.underlying23 Try.underlying5 Try.cellsU8 (by kernel_rfl) (hval 1 23 v1 rfl rfl) h1
  refine (kblocks_any A0 l0 l0.length c0 rfl f1 W le0 rd0 u1).mono fun e W' ⟨he, hb⟩ => ⟨_, he, ?_⟩
  exact law_post 4 Try.underlying4 (by kernel_rfl) rfl Try.laidOut (by kernel_rfl) hW' ⟨rfl, rfl, rfl⟩ hb

theorem kblocks_holds : Rows.CtrBlocksSaid :=
  OpenClaim.holds_of_wide 3 Try.f3 rfl rfl rfl rfl rfl rfl rfl ⟨rfl, rfl, rfl, rfl, rfl⟩ rfl rfl rfl rfl rfl (by kernel_rfl) Try.func3 (by kernel_rfl)
    (of_decide_eq_true (by kernel_rfl)) (by unfold Func.isWrapper; first | (rw [if_pos (by decide +kernel)]; kernel_rfl) | (rw [if_neg (by decide +kernel)]; exact ⟨rfl, rfl⟩))
    (fun os started H enc _ => kblocks_lifted os started H enc)
end Go.Proofs.Ytfgigoheaoanpaa
