/-
  The standard's own examples: AesStandard.
-/
import Derived.Test.YtljmkleppoacaaaLaw
import Derived.Test.YtljmkleppoacaaaAesQ
namespace Go.Proofs.Ytljmkleppoacaaa
open Go Go.RowKit Go.ChangeShapes Go.WideShapes Go.ChangeAt
set_option linter.unusedVariables false
set_option linter.unusedSimpArgs false

theorem rd_lit (w : World) (l : List Nat) (t : TypeId) : Rd (w.alloc (.cells (vn l).toArray t)) (w.alloc (.cells (vn l).toArray t)).heap.size (some ⟨w.heap.size, 0, none⟩) (vn l) := fun _ =>
  ⟨_, rfl, by rw [World.size_alloc]; exact Nat.lt_succ_self _, fun j u hj => by
    rw [head_add, cell_of_row _ _ _ _ _ _ (heap_alloc_new _ _)]
    simpa using hj⟩
theorem guardn4 (x y : Operand) (xs ys : Array Value) (w : World) : (eqGuard .neq 34 x y (.agg xs) (.agg ys)).run Try.prog w = .ok () w := by kernel_rfl
theorem eq_w4 (w : World) : (Op.equalIn 10000 34 (.agg #[.int .u8 160, .int .u8 250, .int .u8 254, .int .u8 23]) (.agg #[.int .u8 160, .int .u8 250, .int .u8 254, .int .u8 23])).run Try.prog w = .ok true w := by
  have := eqin4 (fun i => ([160, 250, 254, 23] : List Nat).getD i 0) (fun i => ([160, 250, 254, 23] : List Nat).getD i 0) w
  rw [decide_eq_true (by exact ⟨rfl, rfl, rfl, rfl⟩)] at this
  exact this
theorem eq_w43 (w : World) : (Op.equalIn 10000 34 (.agg #[.int .u8 182, .int .u8 99, .int .u8 12, .int .u8 166]) (.agg #[.int .u8 182, .int .u8 99, .int .u8 12, .int .u8 166])).run Try.prog w = .ok true w := by
  have := eqin4 (fun i => ([182, 99, 12, 166] : List Nat).getD i 0) (fun i => ([182, 99, 12, 166] : List Nat).getD i 0) w
  rw [decide_eq_true (by exact ⟨rfl, rfl, rfl, rfl⟩)] at this
  exact this
theorem lit_outB : (#[.int .u8 142, .int .u8 162, .int .u8 183, .int .u8 202, .int .u8 81, .int .u8 103, .int .u8 69, .int .u8 191, .int .u8 234, .int .u8 252, .int .u8 73, .int .u8 144, .int .u8 75, .int .u8 73, .int .u8 96, .int .u8 137] : Array Value) = aN 16 outB := rfl
theorem eq_outB (w : World) : (Op.equalIn 10000 35 (.agg (vl 16 outB).toArray) (.agg #[.int .u8 142, .int .u8 162, .int .u8 183, .int .u8 202, .int .u8 81, .int .u8 103, .int .u8 69, .int .u8 191, .int .u8 234, .int .u8 252, .int .u8 73, .int .u8 144, .int .u8 75, .int .u8 73, .int .u8 96, .int .u8 137])).run Try.prog w = .ok true w := by
  rw [lit_outB, ← aN_vl, eqin16, sameB_true (E16.refl _)]
theorem lit_keyC : (#[.int .u8 43, .int .u8 126, .int .u8 21, .int .u8 22, .int .u8 40, .int .u8 174, .int .u8 210, .int .u8 166, .int .u8 171, .int .u8 247, .int .u8 21, .int .u8 136, .int .u8 9, .int .u8 207, .int .u8 79, .int .u8 60] : Array Value) = (vn keyC).toArray := rfl
theorem keyC_lt : ∀ x ∈ keyC, x < 256 := by decide
theorem keyB_lt : ∀ x ∈ keyB, x < 256 := by decide
theorem std_enc (c : Nat) (w : World) (h : Ci 14 w c (kF (List.range 32))) :
    Calls Try.prog 16 #[.pointer (some ⟨c, 0, none⟩), .agg (aN 16 blkF)] w fun e w' => e = .returned (.tuple #[.agg (aN 16 outB), .int .i64 0]) ∧ Below w.heap.size w w' := by
  have := encrypt_any 14 (kF (List.range 32)) blkF c w (by omega) (by omega) blkF_lt (kF_bk _ (range_lt 32 (by omega)) 14) h
  have e : E16 (enc (kF (List.range 32)) 14 blkF) outB := by rw [keyB_range]; exact knownB
  rwa [aN_congr e] at this
theorem std_dec (c : Nat) (w : World) (h : Ci 14 w c (kF (List.range 32))) :
    Calls Try.prog 18 #[.pointer (some ⟨c, 0, none⟩), .agg (aN 16 outB)] w fun e w' => e = .returned (.tuple #[.agg (aN 16 blkF), .int .i64 0]) ∧ Below w.heap.size w w' := by
  have := dec_enc_any 14 (kF (List.range 32)) blkF c w (by omega) (by omega) blkF_lt (kF_bk _ (range_lt 32 (by omega)) 14) h
  have e : E16 (enc (kF (List.range 32)) 14 blkF) outB := by rw [keyB_range]; exact knownB
  rwa [aN_congr e] at this

set_option maxRecDepth 100000 in
set_option maxHeartbeats 4000000 in
theorem astd_any (w : World) :
    Calls Try.prog 8 #[] w fun e w' => e = .returned (.bool true) ∧ Below w.heap.size w w' := by
  have hB : Below w.heap.size w (w.alloc (.cells (vn keyC).toArray 5)) := (Below.refl _ _).alloc (Nat.le_refl _) _
  have HW := Lib.hid (words16_any (some ⟨w.heap.size, 0, none⟩) keyC 16 rfl (Nat.le_refl _) keyC_lt _ (rd_lit w keyC 5))
  have HB := Lib.hid hB; clear hB
  go_enter Try.func8, Try.ntmps8
  go_wp2_with fail
  rw [lit_keyC]
  generalize w.alloc (.cells (vn keyC).toArray 5) = w0 at *
  refine HW.out.mono ?_
  rintro e w1 ⟨rfl, hv, hb1⟩
  have HV1 : Hid (HV 176 34 w1 w0.heap.size fun i => wdsC.getD i 0) := Lib.hid (hv.congr keyC_words)
  have HB1 : Hid (Below w.heap.size w w1) := Lib.hid (HB.out.trans (hb1.mono HB.out.size))
  clear HW HB hv hb1
  generalize w0.heap.size = g at *
  have HCN := Lib.hid (count_any 32 (by omega) w1)
  go_wp2_with fail
  have hcn := HCN.out
  rw [show ((32 : Nat) : Int) = 32 from rfl] at hcn
  refine hcn.mono ?_
  rintro e w2 ⟨v, rfl, hown, hb2⟩
  clear hcn HCN
  obtain ⟨A5, c5, rfl, hlen, hrd⟩ := Rd.of_own hown
  have hcap : 32 ≤ c5 := own_cap hown
  have HN := Lib.hid (new32_any A5 (List.range 32) c5 (by simp) hcap (range_lt 32 (by omega)) w2 hrd)
  clear hown hlen hrd
  go_wp2_with fail
  refine HN.out.mono ?_
  rintro e wr ⟨c, rfl, hcc, hb3⟩
  have HCI := Lib.hid hcc; clear hcc HN
  have hb13 := hb2.trans (hb3.mono hb2.size)
  have HV3 : Hid (HV 176 34 wr g fun i => wdsC.getD i 0) := Lib.hid (HV1.out.call hb13)
  have HB : Hid (Below w.heap.size w wr) := Lib.hid (HB1.out.trans (hb13.mono HB1.out.size))
  clear HV1 HB1 hb2 hb3 hb13
  have k16 : wr.cell? ⟨g, 16, none⟩ = some (.int .u8 160) := HV3.out.cell 16 (by omega)
  have k17 : wr.cell? ⟨g, 17, none⟩ = some (.int .u8 250) := HV3.out.cell 17 (by omega)
  have k18 : wr.cell? ⟨g, 18, none⟩ = some (.int .u8 254) := HV3.out.cell 18 (by omega)
  have k19 : wr.cell? ⟨g, 19, none⟩ = some (.int .u8 23) := HV3.out.cell 19 (by omega)
  have k172 : wr.cell? ⟨g, 172, none⟩ = some (.int .u8 182) := HV3.out.cell 172 (by omega)
  have k173 : wr.cell? ⟨g, 173, none⟩ = some (.int .u8 99) := HV3.out.cell 173 (by omega)
  have k174 : wr.cell? ⟨g, 174, none⟩ = some (.int .u8 12) := HV3.out.cell 174 (by omega)
  have k175 : wr.cell? ⟨g, 175, none⟩ = some (.int .u8 166) := HV3.out.cell 175 (by omega)
  have hw4 := eq_w4
  have hw43 := eq_w43
  have hg4 := guardn4
  go_upto_region 5 with fail
  clear hw4 hw43 hg4 k16 k17 k18 k19 k172 k173 k174 k175
  go_wp2_with fail
  refine (block_any _).mono ?_
  rintro e wA ⟨rfl, hbA⟩
  have HCI2 : Hid (Ci 14 wA c (kF (List.range 32))) := Lib.hid (Ci.go hbA HCI.out)
  have HB2 : Hid (Below w.heap.size w wA) := Lib.hid (HB.out.trans (hbA.mono HB.out.size))
  clear HCI HB HV3 hbA
  go_wp2_with fail
  refine (std_enc c _ HCI2.out).mono ?_
  rintro e wB ⟨rfl, hbA⟩
  have dS := new_dS wB
  go_upto_region 6 with (refine wpList_store_row rfl 35 (.tmp 5) (.tmp 52) rfl (wB.heap.size) (aN 16 (outB)) rfl rfl 35 _ dS (by rw [aN_size]; kernel_rfl) (by simp only [aN_size]) (aN_one _ _) ?_)
  obtain ⟨hN, hbN⟩ := new_row wB outB
  have HCI : Hid (Ci 14 ((wB.alloc (.cells #[.int .u8 0, .int .u8 0, .int .u8 0, .int .u8 0, .int .u8 0, .int .u8 0, .int .u8 0, .int .u8 0, .int .u8 0, .int .u8 0, .int .u8 0, .int .u8 0, .int .u8 0, .int .u8 0, .int .u8 0, .int .u8 0] 35)).setRow wB.heap.size (aN 16 outB)) c (kF (List.range 32))) := Lib.hid (Ci.go hbN (Ci.go hbA HCI2.out))
  have HB : Hid (Below w.heap.size w ((wB.alloc (.cells #[.int .u8 0, .int .u8 0, .int .u8 0, .int .u8 0, .int .u8 0, .int .u8 0, .int .u8 0, .int .u8 0, .int .u8 0, .int .u8 0, .int .u8 0, .int .u8 0, .int .u8 0, .int .u8 0, .int .u8 0, .int .u8 0] 35)).setRow wB.heap.size (aN 16 outB))) := Lib.hid ((HB2.out.trans (hbA.mono HB2.out.size)).trans (hbN.mono (HB2.out.trans (hbA.mono HB2.out.size)).size))
  have Hb5 := Lib.hid hN
  clear hN hbA hbN HCI2 HB2 dS
  generalize (wB.alloc (.cells #[.int .u8 0, .int .u8 0, .int .u8 0, .int .u8 0, .int .u8 0, .int .u8 0, .int .u8 0, .int .u8 0, .int .u8 0, .int .u8 0, .int .u8 0, .int .u8 0, .int .u8 0, .int .u8 0, .int .u8 0, .int .u8 0] 35)).setRow wB.heap.size (aN 16 outB) = wrn at *
  generalize wB.heap.size = b5 at *
  try clear wr
  obtain ⟨wr, rfl⟩ : ∃ wr : World, wr = wrn := ⟨_, rfl⟩
  have dl : wr.heap[b5]? = some (.cells (aN 16 (outB)) 35 (0, 0)) := Hb5.out
  go_wp2_with (refine wpList_load_row_g (by rfl) 35 (.tmp 5) rfl (b5) rfl 35 (aN 16 (outB)) (0, 0) (.array 16 5) dl Try.underlying35 rfl (by rw [aN_size]; kernel_rfl) ?_)
  refine (std_dec c _ HCI.out).mono ?_
  rintro e wA ⟨rfl, hbA⟩
  have dS := new_dS wA
  go_upto_region 7 with (refine wpList_store_row rfl 35 (.tmp 7) (.tmp 58) rfl (wA.heap.size) (aN 16 (blkF)) rfl rfl 35 _ dS (by rw [aN_size]; kernel_rfl) (by simp only [aN_size]) (aN_one _ _) ?_)
  obtain ⟨hN, hbN⟩ := new_row wA (blkF)
  clear dl dS
  have Hb5' : Hid (H16 ((wA.alloc (.cells #[.int .u8 0, .int .u8 0, .int .u8 0, .int .u8 0, .int .u8 0, .int .u8 0, .int .u8 0, .int .u8 0, .int .u8 0, .int .u8 0, .int .u8 0, .int .u8 0, .int .u8 0, .int .u8 0, .int .u8 0, .int .u8 0] 35)).setRow wA.heap.size (aN 16 (blkF))) (b5) (outB)) := Lib.hid ((Hb5.out.call hbA).call hbN)
  have HB' : Hid (Below w.heap.size w ((wA.alloc (.cells #[.int .u8 0, .int .u8 0, .int .u8 0, .int .u8 0, .int .u8 0, .int .u8 0, .int .u8 0, .int .u8 0, .int .u8 0, .int .u8 0, .int .u8 0, .int .u8 0, .int .u8 0, .int .u8 0, .int .u8 0, .int .u8 0] 35)).setRow wA.heap.size (aN 16 (blkF)))) := Lib.hid ((HB.out.trans (hbA.mono HB.out.size)).trans (hbN.mono (HB.out.trans (hbA.mono HB.out.size)).size))
  have Hb7 := Lib.hid hN
  clear hN hbA hbN Hb5 HB
  have Hb5 := Hb5'; clear Hb5'
  have HB := HB'; clear HB'
  generalize (wA.alloc (.cells #[.int .u8 0, .int .u8 0, .int .u8 0, .int .u8 0, .int .u8 0, .int .u8 0, .int .u8 0, .int .u8 0, .int .u8 0, .int .u8 0, .int .u8 0, .int .u8 0, .int .u8 0, .int .u8 0, .int .u8 0, .int .u8 0] 35)).setRow wA.heap.size (aN 16 (blkF)) = wrn at *
  generalize wA.heap.size = b7 at *
  try clear wr
  obtain ⟨wr, rfl⟩ : ∃ wr : World, wr = wrn := ⟨_, rfl⟩
  clear HCI
  have hqB := eq_outB
  have hqF := eqv blkF blkF true (sameB_true (E16.refl _))
  have hg16 := guard16
  refine wp_region_noPanic ?_
  refine wp_region_held_drew (S := (fun w' => w'.rangeAt b5 0 (vl 16 outB) ∧ w'.rangeAt b7 0 (vl 16 blkF))) (by kernel_rfl) ?_ (fun hHeld => ?_)
  · exact ⟨H16.range (w := wr.drew) Hb5.out, H16.range (w := wr.drew) Hb7.out⟩
  refine wpAnyH_take (i := 0) (v := ?_) rfl (by kernel_rfl) (by kernel_rfl) (by kernel_rfl) (fun _ _ _ h => h) (Or.inl ⟨by rfl, ?_⟩) hHeld ?_
  rotate_left
  · intro w' hSw
    (try dsimp only at hSw)
    go_simp
    try with_reducible rfl
  try simp only [Act.put, List.getElem_toArray, List.getElem_cons_zero, List.getElem_cons_succ, List.setIfInBounds_toArray, List.set_cons_zero, List.set_cons_succ]
  refine wpAnyH_take (i := 1) (v := ?_) rfl (by kernel_rfl) (by kernel_rfl) (by kernel_rfl) (fun _ _ _ h => h) (Or.inl ⟨by rfl, ?_⟩) hHeld ?_
  rotate_left
  · intro w' hSw
    (try dsimp only at hSw)
    go_simp
    try with_reducible rfl
  try simp only [Act.put, List.getElem_toArray, List.getElem_cons_zero, List.getElem_cons_succ, List.setIfInBounds_toArray, List.set_cons_zero, List.set_cons_succ]
  refine wpAnyH_take (i := 2) (v := ?_) rfl (by kernel_rfl) (by kernel_rfl) (by kernel_rfl) (fun _ _ _ h => h) (Or.inl ⟨by rfl, ?_⟩) hHeld ?_
  rotate_left
  · intro w' hSw
    (try dsimp only at hSw)
    go_simp
    try with_reducible rfl
  try simp only [Act.put, List.getElem_toArray, List.getElem_cons_zero, List.getElem_cons_succ, List.setIfInBounds_toArray, List.set_cons_zero, List.set_cons_succ]
  refine wpAnyH_take (i := 3) (v := ?_) rfl (by kernel_rfl) (by kernel_rfl) (by kernel_rfl) (fun _ _ _ h => h) (Or.inl ⟨by rfl, ?_⟩) hHeld ?_
  rotate_left
  · intro w' hSw
    (try dsimp only at hSw)
    go_simp
    try with_reducible rfl
  try simp only [Act.put, List.getElem_toArray, List.getElem_cons_zero, List.getElem_cons_succ, List.setIfInBounds_toArray, List.set_cons_zero, List.set_cons_succ]
  refine wpAnyH_take (i := 4) (v := ?_) rfl (by kernel_rfl) (by kernel_rfl) (by kernel_rfl) (fun _ _ _ h => h) (Or.inl ⟨by rfl, ?_⟩) hHeld ?_
  rotate_left
  · intro w' hSw
    (try dsimp only at hSw)
    go_simp
    try with_reducible rfl
  try simp only [Act.put, List.getElem_toArray, List.getElem_cons_zero, List.getElem_cons_succ, List.setIfInBounds_toArray, List.set_cons_zero, List.set_cons_succ]
  refine wpAnyH_take (i := 5) (v := ?_) rfl (by kernel_rfl) (by kernel_rfl) (by kernel_rfl) (fun _ _ _ h => h) (Or.inl ⟨by rfl, ?_⟩) hHeld ?_
  rotate_left
  · intro w' hSw
    (try dsimp only at hSw)
    go_simp
    try with_reducible rfl
  try simp only [Act.put, List.getElem_toArray, List.getElem_cons_zero, List.getElem_cons_succ, List.setIfInBounds_toArray, List.set_cons_zero, List.set_cons_succ]
  refine wpAnyH_take (i := 6) (v := ?_) rfl (by kernel_rfl) (by kernel_rfl) (by kernel_rfl) (fun _ _ _ h => h) (Or.inl ⟨by rfl, ?_⟩) hHeld ?_
  rotate_left
  · intro w' hSw
    (try dsimp only at hSw)
    go_simp
    try with_reducible rfl
  try simp only [Act.put, List.getElem_toArray, List.getElem_cons_zero, List.getElem_cons_succ, List.setIfInBounds_toArray, List.set_cons_zero, List.set_cons_succ]
  refine wpAnyH_take (i := 7) rfl (by kernel_rfl) (by kernel_rfl) (by kernel_rfl) (fun _ _ _ h => h) (yieldsIf_load_mid (by rfl) 35 (.tmp 5) rfl (b5) (0) rfl (vl 16 outB) (.array 16 5) (fun _ h => h.1) Try.underlying35 rfl (by rw [vl_len]; exact block_size)) hHeld ?_
  try simp only [Act.put, List.getElem_toArray, List.getElem_cons_zero, List.getElem_cons_succ, List.setIfInBounds_toArray, List.set_cons_zero, List.set_cons_succ]
  refine wpAnyH_take (i := 8) (v := ?_) rfl (by kernel_rfl) (by kernel_rfl) (by kernel_rfl) (fun _ _ _ h => h) (Or.inl ⟨by rfl, ?_⟩) hHeld ?_
  rotate_left
  · intro w' hSw
    (try dsimp only at hSw)
    go_simp
    try with_reducible rfl
  try simp only [Act.put, List.getElem_toArray, List.getElem_cons_zero, List.getElem_cons_succ, List.setIfInBounds_toArray, List.set_cons_zero, List.set_cons_succ]
  refine wpAnyH_take (i := 9) (v := ?_) rfl (by kernel_rfl) (by kernel_rfl) (by kernel_rfl) (fun _ _ _ h => h) (Or.inl ⟨by rfl, ?_⟩) hHeld ?_
  rotate_left
  · intro w' hSw
    (try dsimp only at hSw)
    go_simp
    try with_reducible rfl
  try simp only [Act.put, List.getElem_toArray, List.getElem_cons_zero, List.getElem_cons_succ, List.setIfInBounds_toArray, List.set_cons_zero, List.set_cons_succ]
  refine wpAnyH_take (i := 10) (v := ?_) rfl (by kernel_rfl) (by kernel_rfl) (by kernel_rfl) (fun _ _ _ h => h) (Or.inl ⟨by rfl, ?_⟩) hHeld ?_
  rotate_left
  · intro w' hSw
    (try dsimp only at hSw)
    go_simp
    try with_reducible rfl
  try simp only [Act.put, List.getElem_toArray, List.getElem_cons_zero, List.getElem_cons_succ, List.setIfInBounds_toArray, List.set_cons_zero, List.set_cons_succ]
  refine wpAnyH_take (i := 11) (v := ?_) rfl (by kernel_rfl) (by kernel_rfl) (by kernel_rfl) (fun _ _ _ h => h) (Or.inl ⟨by rfl, ?_⟩) hHeld ?_
  rotate_left
  · intro w' hSw
    (try dsimp only at hSw)
    go_simp
    try with_reducible rfl
  try simp only [Act.put, List.getElem_toArray, List.getElem_cons_zero, List.getElem_cons_succ, List.setIfInBounds_toArray, List.set_cons_zero, List.set_cons_succ]
  refine wpAnyH_take (i := 12) rfl (by kernel_rfl) (by kernel_rfl) (by kernel_rfl) (fun _ _ _ h => h) (yieldsIf_load_mid (by rfl) 35 (.tmp 7) rfl (b7) (0) rfl (vl 16 blkF) (.array 16 5) (fun _ h => h.2) Try.underlying35 rfl (by rw [vl_len]; exact block_size)) hHeld ?_
  try simp only [Act.put, List.getElem_toArray, List.getElem_cons_zero, List.getElem_cons_succ, List.setIfInBounds_toArray, List.set_cons_zero, List.set_cons_succ]
  refine wpAnyH_ready (rs := [13]) (by kernel_rfl) (by simp) ?_
  refine AllReadyH.cons rfl (fun K hK => ?_) (AllReadyH.nil)
  · try simp only [List.getElem_toArray, List.getElem_cons_zero, List.getElem_cons_succ]
    go_simp
    refine (block_any _).mono ?_
    rintro e wx ⟨rfl, hbx⟩
    rw [aN_vl 16 blkF]
    refine hK.out _ _ ?_ (fun hHeld => ?_)
    · exact ⟨range_call hbx hHeld.1, range_call hbx hHeld.2⟩
    clear hK K
    try simp only [Act.put, List.getElem_toArray, List.getElem_cons_zero, List.getElem_cons_succ, List.setIfInBounds_toArray, List.set_cons_zero, List.set_cons_succ]
    refine wpAnyH_take (i := 14) (v := ?_) rfl (by kernel_rfl) (by kernel_rfl) (by kernel_rfl) (fun _ _ _ h => h) (Or.inl ⟨by rfl, ?_⟩) hHeld ?_
    rotate_left
    · intro w' hSw
      (try dsimp only at hSw)
      go_simp
      try with_reducible rfl
    try simp only [Act.put, List.getElem_toArray, List.getElem_cons_zero, List.getElem_cons_succ, List.setIfInBounds_toArray, List.set_cons_zero, List.set_cons_succ]
    refine wpAnyH_take (i := 15) (v := ?_) rfl (by kernel_rfl) (by kernel_rfl) (by kernel_rfl) (fun _ _ _ h => h) (Or.inl ⟨by rfl, ?_⟩) hHeld ?_
    rotate_left
    · intro w' hSw
      (try dsimp only at hSw)
      go_simp
      try with_reducible rfl
    try simp only [Act.put, List.getElem_toArray, List.getElem_cons_zero, List.getElem_cons_succ, List.setIfInBounds_toArray, List.set_cons_zero, List.set_cons_succ]
    refine wpAnyH_take (i := 16) (v := ?_) rfl (by kernel_rfl) (by kernel_rfl) (by kernel_rfl) (fun _ _ _ h => h) (Or.inl ⟨by rfl, ?_⟩) hHeld ?_
    rotate_left
    · intro w' hSw
      (try dsimp only at hSw)
      go_simp
      try with_reducible rfl
    try simp only [Act.put, List.getElem_toArray, List.getElem_cons_zero, List.getElem_cons_succ, List.setIfInBounds_toArray, List.set_cons_zero, List.set_cons_succ]
    refine wpAnyH_ready (rs := [17]) (by kernel_rfl) (by simp) ?_
    refine AllReadyH.cons rfl (fun K hK => ?_) (AllReadyH.nil)
    · try simp only [List.getElem_toArray, List.getElem_cons_zero, List.getElem_cons_succ]
      go_simp
      refine (known03_any _).mono ?_
      rintro e wy ⟨rfl, hby⟩
      refine hK.out _ _ ?_ (fun hHeld => ?_)
      · exact ⟨range_call hby hHeld.1, range_call hby hHeld.2⟩
      clear hK K
      try simp only [Act.put, List.getElem_toArray, List.getElem_cons_zero, List.getElem_cons_succ, List.setIfInBounds_toArray, List.set_cons_zero, List.set_cons_succ]
      refine wpAnyH_take (i := 18) (v := ?_) rfl (by kernel_rfl) (by kernel_rfl) (by kernel_rfl) (fun _ _ _ h => h) (Or.inl ⟨by rfl, ?_⟩) hHeld ?_
      rotate_left
      · intro w' hSw
        (try dsimp only at hSw)
        go_simp
        try with_reducible rfl
      try simp only [Act.put, List.getElem_toArray, List.getElem_cons_zero, List.getElem_cons_succ, List.setIfInBounds_toArray, List.set_cons_zero, List.set_cons_succ]
      refine wpAnyH_take (i := 19) (v := ?_) rfl (by kernel_rfl) (by kernel_rfl) (by kernel_rfl) (fun _ _ _ h => h) (Or.inl ⟨by rfl, ?_⟩) hHeld ?_
      rotate_left
      · intro w' hSw
        (try dsimp only at hSw)
        go_simp
        try with_reducible rfl
      try simp only [Act.put, List.getElem_toArray, List.getElem_cons_zero, List.getElem_cons_succ, List.setIfInBounds_toArray, List.set_cons_zero, List.set_cons_succ]
      refine wpAnyH_done (by kernel_rfl) ?_ _
      refine NoPanic.normal ?_
      go_wp2_with fail
      go_ret
      exact ⟨rfl, (HB.out.drew.trans (hbx.mono HB.out.size)).trans (hby.mono (HB.out.drew.trans (hbx.mono HB.out.size)).size)⟩

set_option maxRecDepth 100000 in
theorem astd_lifted (os : Os) (started : os.Started) (H : Type) (enc : TypeId × Value → H) :
    ReturnsInHanded {} Try.checked os 8 .any (Rows.aesStandardSpec.pre6 enc Try.prog Try.f8 Rows.aesStandardRow.domain false) (Rows.aesStandardSpec.post enc Try.prog Try.f8 false true false false) := by
  refine returnsInHanded_of_change_sized (C := Try.checked) Try.own started (by kernel_rfl) Try.func8
    (ChangeSpec.witness6 (enc := enc) (C := Try.checked) false ⟨#[], #[], []⟩ 8 (by kernel_rfl) (by kernel_rfl) (by kernel_rfl) (by kernel_rfl)) ?_
  intro W base args ds gs before hval0 hW _ hsz0 _
  have hsz : (DataW.weightsEach Try.prog (Try.f8.params.toList ++ Rows.aesStandardSpec.plain.varTypes Try.prog) (ds ++ gs)).all (· ≤ reachBytes) = true := hsz0
  have hval : ∀ (j : Nat) t v, Try.f8.params[j]? = some t → args[j]? = some v → Value.okWide Try.prog W .any base t v := hval0
  have hW' := hW
  obtain ⟨p, q, hA0, hV, rfl, _, _⟩ := hW
  have hA : DataW.TrodAll enc Try.prog W 0 (fun _ => true) true Try.f8.params.toList args.toList ds p := hA0
  rw [Try.params8] at hA hval hsz
  have hlt := hW'.lt
  clear hA0 hval0 hsz0
  obtain ⟨ha0, rfl, rfl⟩ := trodAll_nil hA
  obtain rfl : args = #[] := by cases args; simp_all
  obtain ⟨rfl, rfl⟩ := trodVars_none hV
  refine (astd_any  W ).mono fun e W' ⟨he, hb⟩ => ⟨_, he, ?_⟩
  exact law_post 4 Try.underlying4 (by kernel_rfl) rfl Try.laidOut (by kernel_rfl) hW' ⟨rfl, rfl, rfl⟩ hb

theorem astd_holds : Rows.AesStandardSaid :=
  OpenClaim.holds_of_wide 8 Try.f8 rfl rfl rfl rfl rfl rfl rfl ⟨rfl, rfl, rfl, rfl, rfl⟩ rfl rfl rfl rfl rfl (by kernel_rfl) Try.func8 (by kernel_rfl)
    (of_decide_eq_true (by kernel_rfl)) (by unfold Func.isWrapper; first | (rw [if_pos (by decide +kernel)]; kernel_rfl) | (rw [if_neg (by decide +kernel)]; exact ⟨rfl, rfl⟩))
    (fun os started H enc _ => astd_lifted os started H enc)
end Go.Proofs.Ytljmkleppoacaaa
