/-
  Several texts in one:
  A closure that counts on: the stream's next block, by a contract of its own.
  The code's First by a copy.
-/
import Derived.Test.YtkfmgjipocmkjaaFoldF
import Derived.Test.YtkfmgjipocmkjaaAesL
import Derived.Test.YtkfmgjipocmkjaaFoldA
namespace Go.Proofs.Ytkfmgjipocmkjaa
open Go Go.RowKit
set_option linter.unusedVariables false
set_option linter.unusedSimpArgs false

/-- The closure's two variables when i blocks are told. -/
structure St (u0 : World) (c : Nat) (s : Nat → Nat) (pc pp i : Nat) (w : World) : Prop where
  lo : u0.heap.size ≤ pc ∧ u0.heap.size ≤ pp
  ne : pc ≠ pp
  hc : H16 w pc (cB s i)
  hp : w.heap[pp]? = some (.cells #[.pointer (some ⟨c, 0, none⟩)] 44 (0, 0))
  bel : Below u0.heap.size u0 w
/-- All but one block is as it was. -/
def Kept1 (b : Nat) (w w' : World) : Prop := w.heap.size ≤ w'.heap.size ∧ ∀ k, k < w.heap.size → k ≠ b → w'.heap[k]? = w.heap[k]?
theorem Kept1.refl (b : Nat) (w : World) : Kept1 b w w := ⟨Nat.le_refl _, fun _ _ _ => rfl⟩
theorem Kept1.call {b : Nat} {w w1 w' : World} (h : Kept1 b w w1) (hb : Below w1.heap.size w1 w') : Kept1 b w w' :=
  ⟨Nat.le_trans h.1 hb.size, fun k hk h1 => (hb.block k (Nat.lt_of_lt_of_le hk h.1)).trans (h.2 k hk h1)⟩
theorem Kept1.row {b : Nat} {w w1 : World} (h : Kept1 b w w1) (g : Nat) (hg : g = b ∨ w.heap.size ≤ g) (cs : Array Value) : Kept1 b w (w1.setRow g cs) :=
  ⟨Nat.le_trans h.1 (below_row (B := 0) (Below.refl 0 w1) g (Nat.zero_le _) cs).size, fun k hk h1 => (setRow_other _ _ _ _ (by rcases hg with rfl | hg <;> omega)).trans (h.2 k hk h1)⟩
theorem Ci.far {r : Nat} {w w' : World} {c : Nat} {F : Nat → Nat} (h : Ci r w c F) (hb : Below w.heap.size w w') : Ci r w' c F := h.below (B := 0) hb
theorem one_row {w : World} {b g : Nat} {o : Obj} (h : w.heap[b]? = some o) (hg : b ≠ g) (cs : Array Value) : (w.setRow g cs).heap[b]? = some o := (setRow_other _ _ _ _ hg).trans h
theorem one_call {w w' : World} {b : Nat} {o : Obj} (h : w.heap[b]? = some o) (hb : Below w.heap.size w w') : w'.heap[b]? = some o := (hb.block b (Array.getElem?_eq_some_iff.1 h).1).trans h

set_option maxRecDepth 100000 in
set_option maxHeartbeats 4000000 in
theorem nextb_any (u0 : World) (r c : Nat) (F s : Nat → Nat) (pc pp i : Nat) (w : World) (hr : 1 ≤ r) (hr' : r ≤ 14) (hs : B16 s) (hk : BK F r) (hci : Ci r u0 c F) (h : St u0 c s pc pp i w) :
    Calls Try.prog 44 #[.pointer (some ⟨pc, 0, none⟩), .pointer (some ⟨pp, 0, none⟩)] w fun e w' =>
      e = .returned (.agg (aN 16 (enc F r (cB s (i + 1))))) ∧ St u0 c s pc pp (i + 1) w' ∧ Kept1 pc w w' := by
  obtain ⟨lo, ne, hc, hp, bel⟩ := h
  obtain ⟨x, hx⟩ : ∃ x, x = cB s i := ⟨_, rfl⟩
  have HXL : Hid (B16 x) := Lib.hid (by rw [hx]; exact cB_lt s hs _)
  have ex : cB s (i + 1) = nxF x := by rw [hx]; rfl
  rw [← hx] at hc
  rw [ex]
  have HX := Lib.hid (And.intro hx ex); clear hx ex hs
  have LO := Lib.hid lo; clear lo
  have NE := Lib.hid ne; clear ne
  have HK := Lib.hid hk; clear hk
  have HCI := Lib.hid hci; clear hci
  have hlt : pc < w.heap.size := hc.lt
  have hlp : pp < w.heap.size := (Array.getElem?_eq_some_iff.1 hp).1
  have hb1 : Below w.heap.size w (w.alloc (.cells #[.int .u8 0, .int .u8 0, .int .u8 0, .int .u8 0, .int .u8 0, .int .u8 0, .int .u8 0, .int .u8 0, .int .u8 0, .int .u8 0, .int .u8 0, .int .u8 0, .int .u8 0, .int .u8 0, .int .u8 0, .int .u8 0] 35)) := (Below.refl _ _).alloc (Nat.le_refl _) _
  have HD := Lib.hid (new_h w)
  have HC := Lib.hid (hc.call hb1)
  have HP := Lib.hid (one_call hp hb1)
  have HW := Lib.hid (bel.trans (hb1.mono bel.size))
  have HKP := Lib.hid ((Kept1.refl pc w).call hb1)
  have hbw : u0.heap.size ≤ w.heap.size := bel.size
  clear hb1 hc hp bel
  go_enter Try.func44, Try.ntmps44
  go_upto_region 1 with fail
  generalize w.alloc (.cells #[.int .u8 0, .int .u8 0, .int .u8 0, .int .u8 0, .int .u8 0, .int .u8 0, .int .u8 0, .int .u8 0, .int .u8 0, .int .u8 0, .int .u8 0, .int .u8 0, .int .u8 0, .int .u8 0, .int .u8 0, .int .u8 0] 35) = w1 at *
  have hgp : pc ≠ w.heap.size := by omega
  have d1 : w1.heap[pc]? = some (.cells (aN 16 x) 35 (0, 0)) := HC.out
  go_wp2_with (refine wpList_load_row_g rfl 35 (.tmp 0) rfl pc rfl 35 (aN 16 (x)) (0, 0) (.array 16 5) d1 Try.underlying35 rfl (by rw [aN_size]; exact blk_size) ?_)
  refine (cnext_any x w1 HXL.out).mono ?_
  rintro e w2 ⟨rfl, hb2⟩
  have dS : w2.heap[pc]? = some (.cells (aN 16 x) 35 (0, 0)) := one_call d1 hb2
  clear d1 HC
  replace HD := Lib.hid (HD.out.call hb2)
  replace HP := Lib.hid (one_call HP.out hb2)
  replace HW := Lib.hid (HW.out.trans (hb2.mono HW.out.size))
  replace HKP := Lib.hid (HKP.out.call hb2)
  clear hb2
  try clear w1
  go_upto_region 2 with (refine wpList_store_row rfl 35 (.tmp 0) (.tmp 6) rfl pc (aN 16 (nxF x)) rfl rfl 35 _ dS (by rw [aN_size]; exact blk_size) (by simp only [aN_size]) (aN_one _ _) ?_)
  obtain ⟨w3, hw3⟩ : ∃ w3, w3 = w2.setRow pc (aN 16 (nxF x)) := ⟨_, rfl⟩
  have d3 : w3.heap[pc]? = some (.cells (aN 16 (nxF x)) 35 (0, 0)) := by rw [hw3]; exact setRow_heap _ _ _ _ _ _ dS
  replace HD : Hid (H16 w3 w.heap.size fun _ => 0) := Lib.hid (by rw [hw3]; exact H16.rowOther HD.out hgp.symm _)
  replace HP : Hid (w3.heap[pp]? = some (.cells #[.pointer (some ⟨c, 0, none⟩)] 44 (0, 0))) := Lib.hid (by rw [hw3]; exact one_row HP.out NE.out.symm _)
  replace HW : Hid (Below u0.heap.size u0 w3) := Lib.hid (by rw [hw3]; exact below_row HW.out _ LO.out.1 _)
  replace HKP : Hid (Kept1 pc w w3) := Lib.hid (by rw [hw3]; exact HKP.out.row pc (.inl rfl) _)
  rw [← hw3]
  clear hw3 dS
  try clear w2
  have cP := cell_of_one HP.out
  go_wp2_with (refine wpList_load_row_g rfl 35 (.tmp 0) rfl pc rfl 35 (aN 16 (nxF x)) (0, 0) (.array 16 5) d3 Try.underlying35 rfl (by rw [aN_size]; exact blk_size) ?_)
  refine (encrypt_any r F (nxF x) c w3 hr hr' (nxF_lt x HXL.out) HK.out (HCI.out.far HW.out)).mono ?_
  rintro e w4 ⟨rfl, hb4⟩
  clear cP
  have HC : Hid (H16 w4 pc (nxF x)) := Lib.hid (one_call d3 hb4)
  replace HD := Lib.hid (HD.out.call hb4)
  replace HP := Lib.hid (one_call HP.out hb4)
  replace HW := Lib.hid (HW.out.trans (hb4.mono HW.out.size))
  replace HKP := Lib.hid (HKP.out.call hb4)
  clear hb4 d3
  have dS := new_dS w4
  go_upto_region 3 with (refine wpList_store_row rfl 35 (.tmp 3) (.tmp 11) rfl w4.heap.size (aN 16 (enc F r (nxF x))) rfl rfl 35 _ dS (by rw [aN_size]; exact blk_size) (by simp only [aN_size]) (aN_one _ _) ?_)
  obtain ⟨hN, hbN⟩ := new_row w4 (enc F r (nxF x))
  replace HC := Lib.hid (HC.out.call hbN)
  replace HD := Lib.hid (HD.out.call hbN)
  replace HP := Lib.hid (one_call HP.out hbN)
  replace HW := Lib.hid (HW.out.trans (hbN.mono HW.out.size))
  replace HKP := Lib.hid (HKP.out.call hbN)
  clear hbN dS
  generalize (w4.alloc (.cells #[.int .u8 0, .int .u8 0, .int .u8 0, .int .u8 0, .int .u8 0, .int .u8 0, .int .u8 0, .int .u8 0, .int .u8 0, .int .u8 0, .int .u8 0, .int .u8 0, .int .u8 0, .int .u8 0, .int .u8 0, .int .u8 0] 35)).setRow w4.heap.size (aN 16 (enc F r (nxF x))) = w5 at *
  generalize w4.heap.size = b3 at *
  try clear w4
  have d5 : w5.heap[b3]? = some (.cells (aN 16 (enc F r (nxF x))) 35 (0, 0)) := hN
  have d6 : w5.heap[w.heap.size]? = some (.cells (aN 16 fun _ => 0) 35 (0, 0)) := HD.out
  clear hN HD
  go_wp2_with (first
    | (refine wpList_load_row_g rfl 35 (.tmp 3) rfl b3 rfl 35 (aN 16 (enc F r (nxF x))) (0, 0) (.array 16 5) d5 Try.underlying35 rfl (by rw [aN_size]; exact blk_size) ?_)
    | (refine wpList_store_row rfl 35 (.tmp 2) (.tmp 13) rfl w.heap.size (aN 16 (enc F r (nxF x))) rfl rfl 35 _ d6 (by rw [aN_size]; exact blk_size) (by simp only [aN_size]) (aN_one _ _) ?_))
  refine bodyPost_ret (blk_ret (p := 2) (by kernel_rfl) _ _ w.heap.size _ rfl ?_) rfl ⟨rfl, ⟨LO.out, NE.out, ?_, ?_, ?_⟩, ?_⟩
  · exact setRow_heap _ _ _ _ _ _ d6
  · rw [HX.out.2]; exact H16.rowOther HC.out hgp _
  · exact one_row HP.out (by omega) _
  · exact below_row HW.out _ (by omega) _
  · exact HKP.out.row w.heap.size (.inr (Nat.le_refl _)) _

set_option maxRecDepth 100000 in
set_option maxHeartbeats 4000000 in
theorem stream_any (c : Nat) (s : Nat → Nat) (w : World) :
    Calls Try.prog 27 #[.pointer (some ⟨c, 0, none⟩), .agg (aN 16 s)] w fun e w' => ∃ pc pp, e = .returned (.func (.func 44) #[] #[.pointer (some ⟨pc, 0, none⟩), .pointer (some ⟨pp, 0, none⟩)]) ∧
      St w c s pc pp 0 w' ∧ pc < w'.heap.size ∧ pp < w'.heap.size := by
  have hmf : ∀ (fn : Fn) (first cap : Array Value) (w : World), (Instr.makeFunc fn first cap).run Try.prog w = .ok (.func fn first cap) w := fun _ _ _ _ => rfl
  go_enter Try.func27, Try.ntmps27
  go_wp2_with fail
  go_ret
  obtain ⟨w1, hw1⟩ : ∃ w1, w1 = w.alloc (.cells #[.pointer (some ⟨c, 0, none⟩)] 44) := ⟨_, rfl⟩
  have g1 : w1.heap[w.heap.size]? = some (.cells #[.pointer (some ⟨c, 0, none⟩)] 44 (0, 0)) := by rw [hw1]; exact heap_alloc_new w _
  have z1 : w1.heap.size = w.heap.size + 1 := by rw [hw1, World.size_alloc]
  have b1 : Below w.heap.size w w1 := by rw [hw1]; exact (Below.refl _ _).alloc (Nat.le_refl _) _
  rw [← hw1]
  clear hw1
  obtain ⟨w2, hw2⟩ : ∃ w2, w2 = w1.alloc (.cells (aN 16 s) 35) := ⟨_, rfl⟩
  have g2 : H16 w2 (w.heap.size + 1) s := by rw [hw2]; exact H16.newAt z1.symm
  replace g1 : w2.heap[w.heap.size]? = some (.cells #[.pointer (some ⟨c, 0, none⟩)] 44 (0, 0)) := by rw [hw2]; exact (heap_alloc_old _ _ (by omega)).trans g1
  have z2 : w2.heap.size = w.heap.size + 1 + 1 := by rw [hw2, World.size_alloc, z1]
  have b2 : Below w.heap.size w w2 := by rw [hw2]; exact b1.alloc (by omega) _
  rw [← hw2]
  clear hw2 b1 z1
  exact ⟨_, _, rfl, ⟨⟨by omega, by omega⟩, by omega, g2, g1, b2⟩, by omega, by omega⟩
end Go.Proofs.Ytkfmgjipocmkjaa
namespace Go.Proofs.Ytkfmgjipocmkjaa
open Go Go.RowKit
set_option linter.unusedVariables false
set_option linter.unusedSimpArgs false

/-- Noughts, and 1 at the end. -/
def oneF (i : Nat) : Nat := if i = 15 then 1 else 0
theorem st_splice (l : List Nat) (h : l.length = 12) : splice (vl 16 oneF) 0 (vn l) = vl 16 (stF l) := by
  have hl : (vn l).length = 12 := by rw [vn_len, h]
  apply List.ext_getElem?
  intro i
  unfold splice
  rw [hl]
  simp only [List.take_zero, List.nil_append, Nat.zero_add]
  by_cases h1 : i < 12
  · rw [List.getElem?_append_left (by omega), vl_get 16 _ i (by omega)]
    have hi : i < l.length := by omega
    simp [vn, stF, h1, hi]
  · rw [List.getElem?_append_right (by omega), hl, List.getElem?_drop, show 12 + (i - 12) = i from by omega]
    by_cases h2 : i < 16
    · rw [vl_get 16 _ i h2, vl_get 16 _ i h2]
      simp [stF, oneF, h1]
    · rw [List.getElem?_eq_none (by rw [vl_len]; omega), List.getElem?_eq_none (by rw [vl_len]; omega)]
theorem vn_onec (l : List Nat) : ∀ v ∈ vn l, v.oneCell' = true := by
  intro v hv
  simp only [vn, List.mem_map] at hv
  obtain ⟨b, _, rfl⟩ := hv
  rfl

theorem one16 : (#[.int .u8 0, .int .u8 0, .int .u8 0, .int .u8 0, .int .u8 0, .int .u8 0, .int .u8 0, .int .u8 0, .int .u8 0, .int .u8 0, .int .u8 0, .int .u8 0, .int .u8 0, .int .u8 0, .int .u8 0, .int .u8 1] : Array Value) = aN 16 oneF := rfl

set_option maxRecDepth 100000 in
set_option maxHeartbeats 4000000 in
theorem cfirst_any (A : Option Addr) (l : List Nat) (cap : Nat) (hn : l.length = 12) (hv : ∀ x ∈ l, x < 256) (hc : 12 ≤ cap) (w : World) (h : Rd w w.heap.size A (vn l)) :
    Calls Try.prog 25 #[.slice A 12 cap] w fun e w' => e = .returned (.tuple #[.agg (aN 16 (stF l)), .int .i64 0]) ∧ Below w.heap.size w w' := by
  have hsz : (Try.prog.info? 5).map (·.size) = some 1 := by kernel_rfl
  have HN := Lib.hid hn; clear hn
  have HR := Lib.hid h; clear h
  have HS := Lib.hid (st_splice l HN.out)
  go_enter Try.func25, Try.ntmps25
  go_upto_region 3 with fail
  have D2 := Lib.hid (new_h w)
  have HB1 := Lib.hid ((Below.refl w.heap.size w).alloc (Nat.le_refl _) (.cells #[.int .u8 0, .int .u8 0, .int .u8 0, .int .u8 0, .int .u8 0, .int .u8 0, .int .u8 0, .int .u8 0, .int .u8 0, .int .u8 0, .int .u8 0, .int .u8 0, .int .u8 0, .int .u8 0, .int .u8 0, .int .u8 0] 35))
  obtain ⟨w1, hw1⟩ : ∃ w1, w1 = w.alloc (.cells #[.int .u8 0, .int .u8 0, .int .u8 0, .int .u8 0, .int .u8 0, .int .u8 0, .int .u8 0, .int .u8 0, .int .u8 0, .int .u8 0, .int .u8 0, .int .u8 0, .int .u8 0, .int .u8 0, .int .u8 0, .int .u8 0] 35) := ⟨_, rfl⟩
  rw [← hw1] at D2 HB1
  rw [← hw1]
  clear hw1
  have dS := new_dS w1
  try rw [one16]
  go_upto_region 4 with (refine wpList_store_row rfl 35 (.tmp 4) (.tmp 9) rfl w1.heap.size (aN 16 oneF) rfl rfl 35 _ dS (by rw [aN_size]; exact blk_size) (by simp only [aN_size]) (aN_one _ _) ?_)
  obtain ⟨hN, hbN⟩ := new_row w1 oneF
  have HB := Lib.hid (HB1.out.trans (hbN.mono HB1.out.size))
  have H2 := Lib.hid (H16.call hbN D2.out)
  have hne : w.heap.size ≠ w1.heap.size := by have := D2.out.lt; omega
  have hle : w.heap.size ≤ w1.heap.size := HB1.out.size
  clear hbN dS HB1 D2
  generalize (w1.alloc (.cells #[.int .u8 0, .int .u8 0, .int .u8 0, .int .u8 0, .int .u8 0, .int .u8 0, .int .u8 0, .int .u8 0, .int .u8 0, .int .u8 0, .int .u8 0, .int .u8 0, .int .u8 0, .int .u8 0, .int .u8 0, .int .u8 0] 35)).setRow w1.heap.size (aN 16 oneF) = w2 at *
  generalize w1.heap.size = b4 at *
  try clear w1
  have d1 : w2.heap[b4]? = some (.cells (vl 16 oneF).toArray 35 (0, 0)) := hN
  clear hN
  obtain ⟨ad, rfl, hab, hac⟩ := HR.out (by rw [vn_len, HN.out]; decide)
  have HAC := Lib.hid (show ∀ j v, (vn l)[j]? = some v → w2.cell? (ad.add j) = some v from fun j v hj => (HB.out.cell (by rw [add_block]; exact hab)).trans (hac j v hj))
  clear hac hab HR
  go_upto_region 5 with (first
    | ((with_reducible show wpList _ _ _ _ _ _); refine wpList_copy_set (o := ⟨some 12, _, _, _, _, _⟩) rfl (.tmp 10) (.tmp 11) 22 22 rfl 5 Try.underlying22 hsz b4 0 16 16 ad 12 cap rfl rfl (vl 16 oneF) 35 d1 (vn l) (by rw [vn_len, HN.out]; rfl) (fun j v hv => HAC.out j v hv) (by rw [vn_len, HN.out, vl_len]; decide) (vn_onec _) ?_; intro w4 hw4))
  have d2 : w4.heap[b4]? = some (.cells (aN 16 (stF l)) 35 (0, 0)) := by rw [hw4.out, HS.out]; exact setRow_heap _ _ _ _ _ _ d1
  have d3 : w4.heap[w.heap.size]? = some (.cells (aN 16 fun _ => 0) 35 (0, 0)) := by rw [hw4.out]; exact (setRow_other _ _ _ _ hne).trans H2.out
  have hb4 : Below w.heap.size w w4 := by rw [hw4.out]; exact below_row HB.out _ hle _
  clear hw4 d1 HAC H2 HB
  try clear w2
  go_wp2_with (first
    | (refine wpList_load_row rfl 35 (.tmp 4) rfl b4 rfl 35 (aN 16 (stF l)) (0, 0) (.array 16 5) d2 Try.underlying35 rfl (by rw [aN_size]; exact blk_size) ?_)
    | (refine wpList_store_row rfl 35 (.tmp 2) (.tmp 13) rfl w.heap.size (aN 16 (stF l)) rfl rfl 35 _ d3 (by rw [aN_size]; exact blk_size) (by simp only [aN_size]) (aN_one _ _) ?_))
  refine bodyPost_ret (v := .tuple #[.agg (aN 16 (stF l)), .int .i64 0]) (results_two_row (p := 2) (u := 3) (ty := 35) (by kernel_rfl) _ _ w.heap.size 35 (aN 16 (stF l)) (0, 0) 16 5 (.int .i64 0) rfl rfl ?_ Try.underlying35 (by rw [aN_size]; kernel_rfl)) rfl ⟨rfl, ?_⟩
  · exact setRow_heap _ _ _ _ _ _ d3
  · exact below_row hb4 _ (Nat.le_refl _) _

set_option maxRecDepth 100000 in
set_option maxHeartbeats 4000000 in
theorem cfirst_no (A : Option Addr) (n cap : Nat) (hn : n ≠ 12) (hl : n ≤ 140737488351360) (w : World) :
    Calls Try.prog 25 #[.slice A n cap] w fun e w' => e = .returned (.tuple #[.agg (aN 16 fun _ => 0), .int .i64 2]) ∧ Below w.heap.size w w' := by
  have hi12 : (n : Int) ≠ 12 := by omega
  have D2 := new_dS w
  have HB1 := Lib.hid ((Below.refl w.heap.size w).alloc (Nat.le_refl _) (.cells #[.int .u8 0, .int .u8 0, .int .u8 0, .int .u8 0, .int .u8 0, .int .u8 0, .int .u8 0, .int .u8 0, .int .u8 0, .int .u8 0, .int .u8 0, .int .u8 0, .int .u8 0, .int .u8 0, .int .u8 0, .int .u8 0] 35))
  go_enter Try.func25, Try.ntmps25
  go_upto_region 2 with fail
  rw [zero16] at *
  generalize w.alloc (.cells (aN 16 fun _ => 0) 35) = w1 at *
  go_wp2_with (first
    | (refine wpList_store_row rfl 35 (.tmp 2) (.tmp 8) rfl w.heap.size (aN 16 fun _ => 0) rfl rfl 35 _ D2 (by rw [aN_size]; exact blk_size) (by simp only [aN_size]) (aN_one _ _) ?_))
  refine bodyPost_ret (v := .tuple #[.agg (aN 16 fun _ => 0), .int .i64 2]) (results_two_row (p := 2) (u := 3) (ty := 35) (by kernel_rfl) _ _ w.heap.size 35 (aN 16 fun _ => 0) (0, 0) 16 5 (.int .i64 2) rfl rfl ?_ Try.underlying35 (by rw [aN_size]; kernel_rfl)) rfl ⟨rfl, ?_⟩
  · exact setRow_heap _ _ _ _ _ _ D2
  · exact below_row HB1.out _ (Nat.le_refl _) _

end Go.Proofs.Ytkfmgjipocmkjaa
