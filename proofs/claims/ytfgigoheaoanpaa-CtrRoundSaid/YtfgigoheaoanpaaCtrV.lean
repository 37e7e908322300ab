/-
  The code's First by a copy.
-/
import Derived.Test.YtfgigoheaoanpaaCtrU
import Derived.Test.YtfgigoheaoanpaaMay
import Derived.Test.YtfgigoheaoanpaaAesL
namespace Go.Proofs.Ytfgigoheaoanpaa
open Go Go.RowKit
set_option linter.unusedVariables false
set_option linter.unusedSimpArgs false

/-- Noughts, and 1 at the end. -/
def oneF (i : Nat) : Nat := if i = 15 then 1 else 0
theorem st_splice (l : List Nat) (h : l.length = 12) : splice (vl 16 oneF) 0 (vn l) = vl 16 (stF l) := by
  have hl : (vn l).length = 12 := by rw [vn_len, h]
  apply List.ext_getElem?
  intro i
  unfold splice
  rw [hl]
  simp only [List.take_zero, List.nil_append, Nat.zero_add]
  by_cases h1 : i < 12
  · rw [List.getElem?_append_left (by omega), vl_get 16 _ i (by omega)]
    have hi : i < l.length := by omega
    simp [vn, stF, h1, hi]
  · rw [List.getElem?_append_right (by omega), hl, List.getElem?_drop, show 12 + (i - 12) = i from by omega]
    by_cases h2 : i < 16
    · rw [vl_get 16 _ i h2, vl_get 16 _ i h2]
      simp [stF, oneF, h1]
    · rw [List.getElem?_eq_none (by rw [vl_len]; omega), List.getElem?_eq_none (by rw [vl_len]; omega)]
theorem vn_onec (l : List Nat) : ∀ v ∈ vn l, v.oneCell' = true := by
  intro v hv
  simp only [vn, List.mem_map] at hv
  obtain ⟨b, _, rfl⟩ := hv
  rfl

theorem one16 : (#[.int .u8 0, .int .u8 0, .int .u8 0, .int .u8 0, .int .u8 0, .int .u8 0, .int .u8 0, .int .u8 0, .int .u8 0, .int .u8 0, .int .u8 0, .int .u8 0, .int .u8 0, .int .u8 0, .int .u8 0, .int .u8 1] : Array Value) = aN 16 oneF := rfl

set_option maxRecDepth 100000 in
set_option maxHeartbeats 4000000 in
theorem cfirst_any (A : Option Addr) (l : List Nat) (cap : Nat) (hn : l.length = 12) (hv : ∀ x ∈ l, x < 256) (hc : 12 ≤ cap) (w : World) (h : Rd w w.heap.size A (vn l)) :
    Calls Try.prog 7 #[.slice A 12 cap] w fun e w' => e = .returned (.tuple #[.agg (aN 16 (stF l)), .int .i64 0]) ∧ Below w.heap.size w w' := by
  have hsz : (Try.prog.info? 5).map (·.size) = some 1 := by kernel_rfl
  have HN := Lib.hid hn; clear hn
  have HR := Lib.hid h; clear h
  have HS := Lib.hid (st_splice l HN.out)
  go_enter Try.func7, Try.ntmps7
  go_upto_region 3 with fail
  have D2 := Lib.hid (new_h w)
  have HB1 := Lib.hid ((Below.refl w.heap.size w).alloc (Nat.le_refl _) (.cells #[.int .u8 0, .int .u8 0, .int .u8 0, .int .u8 0, .int .u8 0, .int .u8 0, .int .u8 0, .int .u8 0, .int .u8 0, .int .u8 0, .int .u8 0, .int .u8 0, .int .u8 0, .int .u8 0, .int .u8 0, .int .u8 0] 23))
  obtain ⟨w1, hw1⟩ : ∃ w1, w1 = w.alloc (.cells #[.int .u8 0, .int .u8 0, .int .u8 0, .int .u8 0, .int .u8 0, .int .u8 0, .int .u8 0, .int .u8 0, .int .u8 0, .int .u8 0, .int .u8 0, .int .u8 0, .int .u8 0, .int .u8 0, .int .u8 0, .int .u8 0] 23) := ⟨_, rfl⟩
  rw [← hw1] at D2 HB1
  rw [← hw1]
  clear hw1
  have dS := new_dS w1
  try rw [one16]
  go_upto_region 4 with (refine wpList_store_row rfl 23 (.tmp 4) (.tmp 9) rfl w1.heap.size (aN 16 oneF) rfl rfl 23 _ dS (by rw [aN_size]; exact blk_size) (by simp only [aN_size]) (aN_one _ _) ?_)
  obtain ⟨hN, hbN⟩ := new_row w1 oneF
  have HB := Lib.hid (HB1.out.trans (hbN.mono HB1.out.size))
  have H2 := Lib.hid (H16.call hbN D2.out)
  have hne : w.heap.size ≠ w1.heap.size := by have := D2.out.lt; omega
  have hle : w.heap.size ≤ w1.heap.size := HB1.out.size
  clear hbN dS HB1 D2
  generalize (w1.alloc (.cells #[.int .u8 0, .int .u8 0, .int .u8 0, .int .u8 0, .int .u8 0, .int .u8 0, .int .u8 0, .int .u8 0, .int .u8 0, .int .u8 0, .int .u8 0, .int .u8 0, .int .u8 0, .int .u8 0, .int .u8 0, .int .u8 0] 23)).setRow w1.heap.size (aN 16 oneF) = w2 at *
  generalize w1.heap.size = b4 at *
  try clear w1
  have d1 : w2.heap[b4]? = some (.cells (vl 16 oneF).toArray 23 (0, 0)) := hN
  clear hN
  obtain ⟨ad, rfl, hab, hac⟩ := HR.out (by rw [vn_len, HN.out]; decide)
  have HAC := Lib.hid (show ∀ j v, (vn l)[j]? = some v → w2.cell? (ad.add j) = some v from fun j v hj => (HB.out.cell (by rw [add_block]; exact hab)).trans (hac j v hj))
  clear hac hab HR
  go_upto_region 5 with (first
    | ((with_reducible show wpList _ _ _ _ _ _); refine wpList_copy_set (o := ⟨some 12, _, _, _, _, _⟩) rfl (.tmp 10) (.tmp 11) 22 22 rfl 5 Try.underlying22 hsz b4 0 16 16 ad 12 cap rfl rfl (vl 16 oneF) 23 d1 (vn l) (by rw [vn_len, HN.out]; rfl) (fun j v hv => HAC.out j v hv) (by rw [vn_len, HN.out, vl_len]; decide) (vn_onec _) ?_; intro w4 hw4))
  have d2 : w4.heap[b4]? = some (.cells (aN 16 (stF l)) 23 (0, 0)) := by rw [hw4.out, HS.out]; exact setRow_heap _ _ _ _ _ _ d1
  have d3 : w4.heap[w.heap.size]? = some (.cells (aN 16 fun _ => 0) 23 (0, 0)) := by rw [hw4.out]; exact (setRow_other _ _ _ _ hne).trans H2.out
  have hb4 : Below w.heap.size w w4 := by rw [hw4.out]; exact below_row HB.out _ hle _
  clear hw4 d1 HAC H2 HB
  try clear w2
  go_wp2_with (first
    | (refine wpList_load_row rfl 23 (.tmp 4) rfl b4 rfl 23 (aN 16 (stF l)) (0, 0) (.array 16 5) d2 Try.underlying23 rfl (by rw [aN_size]; exact blk_size) ?_)
    | (refine wpList_store_row rfl 23 (.tmp 2) (.tmp 13) rfl w.heap.size (aN 16 (stF l)) rfl rfl 23 _ d3 (by rw [aN_size]; exact blk_size) (by simp only [aN_size]) (aN_one _ _) ?_))
  refine bodyPost_ret (v := .tuple #[.agg (aN 16 (stF l)), .int .i64 0]) (results_two_row (p := 2) (u := 3) (ty := 23) (by kernel_rfl) _ _ w.heap.size 23 (aN 16 (stF l)) (0, 0) 16 5 (.int .i64 0) rfl rfl ?_ Try.underlying23 (by rw [aN_size]; kernel_rfl)) rfl ⟨rfl, ?_⟩
  · exact setRow_heap _ _ _ _ _ _ d3
  · exact below_row hb4 _ (Nat.le_refl _) _

set_option maxRecDepth 100000 in
set_option maxHeartbeats 4000000 in
theorem cfirst_no (A : Option Addr) (n cap : Nat) (hn : n ≠ 12) (hl : n ≤ 140737488351360) (w : World) :
    Calls Try.prog 7 #[.slice A n cap] w fun e w' => e = .returned (.tuple #[.agg (aN 16 fun _ => 0), .int .i64 2]) ∧ Below w.heap.size w w' := by
  have hi12 : (n : Int) ≠ 12 := by omega
  have D2 := new_dS w
  have HB1 := Lib.hid ((Below.refl w.heap.size w).alloc (Nat.le_refl _) (.cells #[.int .u8 0, .int .u8 0, .int .u8 0, .int .u8 0, .int .u8 0, .int .u8 0, .int .u8 0, .int .u8 0, .int .u8 0, .int .u8 0, .int .u8 0, .int .u8 0, .int .u8 0, .int .u8 0, .int .u8 0, .int .u8 0] 23))
  go_enter Try.func7, Try.ntmps7
  go_upto_region 2 with fail
  rw [zero16] at *
  generalize w.alloc (.cells (aN 16 fun _ => 0) 23) = w1 at *
  go_wp2_with (first
    | (refine wpList_store_row rfl 23 (.tmp 2) (.tmp 8) rfl w.heap.size (aN 16 fun _ => 0) rfl rfl 23 _ D2 (by rw [aN_size]; exact blk_size) (by simp only [aN_size]) (aN_one _ _) ?_))
  refine bodyPost_ret (v := .tuple #[.agg (aN 16 fun _ => 0), .int .i64 2]) (results_two_row (p := 2) (u := 3) (ty := 23) (by kernel_rfl) _ _ w.heap.size 23 (aN 16 fun _ => 0) (0, 0) 16 5 (.int .i64 2) rfl rfl ?_ Try.underlying23 (by rw [aN_size]; kernel_rfl)) rfl ⟨rfl, ?_⟩
  · exact setRow_heap _ _ _ _ _ _ D2
  · exact below_row HB1.out _ (Nat.le_refl _) _

end Go.Proofs.Ytfgigoheaoanpaa
