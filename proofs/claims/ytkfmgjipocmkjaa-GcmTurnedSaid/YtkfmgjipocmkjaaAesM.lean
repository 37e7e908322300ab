/-
  The document's block enciphered and deciphered. (Printed by wip/gen/aesref.py.)
-/
import Derived.Test.YtkfmgjipocmkjaaAesH
import Derived.Test.YtkfmgjipocmkjaaAesD
import Derived.Test.YtkfmgjipocmkjaaAesC
namespace Go.Proofs.Ytkfmgjipocmkjaa
open Go Go.RowKit
set_option linter.unusedVariables false
set_option linter.unusedSimpArgs false

def up4 (p : Nat) : Nat := p % 4
theorem up4_up (f : Nat → Nat) : E16 (sMov up4 f) (sMov up f) := fun i hi => by unfold sMov up4 up; congr 1; omega
/-- The first n bytes mixed. -/
def mixU (m f : Nat → Nat) (n i : Nat) : Nat := if i < n then sMix m f i else f i
theorem mixU_end (m f : Nat → Nat) : E16 (mixU m f 16) (sMix m f) := fun i hi => by unfold mixU; rw [if_pos (by omega)]
theorem mixU_far (m f : Nat → Nat) (n i : Nat) (h : i ≠ n) : mixU m f (n + 1) i = mixU m f n i := by
  unfold mixU
  by_cases e : i < n
  · rw [if_pos e, if_pos (by omega)]
  · rw [if_neg e, if_neg (by omega)]
theorem mixU_col (m f : Nat → Nat) (q p : Nat) (hp : p < 4) : mixd m (fun j => mixU m f (4 * q) (4 * q + j)) p = sMix m f (4 * q + p) := by
  unfold sMix
  rw [show (4 * q + p) / 4 = q from by omega, show (4 * q + p) % 4 = p from by omega]
  exact mixd_eq _ _ _ (fun j hj => by unfold mixU; rw [if_neg (by omega)]) p
theorem mixU_lt (m f : Nat → Nat) (n : Nat) (h : B16 f) (i : Nat) (hi : i < 16) : mixU m f n i < 256 := by
  unfold mixU
  split
  · exact sMix_lt _ h i hi
  · exact h i hi

set_option maxRecDepth 100000 in
set_option maxHeartbeats 8000000 in
theorem renc16_any (A : Option Addr) (l : List Nat) (cap : Nat) (b : Nat → Nat) (hn : l.length = 16) (hl : ∀ x ∈ l, x < 256) (hb : B16 b) (w : World) (h : Rd w w.heap.size A (vn l)) :
    Calls Try.prog 33 #[.slice A 16 cap, .agg (aN 16 b)] w fun e w' => e = .returned (.agg (aN 16 (enc (kF l) 10 b))) ∧ Below w.heap.size w w' := by
  have h3 : H16 ((w.alloc (.cells (aN 16 b) 35)).alloc (.cells (aN 16 fun _ => 0) 35)) w.heap.size b := (H16.newAt rfl).alloc _
  have h4 : H16 ((w.alloc (.cells (aN 16 b) 35)).alloc (.cells (aN 16 fun _ => 0) 35)) (w.heap.size + 1) fun _ => 0 := H16.newAt (w := w.alloc (.cells (aN 16 b) 35)) (by rw [World.size_alloc])
  have hB : Below w.heap.size w ((w.alloc (.cells (aN 16 b) 35)).alloc (.cells (aN 16 fun _ => 0) 35)) := ((Below.refl _ _).alloc (Nat.le_refl _) _).alloc (by simp) _
  have hW := rwords16_any A l cap hn hl _ (h.go hB)
  have H3 := Lib.hid h3; clear h3
  have H4 := Lib.hid h4; clear h4
  have HB0 := Lib.hid hB; clear hB
  have HWD := Lib.hid hW; clear hW
  have HBB := Lib.hid hb; clear hb
  have HL := Lib.hid hl; clear hl
  have HBK : Hid (BK (kF l) 10) := Lib.hid (kF_bk l HL.out 10)
  clear hn h
  go_enter Try.func33, Try.ntmps33
  go_wp2_with fail
  rw [zero16]
  generalize (w.alloc (.cells (aN 16 b) 35)).alloc (.cells (aN 16 fun _ => 0) 35) = w0 at *
  refine HWD.out.mono ?_
  rintro e w1 ⟨v, rfl, hown, hb1⟩
  obtain ⟨A5, c5, rfl, hlen, hrd⟩ := Rd.of_own hown
  have HLEN : Hid ((kAll l).length = 176) := Lib.hid (by rw [vn_len] at hlen; exact hlen)
  have HRD := Lib.hid hrd; clear hrd
  have h3 : H16 w1 w.heap.size b := H3.out.call hb1
  have h4 : H16 w1 (w.heap.size + 1) fun _ => 0 := H4.out.call hb1
  have hB1 : Below w.heap.size w w1 := HB0.out.trans (hb1.mono HB0.out.size)
  clear H3 H4 HB0 HWD hown hlen hb1
  have H3 := Lib.hid h3; clear h3
  have H4 := Lib.hid h4; clear h4
  have HB1 := Lib.hid hB1; clear hB1
  have d3 : w1.heap[w.heap.size]? = some (.cells (aN 16 b) 35 (0, 0)) := H3.out
  go_wp2_with (refine wpList_load_row rfl 35 (.tmp 3) rfl w.heap.size rfl 35 (aN 16 b) (0, 0) (.array 16 5) d3 Try.underlying35 rfl (by rw [aN_size]; kernel_rfl) ?_)
  have hadd := radd_any b A5 (kAll l) 176 c5 0 w1 HBB.out (kX_lt _ l HL.out _) HLEN.out (by omega) (by omega) HRD.out
  rw [show ((0 : Nat) : Int) = 0 from rfl] at hadd
  refine hadd.mono ?_
  rintro e w2 ⟨rfl, hb2⟩
  clear hadd d3
  have d7 : (w2.alloc (.cells #[.int .u8 0, .int .u8 0, .int .u8 0, .int .u8 0, .int .u8 0, .int .u8 0, .int .u8 0, .int .u8 0, .int .u8 0, .int .u8 0, .int .u8 0, .int .u8 0, .int .u8 0, .int .u8 0, .int .u8 0, .int .u8 0] 35)).heap[w2.heap.size]? = some (.cells (aN 16 fun _ => 0) 35 (0, 0)) := H16.newAt (f := fun _ => 0) rfl
  have hb9 : Below w1.heap.size w1 (w2.alloc (.cells #[.int .u8 0, .int .u8 0, .int .u8 0, .int .u8 0, .int .u8 0, .int .u8 0, .int .u8 0, .int .u8 0, .int .u8 0, .int .u8 0, .int .u8 0, .int .u8 0, .int .u8 0, .int .u8 0, .int .u8 0, .int .u8 0] 35)) := hb2.alloc hb2.size _
  have hb7 : w1.heap.size ≤ w2.heap.size := hb2.size
  have HB7 := Lib.hid hb7; clear hb7 hb2
  go_wp2_with (refine wpList_store_row rfl 35 (.tmp 7) (.tmp 21) rfl w2.heap.size (aN 16 (sAdd b (rk (kF l) 0))) rfl rfl 35 _ d7 (by rw [aN_size]; kernel_rfl) (by rw [aN_size, aN_size]) (aN_one _ _) ?_)
  have h7 : H16 ((w2.alloc (.cells #[.int .u8 0, .int .u8 0, .int .u8 0, .int .u8 0, .int .u8 0, .int .u8 0, .int .u8 0, .int .u8 0, .int .u8 0, .int .u8 0, .int .u8 0, .int .u8 0, .int .u8 0, .int .u8 0, .int .u8 0, .int .u8 0] 35)).setRow w2.heap.size (aN 16 (sAdd b (rk (kF l) 0)))) w2.heap.size (eN (kF l) 10 b 0) := setRow_heap _ _ _ _ _ _ d7
  have hBB := below_setRow hb9 _ HB7.out (aN 16 (sAdd b (rk (kF l) 0)))
  clear d7 hb9
  have H7 := Lib.hid h7; clear h7
  have HB := Lib.hid hBB; clear hBB
  generalize (w2.alloc (.cells #[.int .u8 0, .int .u8 0, .int .u8 0, .int .u8 0, .int .u8 0, .int .u8 0, .int .u8 0, .int .u8 0, .int .u8 0, .int .u8 0, .int .u8 0, .int .u8 0, .int .u8 0, .int .u8 0, .int .u8 0, .int .u8 0] 35)).setRow w2.heap.size (aN 16 (sAdd b (rk (kF l) 0))) = w3 at *
  generalize w2.heap.size = b7 at *
  go_loopw [8] (fun i wr => ∃ j : Nat, 1 ≤ j ∧ j ≤ 10 + 1 ∧ i = .int .i64 j ∧ Hid (H16 wr b7 (eN (kF l) 10 b (j - 1))) ∧ Hid (Below w1.heap.size w1 wr)) (fun i _ => 10 + 1 - (intOf i).toNat)
  case atStart => exact ⟨1, by omega, by omega, rfl, H7, HB⟩
  case round =>
    clear H7 HB H3
    obtain ⟨j, hj1, hj2, rfl, H7, HB⟩ := hrel
    by_cases hle : j ≤ 10
    · obtain ⟨f, hf⟩ : ∃ f, f = eN (kF l) 10 b (j - 1) := ⟨_, rfl⟩
      have hf8 : B16 f := by rw [hf]; exact eN_lt _ 10 b HBB.out HBK.out _ (by omega)
      rw [← hf] at H7
      have HF := Lib.hid hf; clear hf
      have HF8 := Lib.hid hf8; clear hf8
      have HFX0 : B16 (sMov up4 (sMap gs f)) := sMov_lt _ (sMap_lt _ gs_lt HF8.out)
      have HFY := Lib.hid HFX0; clear HFX0
      have hle' : (j : Int) ≤ 10 := by omega
      by_cases hlt : j < 10
      · have hlt' : (j : Int) < 10 := by omega
        go_wp2_with fail
        obtain ⟨wo, rfl⟩ : ∃ wo : World, wo = wr := ⟨_, rfl⟩
        go_loopw [9] (fun i wq => ∃ k : Nat, k ≤ 16 ∧ i = .int .i64 k ∧ Hid (H16 wq b7 (mapK gs (f) k)) ∧ Hid (Below w1.heap.size w1 wq)) (fun i _ => 16 - (intOf i).toNat)
        case atStart => exact ⟨0, by omega, rfl, Lib.hid (H7.out.congr fun i _ => by simp [mapK]), HB⟩
        case round =>
          clear H7 HB
          obtain ⟨k, hk, rfl, H7, HB⟩ := hrel
          by_cases hlk : k < 16
          · have hk16 : (k : Int) < 16 := by omega
            have c0 := H7.out.cell k hlk
            have f0 := H7.out.free k
            have e0 : mapK gs (f) k k = (f) k := by simp [mapK]
            rw [e0] at c0
            clear e0
            have la : (f) k < 256 := HF8.out k hlk
            have hx : ((gs ((f) k) : Nat) : Int) = ((mapK gs (f) (k + 1) k : Nat) : Int) := by simp [mapK]
            have HX := Lib.hid hx; clear hx
            go_wp2_with fail
            refine (rsub_any ((f) k) _ la).mono ?_
            rintro e wz ⟨rfl, rfl⟩
            rw [HX.out]
            go_wp2_with fail
            go_roundw
            case rel =>
              refine ⟨k + 1, by omega, by go_num, Lib.hid ?_, Lib.hid (HB.out.setCell HB7.out _)⟩
              exact H7.out.set k _ hlk rfl fun i hi hik => mapK_far _ _ _ _ hik
            case measure => simp [intOf]; omega
          · obtain rfl : k = 16 := by omega
            have H7' : Hid (H16 wr b7 (sMap gs (f))) := Lib.hid (H7.out.congr (mapK_end _ _))
            clear H7
            have H7 := H7'; clear H7'
            have d7 : wr.heap[b7]? = some (.cells (aN 16 (sMap gs f)) 35 (0, 0)) := H7.out
            go_wp2_with (refine wpList_load_row rfl 35 (.tmp 7) rfl b7 rfl 35 (aN 16 (sMap gs f)) (0, 0) (.array 16 5) d7 Try.underlying35 rfl (by rw [aN_size]; kernel_rfl) ?_)
            refine (rmoved_any (sMap gs f) up4 _ (fun p => by unfold up4; omega)).mono ?_
            rintro e w5 ⟨rfl, hb5⟩
            have hb9 : Below w1.heap.size w1 w5 := HB.out.trans (hb5.mono HB.out.size)
            have d7' : w5.heap[b7]? = some (.cells (aN 16 (sMap gs f)) 35 (0, 0)) := (H7.out.call hb5)
            clear d7 H7 HB hb5
            have d7 := d7'; clear d7'
            go_wp2_with (refine wpList_store_row rfl 35 (.tmp 7) (.tmp 39) rfl (b7) (aN 16 (sMov up4 (sMap gs f))) rfl rfl 35 _ d7 (by rw [aN_size]; kernel_rfl) (by rw [aN_size, aN_size]) (aN_one _ _) ?_)
            have h7q : H16 (w5.setRow b7 (aN 16 (sMov up4 (sMap gs f)))) b7 (sMov up4 (sMap gs f)) := setRow_heap _ _ _ _ _ _ d7
            have hBq : Below w1.heap.size w1 (w5.setRow b7 (aN 16 (sMov up4 (sMap gs f)))) := below_setRow hb9 _ HB7.out _
            clear d7 hb9
            have H7 := Lib.hid h7q; clear h7q
            have HB := Lib.hid hBq; clear hBq
            generalize w5.setRow b7 (aN 16 (sMov up4 (sMap gs f))) = wr at *
            obtain ⟨wo, rfl⟩ : ∃ wo : World, wo = wr := ⟨_, rfl⟩
            go_loopw [10] (fun i wq => ∃ q : Nat, q ≤ 4 ∧ i = .int .i64 q ∧ Hid (H16 wq b7 (mixU mixR (sMov up4 (sMap gs f)) (4 * q))) ∧ Hid (Below w1.heap.size w1 wq)) (fun i _ => 4 - (intOf i).toNat)
            case atStart => exact ⟨0, by omega, rfl, Lib.hid (H7.out.congr fun i _ => by simp [mixU]), HB⟩
            case round =>
              clear H7 HB
              clear wo
              obtain ⟨q, hq, rfl, H7, HB⟩ := hrel
              by_cases hlq : q < 4
              · have hq4 : (q : Int) < 4 := by omega
                have d7 : wr.heap[b7]? = some (.cells (aN 16 (mixU mixR (sMov up4 (sMap gs f)) (4 * q))) 35 (0, 0)) := H7.out
                go_wp2_with (refine wpList_load_row rfl 35 (.tmp 7) rfl b7 rfl 35 (aN 16 (mixU mixR (sMov up4 (sMap gs f)) (4 * q))) (0, 0) (.array 16 5) d7 Try.underlying35 rfl (by rw [aN_size]; kernel_rfl) ?_)
                refine (rcolumn_any (mixU mixR (sMov up4 (sMap gs f)) (4 * q)) q _ hlq).mono ?_
                rintro e w5 ⟨rfl, hb5⟩
                have hb9 : Below w1.heap.size w1 w5 := HB.out.trans (hb5.mono HB.out.size)
                have h7 : H16 w5 b7 (mixU mixR (sMov up4 (sMap gs f)) (4 * q)) := H7.out.call hb5
                clear d7 H7 HB hb5
                have H7 := Lib.hid h7; clear h7
                have HB := Lib.hid hb9; clear hb9
                go_wp2_with fail
                refine (rmix_any (fun j => mixU mixR (sMov up4 (sMap gs f)) (4 * q) (4 * q + j)) _ (fun j hj => mixU_lt _ _ _ HFY.out _ (by omega))).mono ?_
                rintro e w6 ⟨rfl, hb5⟩
                have hb9 : Below w1.heap.size w1 w6 := HB.out.trans (hb5.mono HB.out.size)
                have h7 : H16 w6 b7 (mixU mixR (sMov up4 (sMap gs f)) (4 * q)) := H7.out.call hb5
                clear H7 HB hb5
                rw [arr4_congr _ (fun p => sMix mixR (sMov up4 (sMap gs f)) (4 * q + p)) (fun p hp => mixU_col mixR (sMov up4 (sMap gs f)) q p hp)]
                have hcn : Has (w6.alloc (.cells (arr4 fun p => sMix mixR (sMov up4 (sMap gs f)) (4 * q + p)) 65)) w6.heap.size fun p => sMix mixR (sMov up4 (sMap gs f)) (4 * q + p) := Has.new
                have h7n : H16 (w6.alloc (.cells (arr4 fun p => sMix mixR (sMov up4 (sMap gs f)) (4 * q + p)) 65)) b7 (mixU mixR (sMov up4 (sMap gs f)) (4 * q)) := h7.alloc _
                have hBn : Below w1.heap.size w1 (w6.alloc (.cells (arr4 fun p => sMix mixR (sMov up4 (sMap gs f)) (4 * q + p)) 65)) := hb9.alloc hb9.size _
                have hne : b7 ≠ w6.heap.size := Nat.ne_of_lt h7.lt
                clear h7 hb9
                have HN := Lib.hid hcn; clear hcn
                have H7 := Lib.hid h7n; clear h7n
                have HB := Lib.hid hBn; clear hBn
                have HNE := Lib.hid hne; clear hne
                go_wp2_with fail
                generalize w6.alloc (.cells (arr4 fun p => sMix mixR (sMov up4 (sMap gs f)) (4 * q + p)) 65) = w7 at *
                generalize w6.heap.size = b11 at *
                obtain ⟨wi, rfl⟩ : ∃ wi : World, wi = wr := ⟨_, rfl⟩
                go_loopw [12] (fun i wq => ∃ p : Nat, p ≤ 4 ∧ i = .int .i64 p ∧ Hid (Has wq b11 fun p => sMix mixR (sMov up4 (sMap gs f)) (4 * q + p)) ∧ Hid (H16 wq b7 (mixU mixR (sMov up4 (sMap gs f)) (4 * q + p))) ∧ Hid (Below w1.heap.size w1 wq)) (fun i _ => 4 - (intOf i).toNat)
                case atStart => exact ⟨0, by omega, rfl, HN, H7, HB⟩
                case round =>
                  clear H7 HB HN
                  obtain ⟨p, hp, rfl, HN, H7, HB⟩ := hrel
                  by_cases hlp : p < 4
                  · have hp4 : (p : Int) < 4 := by omega
                    have hd16 : 4 * q + p < 16 := by omega
                    have c0 := HN.out.cell p hlp
                    have c3 := H7.out.cell _ hd16
                    have f3 := H7.out.free (4 * q + p)
                    have hv : mixU mixR (sMov up4 (sMap gs f)) (4 * q + p + 1) (4 * q + p) = sMix mixR (sMov up4 (sMap gs f)) (4 * q + p) := by unfold mixU; rw [if_pos (by omega)]
                    have HV := Lib.hid hv; clear hv
                    go_wp2_with fail
                    go_roundw
                    case rel =>
                      refine ⟨p + 1, by omega, by go_num, Lib.hid (HN.out.otherCell _ (by show b11 ≠ b7; exact fun e => HNE.out e.symm) _), Lib.hid ?_, Lib.hid (HB.out.setCell HB7.out _)⟩
                      exact H7.out.set _ _ hd16 HV.out fun i hi hik => mixU_far _ _ _ _ hik
                    case measure => simp [intOf]; omega
                  · obtain rfl : p = 4 := by omega
                    go_wp2_with fail
                    go_roundw
                    case rel => exact ⟨q + 1, by omega, by go_num, H7, HB⟩
                    case measure => simp [intOf]; omega
              · obtain rfl : q = 4 := by omega
                have H7' : Hid (H16 wr b7 (sMix mixR (sMov up4 (sMap gs f)))) := Lib.hid (H7.out.congr (mixU_end _ _))
                clear H7
                have H7 := H7'; clear H7'
                have d7 : wr.heap[b7]? = some (.cells (aN 16 (sMix mixR (sMov up4 (sMap gs f)))) 35 (0, 0)) := H7.out
                go_wp2_with (refine wpList_load_row rfl 35 (.tmp 7) rfl b7 rfl 35 (aN 16 (sMix mixR (sMov up4 (sMap gs f)))) (0, 0) (.array 16 5) d7 Try.underlying35 rfl (by rw [aN_size]; kernel_rfl) ?_)
                refine (radd_any (sMix mixR (sMov up4 (sMap gs f))) A5 (kAll l) 176 c5 j _ (sMix_lt _ HFY.out) (kX_lt _ l HL.out _) HLEN.out (by omega) (by omega) ((HRD.out.below HB.out).more HB.out.size)).mono ?_
                rintro e w5 ⟨rfl, hb5⟩
                have hb9 : Below w1.heap.size w1 w5 := HB.out.trans (hb5.mono HB.out.size)
                have d7' : w5.heap[b7]? = some (.cells (aN 16 (sMix mixR (sMov up4 (sMap gs f)))) 35 (0, 0)) := (H7.out.call hb5)
                clear d7 H7 HB hb5
                have d7 := d7'; clear d7'
                go_wp2_with (refine wpList_store_row rfl 35 (.tmp 7) (.tmp 66) rfl (b7) (aN 16 (sAdd (sMix mixR (sMov up4 (sMap gs f))) (rk (kF l) j))) rfl rfl 35 _ d7 (by rw [aN_size]; kernel_rfl) (by rw [aN_size, aN_size]) (aN_one _ _) ?_)
                have h7q : H16 (w5.setRow b7 (aN 16 (sAdd (sMix mixR (sMov up4 (sMap gs f))) (rk (kF l) j)))) b7 (sAdd (sMix mixR (sMov up4 (sMap gs f))) (rk (kF l) j)) := setRow_heap _ _ _ _ _ _ d7
                have hBq : Below w1.heap.size w1 (w5.setRow b7 (aN 16 (sAdd (sMix mixR (sMov up4 (sMap gs f))) (rk (kF l) j)))) := below_setRow hb9 _ HB7.out _
                clear d7 hb9
                have H7 := Lib.hid h7q; clear h7q
                have HB := Lib.hid hBq; clear hBq
                generalize w5.setRow b7 (aN 16 (sAdd (sMix mixR (sMov up4 (sMap gs f))) (rk (kF l) j))) = wr at *
                have H7' : Hid (H16 wr b7 (eN (kF l) 10 b (j + 1 - 1))) := Lib.hid (H7.out.congr (fun i hi => by have hj := HF.out; obtain ⟨m, rfl⟩ : ∃ m, j = m + 1 := ⟨j - 1, by omega⟩; rw [show m + 1 - 1 = m from rfl] at hj; show _ = eRnd (kF l) 10 (m + 1) (eN (kF l) 10 b m) i; unfold eRnd; rw [if_pos hlt, ← hj]; exact sAdd_eq _ (sMix_eq _ (up4_up _)) i hi))
                clear H7
                go_wp2_with fail
                go_roundw
                case rel => exact ⟨j + 1, by omega, by omega, by go_num, H7', HB⟩
                case measure => simp [intOf]; omega
      · have hdec : decide ((j : Int) < 10) = false := decide_eq_false (by omega)
        have hlt' : ¬ (j : Int) < 10 := by omega
        go_wp2_with fail
        obtain ⟨wo, rfl⟩ : ∃ wo : World, wo = wr := ⟨_, rfl⟩
        go_loopw [9] (fun i wq => ∃ k : Nat, k ≤ 16 ∧ i = .int .i64 k ∧ Hid (H16 wq b7 (mapK gs (f) k)) ∧ Hid (Below w1.heap.size w1 wq)) (fun i _ => 16 - (intOf i).toNat)
        case atStart => exact ⟨0, by omega, rfl, Lib.hid (H7.out.congr fun i _ => by simp [mapK]), HB⟩
        case round =>
          clear H7 HB
          obtain ⟨k, hk, rfl, H7, HB⟩ := hrel
          by_cases hlk : k < 16
          · have hk16 : (k : Int) < 16 := by omega
            have c0 := H7.out.cell k hlk
            have f0 := H7.out.free k
            have e0 : mapK gs (f) k k = (f) k := by simp [mapK]
            rw [e0] at c0
            clear e0
            have la : (f) k < 256 := HF8.out k hlk
            have hx : ((gs ((f) k) : Nat) : Int) = ((mapK gs (f) (k + 1) k : Nat) : Int) := by simp [mapK]
            have HX := Lib.hid hx; clear hx
            go_wp2_with fail
            refine (rsub_any ((f) k) _ la).mono ?_
            rintro e wz ⟨rfl, rfl⟩
            rw [HX.out]
            go_wp2_with fail
            go_roundw
            case rel =>
              refine ⟨k + 1, by omega, by go_num, Lib.hid ?_, Lib.hid (HB.out.setCell HB7.out _)⟩
              exact H7.out.set k _ hlk rfl fun i hi hik => mapK_far _ _ _ _ hik
            case measure => simp [intOf]; omega
          · obtain rfl : k = 16 := by omega
            have H7' : Hid (H16 wr b7 (sMap gs (f))) := Lib.hid (H7.out.congr (mapK_end _ _))
            clear H7
            have H7 := H7'; clear H7'
            have d7 : wr.heap[b7]? = some (.cells (aN 16 (sMap gs f)) 35 (0, 0)) := H7.out
            go_wp2_with (refine wpList_load_row rfl 35 (.tmp 7) rfl b7 rfl 35 (aN 16 (sMap gs f)) (0, 0) (.array 16 5) d7 Try.underlying35 rfl (by rw [aN_size]; kernel_rfl) ?_)
            refine (rmoved_any (sMap gs f) up4 _ (fun p => by unfold up4; omega)).mono ?_
            rintro e w5 ⟨rfl, hb5⟩
            have hb9 : Below w1.heap.size w1 w5 := HB.out.trans (hb5.mono HB.out.size)
            have d7' : w5.heap[b7]? = some (.cells (aN 16 (sMap gs f)) 35 (0, 0)) := (H7.out.call hb5)
            clear d7 H7 HB hb5
            have d7 := d7'; clear d7'
            go_upto_if 42 with (refine wpList_store_row rfl 35 (.tmp 7) (.tmp 39) rfl (b7) (aN 16 (sMov up4 (sMap gs f))) rfl rfl 35 _ d7 (by rw [aN_size]; kernel_rfl) (by rw [aN_size, aN_size]) (aN_one _ _) ?_)
            have h7q : H16 (w5.setRow b7 (aN 16 (sMov up4 (sMap gs f)))) b7 (sMov up4 (sMap gs f)) := setRow_heap _ _ _ _ _ _ d7
            have hBq : Below w1.heap.size w1 (w5.setRow b7 (aN 16 (sMov up4 (sMap gs f)))) := below_setRow hb9 _ HB7.out _
            clear d7 hb9
            have H7 := Lib.hid h7q; clear h7q
            have HB := Lib.hid hBq; clear hBq
            generalize w5.setRow b7 (aN 16 (sMov up4 (sMap gs f))) = wr at *
            have d7 : wr.heap[b7]? = some (.cells (aN 16 (sMov up4 (sMap gs f))) 35 (0, 0)) := H7.out
            go_wp2_with (refine wpList_load_row rfl 35 (.tmp 7) rfl b7 rfl 35 (aN 16 (sMov up4 (sMap gs f))) (0, 0) (.array 16 5) d7 Try.underlying35 rfl (by rw [aN_size]; kernel_rfl) ?_)
            refine (radd_any (sMov up4 (sMap gs f)) A5 (kAll l) 176 c5 j _ HFY.out (kX_lt _ l HL.out _) HLEN.out (by omega) (by omega) ((HRD.out.below HB.out).more HB.out.size)).mono ?_
            rintro e w5 ⟨rfl, hb5⟩
            have hb9 : Below w1.heap.size w1 w5 := HB.out.trans (hb5.mono HB.out.size)
            have d7' : w5.heap[b7]? = some (.cells (aN 16 (sMov up4 (sMap gs f))) 35 (0, 0)) := (H7.out.call hb5)
            clear d7 H7 HB hb5
            have d7 := d7'; clear d7'
            go_wp2_with (refine wpList_store_row rfl 35 (.tmp 7) (.tmp 66) rfl (b7) (aN 16 (sAdd (sMov up4 (sMap gs f)) (rk (kF l) j))) rfl rfl 35 _ d7 (by rw [aN_size]; kernel_rfl) (by rw [aN_size, aN_size]) (aN_one _ _) ?_)
            have h7q : H16 (w5.setRow b7 (aN 16 (sAdd (sMov up4 (sMap gs f)) (rk (kF l) j)))) b7 (sAdd (sMov up4 (sMap gs f)) (rk (kF l) j)) := setRow_heap _ _ _ _ _ _ d7
            have hBq : Below w1.heap.size w1 (w5.setRow b7 (aN 16 (sAdd (sMov up4 (sMap gs f)) (rk (kF l) j)))) := below_setRow hb9 _ HB7.out _
            clear d7 hb9
            have H7 := Lib.hid h7q; clear h7q
            have HB := Lib.hid hBq; clear hBq
            generalize w5.setRow b7 (aN 16 (sAdd (sMov up4 (sMap gs f)) (rk (kF l) j))) = wr at *
            have H7' : Hid (H16 wr b7 (eN (kF l) 10 b (j + 1 - 1))) := Lib.hid (H7.out.congr (fun i hi => by have hj := HF.out; obtain ⟨m, rfl⟩ : ∃ m, j = m + 1 := ⟨j - 1, by omega⟩; rw [show m + 1 - 1 = m from rfl] at hj; show _ = eRnd (kF l) 10 (m + 1) (eN (kF l) 10 b m) i; unfold eRnd; rw [if_neg hlt, ← hj]; exact sAdd_eq _ (up4_up _) i hi))
            clear H7
            go_wp2_with fail
            go_roundw
            case rel => exact ⟨j + 1, by omega, by omega, by go_num, H7', HB⟩
            case measure => simp [intOf]; omega
    · obtain rfl : j = 10 + 1 := by omega
      have d7 : wr.heap[b7]? = some (.cells (aN 16 (enc (kF l) 10 b)) 35 (0, 0)) := H7.out
      have d4 : wr.heap[w.heap.size + 1]? = some (.cells (aN 16 fun _ => 0) 35 (0, 0)) := H4.out.below HB.out H4.out.lt
      go_wp2_with (first
        | (refine wpList_load_row rfl 35 (.tmp 7) rfl b7 rfl 35 (aN 16 (enc (kF l) 10 b)) (0, 0) (.array 16 5) d7 Try.underlying35 rfl (by rw [aN_size]; kernel_rfl) ?_)
        | (refine wpList_store_row rfl 35 (.tmp 4) (.tmp 67) rfl (w.heap.size + 1) (aN 16 (enc (kF l) 10 b)) rfl rfl 35 _ d4 (by rw [aN_size]; kernel_rfl) (by rw [aN_size, aN_size]) (aN_one _ _) ?_))
      refine bodyPost_ret (v := .agg (aN 16 (enc (kF l) 10 b))) (results_cell_row (p := 4) (ty := 35) (by kernel_rfl) _ _ (w.heap.size + 1) 35 (aN 16 (enc (kF l) 10 b)) (0, 0) (.array 16 5) rfl ?_ Try.underlying35 rfl (by rw [aN_size]; kernel_rfl)) rfl ⟨rfl, ?_⟩
      · exact setRow_heap _ _ _ _ _ _ d4
      · exact below_setRow (HB1.out.trans (HB.out.mono HB1.out.size)) _ (by omega) _

set_option maxRecDepth 100000 in
set_option maxHeartbeats 8000000 in
theorem renc32_any (A : Option Addr) (l : List Nat) (cap : Nat) (b : Nat → Nat) (hn : l.length = 32) (hl : ∀ x ∈ l, x < 256) (hb : B16 b) (w : World) (h : Rd w w.heap.size A (vn l)) :
    Calls Try.prog 33 #[.slice A 32 cap, .agg (aN 16 b)] w fun e w' => e = .returned (.agg (aN 16 (enc (kF l) 14 b))) ∧ Below w.heap.size w w' := by
  have h3 : H16 ((w.alloc (.cells (aN 16 b) 35)).alloc (.cells (aN 16 fun _ => 0) 35)) w.heap.size b := (H16.newAt rfl).alloc _
  have h4 : H16 ((w.alloc (.cells (aN 16 b) 35)).alloc (.cells (aN 16 fun _ => 0) 35)) (w.heap.size + 1) fun _ => 0 := H16.newAt (w := w.alloc (.cells (aN 16 b) 35)) (by rw [World.size_alloc])
  have hB : Below w.heap.size w ((w.alloc (.cells (aN 16 b) 35)).alloc (.cells (aN 16 fun _ => 0) 35)) := ((Below.refl _ _).alloc (Nat.le_refl _) _).alloc (by simp) _
  have hW := rwords32_any A l cap hn hl _ (h.go hB)
  have H3 := Lib.hid h3; clear h3
  have H4 := Lib.hid h4; clear h4
  have HB0 := Lib.hid hB; clear hB
  have HWD := Lib.hid hW; clear hW
  have HBB := Lib.hid hb; clear hb
  have HL := Lib.hid hl; clear hl
  have HBK : Hid (BK (kF l) 14) := Lib.hid (kF_bk l HL.out 14)
  clear hn h
  go_enter Try.func33, Try.ntmps33
  go_wp2_with fail
  rw [zero16]
  generalize (w.alloc (.cells (aN 16 b) 35)).alloc (.cells (aN 16 fun _ => 0) 35) = w0 at *
  refine HWD.out.mono ?_
  rintro e w1 ⟨v, rfl, hown, hb1⟩
  obtain ⟨A5, c5, rfl, hlen, hrd⟩ := Rd.of_own hown
  have HLEN : Hid ((kAll l).length = 240) := Lib.hid (by rw [vn_len] at hlen; exact hlen)
  have HRD := Lib.hid hrd; clear hrd
  have h3 : H16 w1 w.heap.size b := H3.out.call hb1
  have h4 : H16 w1 (w.heap.size + 1) fun _ => 0 := H4.out.call hb1
  have hB1 : Below w.heap.size w w1 := HB0.out.trans (hb1.mono HB0.out.size)
  clear H3 H4 HB0 HWD hown hlen hb1
  have H3 := Lib.hid h3; clear h3
  have H4 := Lib.hid h4; clear h4
  have HB1 := Lib.hid hB1; clear hB1
  have d3 : w1.heap[w.heap.size]? = some (.cells (aN 16 b) 35 (0, 0)) := H3.out
  go_wp2_with (refine wpList_load_row rfl 35 (.tmp 3) rfl w.heap.size rfl 35 (aN 16 b) (0, 0) (.array 16 5) d3 Try.underlying35 rfl (by rw [aN_size]; kernel_rfl) ?_)
  have hadd := radd_any b A5 (kAll l) 240 c5 0 w1 HBB.out (kX_lt _ l HL.out _) HLEN.out (by omega) (by omega) HRD.out
  rw [show ((0 : Nat) : Int) = 0 from rfl] at hadd
  refine hadd.mono ?_
  rintro e w2 ⟨rfl, hb2⟩
  clear hadd d3
  have d7 : (w2.alloc (.cells #[.int .u8 0, .int .u8 0, .int .u8 0, .int .u8 0, .int .u8 0, .int .u8 0, .int .u8 0, .int .u8 0, .int .u8 0, .int .u8 0, .int .u8 0, .int .u8 0, .int .u8 0, .int .u8 0, .int .u8 0, .int .u8 0] 35)).heap[w2.heap.size]? = some (.cells (aN 16 fun _ => 0) 35 (0, 0)) := H16.newAt (f := fun _ => 0) rfl
  have hb9 : Below w1.heap.size w1 (w2.alloc (.cells #[.int .u8 0, .int .u8 0, .int .u8 0, .int .u8 0, .int .u8 0, .int .u8 0, .int .u8 0, .int .u8 0, .int .u8 0, .int .u8 0, .int .u8 0, .int .u8 0, .int .u8 0, .int .u8 0, .int .u8 0, .int .u8 0] 35)) := hb2.alloc hb2.size _
  have hb7 : w1.heap.size ≤ w2.heap.size := hb2.size
  have HB7 := Lib.hid hb7; clear hb7 hb2
  go_wp2_with (refine wpList_store_row rfl 35 (.tmp 7) (.tmp 21) rfl w2.heap.size (aN 16 (sAdd b (rk (kF l) 0))) rfl rfl 35 _ d7 (by rw [aN_size]; kernel_rfl) (by rw [aN_size, aN_size]) (aN_one _ _) ?_)
  have h7 : H16 ((w2.alloc (.cells #[.int .u8 0, .int .u8 0, .int .u8 0, .int .u8 0, .int .u8 0, .int .u8 0, .int .u8 0, .int .u8 0, .int .u8 0, .int .u8 0, .int .u8 0, .int .u8 0, .int .u8 0, .int .u8 0, .int .u8 0, .int .u8 0] 35)).setRow w2.heap.size (aN 16 (sAdd b (rk (kF l) 0)))) w2.heap.size (eN (kF l) 14 b 0) := setRow_heap _ _ _ _ _ _ d7
  have hBB := below_setRow hb9 _ HB7.out (aN 16 (sAdd b (rk (kF l) 0)))
  clear d7 hb9
  have H7 := Lib.hid h7; clear h7
  have HB := Lib.hid hBB; clear hBB
  generalize (w2.alloc (.cells #[.int .u8 0, .int .u8 0, .int .u8 0, .int .u8 0, .int .u8 0, .int .u8 0, .int .u8 0, .int .u8 0, .int .u8 0, .int .u8 0, .int .u8 0, .int .u8 0, .int .u8 0, .int .u8 0, .int .u8 0, .int .u8 0] 35)).setRow w2.heap.size (aN 16 (sAdd b (rk (kF l) 0))) = w3 at *
  generalize w2.heap.size = b7 at *
  go_loopw [8] (fun i wr => ∃ j : Nat, 1 ≤ j ∧ j ≤ 14 + 1 ∧ i = .int .i64 j ∧ Hid (H16 wr b7 (eN (kF l) 14 b (j - 1))) ∧ Hid (Below w1.heap.size w1 wr)) (fun i _ => 14 + 1 - (intOf i).toNat)
  case atStart => exact ⟨1, by omega, by omega, rfl, H7, HB⟩
  case round =>
    clear H7 HB H3
    obtain ⟨j, hj1, hj2, rfl, H7, HB⟩ := hrel
    by_cases hle : j ≤ 14
    · obtain ⟨f, hf⟩ : ∃ f, f = eN (kF l) 14 b (j - 1) := ⟨_, rfl⟩
      have hf8 : B16 f := by rw [hf]; exact eN_lt _ 14 b HBB.out HBK.out _ (by omega)
      rw [← hf] at H7
      have HF := Lib.hid hf; clear hf
      have HF8 := Lib.hid hf8; clear hf8
      have HFX0 : B16 (sMov up4 (sMap gs f)) := sMov_lt _ (sMap_lt _ gs_lt HF8.out)
      have HFY := Lib.hid HFX0; clear HFX0
      have hle' : (j : Int) ≤ 14 := by omega
      by_cases hlt : j < 14
      · have hlt' : (j : Int) < 14 := by omega
        go_wp2_with fail
        obtain ⟨wo, rfl⟩ : ∃ wo : World, wo = wr := ⟨_, rfl⟩
        go_loopw [9] (fun i wq => ∃ k : Nat, k ≤ 16 ∧ i = .int .i64 k ∧ Hid (H16 wq b7 (mapK gs (f) k)) ∧ Hid (Below w1.heap.size w1 wq)) (fun i _ => 16 - (intOf i).toNat)
        case atStart => exact ⟨0, by omega, rfl, Lib.hid (H7.out.congr fun i _ => by simp [mapK]), HB⟩
        case round =>
          clear H7 HB
          obtain ⟨k, hk, rfl, H7, HB⟩ := hrel
          by_cases hlk : k < 16
          · have hk16 : (k : Int) < 16 := by omega
            have c0 := H7.out.cell k hlk
            have f0 := H7.out.free k
            have e0 : mapK gs (f) k k = (f) k := by simp [mapK]
            rw [e0] at c0
            clear e0
            have la : (f) k < 256 := HF8.out k hlk
            have hx : ((gs ((f) k) : Nat) : Int) = ((mapK gs (f) (k + 1) k : Nat) : Int) := by simp [mapK]
            have HX := Lib.hid hx; clear hx
            go_wp2_with fail
            refine (rsub_any ((f) k) _ la).mono ?_
            rintro e wz ⟨rfl, rfl⟩
            rw [HX.out]
            go_wp2_with fail
            go_roundw
            case rel =>
              refine ⟨k + 1, by omega, by go_num, Lib.hid ?_, Lib.hid (HB.out.setCell HB7.out _)⟩
              exact H7.out.set k _ hlk rfl fun i hi hik => mapK_far _ _ _ _ hik
            case measure => simp [intOf]; omega
          · obtain rfl : k = 16 := by omega
            have H7' : Hid (H16 wr b7 (sMap gs (f))) := Lib.hid (H7.out.congr (mapK_end _ _))
            clear H7
            have H7 := H7'; clear H7'
            have d7 : wr.heap[b7]? = some (.cells (aN 16 (sMap gs f)) 35 (0, 0)) := H7.out
            go_wp2_with (refine wpList_load_row rfl 35 (.tmp 7) rfl b7 rfl 35 (aN 16 (sMap gs f)) (0, 0) (.array 16 5) d7 Try.underlying35 rfl (by rw [aN_size]; kernel_rfl) ?_)
            refine (rmoved_any (sMap gs f) up4 _ (fun p => by unfold up4; omega)).mono ?_
            rintro e w5 ⟨rfl, hb5⟩
            have hb9 : Below w1.heap.size w1 w5 := HB.out.trans (hb5.mono HB.out.size)
            have d7' : w5.heap[b7]? = some (.cells (aN 16 (sMap gs f)) 35 (0, 0)) := (H7.out.call hb5)
            clear d7 H7 HB hb5
            have d7 := d7'; clear d7'
            go_wp2_with (refine wpList_store_row rfl 35 (.tmp 7) (.tmp 39) rfl (b7) (aN 16 (sMov up4 (sMap gs f))) rfl rfl 35 _ d7 (by rw [aN_size]; kernel_rfl) (by rw [aN_size, aN_size]) (aN_one _ _) ?_)
            have h7q : H16 (w5.setRow b7 (aN 16 (sMov up4 (sMap gs f)))) b7 (sMov up4 (sMap gs f)) := setRow_heap _ _ _ _ _ _ d7
            have hBq : Below w1.heap.size w1 (w5.setRow b7 (aN 16 (sMov up4 (sMap gs f)))) := below_setRow hb9 _ HB7.out _
            clear d7 hb9
            have H7 := Lib.hid h7q; clear h7q
            have HB := Lib.hid hBq; clear hBq
            generalize w5.setRow b7 (aN 16 (sMov up4 (sMap gs f))) = wr at *
            obtain ⟨wo, rfl⟩ : ∃ wo : World, wo = wr := ⟨_, rfl⟩
            go_loopw [10] (fun i wq => ∃ q : Nat, q ≤ 4 ∧ i = .int .i64 q ∧ Hid (H16 wq b7 (mixU mixR (sMov up4 (sMap gs f)) (4 * q))) ∧ Hid (Below w1.heap.size w1 wq)) (fun i _ => 4 - (intOf i).toNat)
            case atStart => exact ⟨0, by omega, rfl, Lib.hid (H7.out.congr fun i _ => by simp [mixU]), HB⟩
            case round =>
              clear H7 HB
              clear wo
              obtain ⟨q, hq, rfl, H7, HB⟩ := hrel
              by_cases hlq : q < 4
              · have hq4 : (q : Int) < 4 := by omega
                have d7 : wr.heap[b7]? = some (.cells (aN 16 (mixU mixR (sMov up4 (sMap gs f)) (4 * q))) 35 (0, 0)) := H7.out
                go_wp2_with (refine wpList_load_row rfl 35 (.tmp 7) rfl b7 rfl 35 (aN 16 (mixU mixR (sMov up4 (sMap gs f)) (4 * q))) (0, 0) (.array 16 5) d7 Try.underlying35 rfl (by rw [aN_size]; kernel_rfl) ?_)
                refine (rcolumn_any (mixU mixR (sMov up4 (sMap gs f)) (4 * q)) q _ hlq).mono ?_
                rintro e w5 ⟨rfl, hb5⟩
                have hb9 : Below w1.heap.size w1 w5 := HB.out.trans (hb5.mono HB.out.size)
                have h7 : H16 w5 b7 (mixU mixR (sMov up4 (sMap gs f)) (4 * q)) := H7.out.call hb5
                clear d7 H7 HB hb5
                have H7 := Lib.hid h7; clear h7
                have HB := Lib.hid hb9; clear hb9
                go_wp2_with fail
                refine (rmix_any (fun j => mixU mixR (sMov up4 (sMap gs f)) (4 * q) (4 * q + j)) _ (fun j hj => mixU_lt _ _ _ HFY.out _ (by omega))).mono ?_
                rintro e w6 ⟨rfl, hb5⟩
                have hb9 : Below w1.heap.size w1 w6 := HB.out.trans (hb5.mono HB.out.size)
                have h7 : H16 w6 b7 (mixU mixR (sMov up4 (sMap gs f)) (4 * q)) := H7.out.call hb5
                clear H7 HB hb5
                rw [arr4_congr _ (fun p => sMix mixR (sMov up4 (sMap gs f)) (4 * q + p)) (fun p hp => mixU_col mixR (sMov up4 (sMap gs f)) q p hp)]
                have hcn : Has (w6.alloc (.cells (arr4 fun p => sMix mixR (sMov up4 (sMap gs f)) (4 * q + p)) 65)) w6.heap.size fun p => sMix mixR (sMov up4 (sMap gs f)) (4 * q + p) := Has.new
                have h7n : H16 (w6.alloc (.cells (arr4 fun p => sMix mixR (sMov up4 (sMap gs f)) (4 * q + p)) 65)) b7 (mixU mixR (sMov up4 (sMap gs f)) (4 * q)) := h7.alloc _
                have hBn : Below w1.heap.size w1 (w6.alloc (.cells (arr4 fun p => sMix mixR (sMov up4 (sMap gs f)) (4 * q + p)) 65)) := hb9.alloc hb9.size _
                have hne : b7 ≠ w6.heap.size := Nat.ne_of_lt h7.lt
                clear h7 hb9
                have HN := Lib.hid hcn; clear hcn
                have H7 := Lib.hid h7n; clear h7n
                have HB := Lib.hid hBn; clear hBn
                have HNE := Lib.hid hne; clear hne
                go_wp2_with fail
                generalize w6.alloc (.cells (arr4 fun p => sMix mixR (sMov up4 (sMap gs f)) (4 * q + p)) 65) = w7 at *
                generalize w6.heap.size = b11 at *
                obtain ⟨wi, rfl⟩ : ∃ wi : World, wi = wr := ⟨_, rfl⟩
                go_loopw [12] (fun i wq => ∃ p : Nat, p ≤ 4 ∧ i = .int .i64 p ∧ Hid (Has wq b11 fun p => sMix mixR (sMov up4 (sMap gs f)) (4 * q + p)) ∧ Hid (H16 wq b7 (mixU mixR (sMov up4 (sMap gs f)) (4 * q + p))) ∧ Hid (Below w1.heap.size w1 wq)) (fun i _ => 4 - (intOf i).toNat)
                case atStart => exact ⟨0, by omega, rfl, HN, H7, HB⟩
                case round =>
                  clear H7 HB HN
                  obtain ⟨p, hp, rfl, HN, H7, HB⟩ := hrel
                  by_cases hlp : p < 4
                  · have hp4 : (p : Int) < 4 := by omega
                    have hd16 : 4 * q + p < 16 := by omega
                    have c0 := HN.out.cell p hlp
                    have c3 := H7.out.cell _ hd16
                    have f3 := H7.out.free (4 * q + p)
                    have hv : mixU mixR (sMov up4 (sMap gs f)) (4 * q + p + 1) (4 * q + p) = sMix mixR (sMov up4 (sMap gs f)) (4 * q + p) := by unfold mixU; rw [if_pos (by omega)]
                    have HV := Lib.hid hv; clear hv
                    go_wp2_with fail
                    go_roundw
                    case rel =>
                      refine ⟨p + 1, by omega, by go_num, Lib.hid (HN.out.otherCell _ (by show b11 ≠ b7; exact fun e => HNE.out e.symm) _), Lib.hid ?_, Lib.hid (HB.out.setCell HB7.out _)⟩
                      exact H7.out.set _ _ hd16 HV.out fun i hi hik => mixU_far _ _ _ _ hik
                    case measure => simp [intOf]; omega
                  · obtain rfl : p = 4 := by omega
                    go_wp2_with fail
                    go_roundw
                    case rel => exact ⟨q + 1, by omega, by go_num, H7, HB⟩
                    case measure => simp [intOf]; omega
              · obtain rfl : q = 4 := by omega
                have H7' : Hid (H16 wr b7 (sMix mixR (sMov up4 (sMap gs f)))) := Lib.hid (H7.out.congr (mixU_end _ _))
                clear H7
                have H7 := H7'; clear H7'
                have d7 : wr.heap[b7]? = some (.cells (aN 16 (sMix mixR (sMov up4 (sMap gs f)))) 35 (0, 0)) := H7.out
                go_wp2_with (refine wpList_load_row rfl 35 (.tmp 7) rfl b7 rfl 35 (aN 16 (sMix mixR (sMov up4 (sMap gs f)))) (0, 0) (.array 16 5) d7 Try.underlying35 rfl (by rw [aN_size]; kernel_rfl) ?_)
                refine (radd_any (sMix mixR (sMov up4 (sMap gs f))) A5 (kAll l) 240 c5 j _ (sMix_lt _ HFY.out) (kX_lt _ l HL.out _) HLEN.out (by omega) (by omega) ((HRD.out.below HB.out).more HB.out.size)).mono ?_
                rintro e w5 ⟨rfl, hb5⟩
                have hb9 : Below w1.heap.size w1 w5 := HB.out.trans (hb5.mono HB.out.size)
                have d7' : w5.heap[b7]? = some (.cells (aN 16 (sMix mixR (sMov up4 (sMap gs f)))) 35 (0, 0)) := (H7.out.call hb5)
                clear d7 H7 HB hb5
                have d7 := d7'; clear d7'
                go_wp2_with (refine wpList_store_row rfl 35 (.tmp 7) (.tmp 66) rfl (b7) (aN 16 (sAdd (sMix mixR (sMov up4 (sMap gs f))) (rk (kF l) j))) rfl rfl 35 _ d7 (by rw [aN_size]; kernel_rfl) (by rw [aN_size, aN_size]) (aN_one _ _) ?_)
                have h7q : H16 (w5.setRow b7 (aN 16 (sAdd (sMix mixR (sMov up4 (sMap gs f))) (rk (kF l) j)))) b7 (sAdd (sMix mixR (sMov up4 (sMap gs f))) (rk (kF l) j)) := setRow_heap _ _ _ _ _ _ d7
                have hBq : Below w1.heap.size w1 (w5.setRow b7 (aN 16 (sAdd (sMix mixR (sMov up4 (sMap gs f))) (rk (kF l) j)))) := below_setRow hb9 _ HB7.out _
                clear d7 hb9
                have H7 := Lib.hid h7q; clear h7q
                have HB := Lib.hid hBq; clear hBq
                generalize w5.setRow b7 (aN 16 (sAdd (sMix mixR (sMov up4 (sMap gs f))) (rk (kF l) j))) = wr at *
                have H7' : Hid (H16 wr b7 (eN (kF l) 14 b (j + 1 - 1))) := Lib.hid (H7.out.congr (fun i hi => by have hj := HF.out; obtain ⟨m, rfl⟩ : ∃ m, j = m + 1 := ⟨j - 1, by omega⟩; rw [show m + 1 - 1 = m from rfl] at hj; show _ = eRnd (kF l) 14 (m + 1) (eN (kF l) 14 b m) i; unfold eRnd; rw [if_pos hlt, ← hj]; exact sAdd_eq _ (sMix_eq _ (up4_up _)) i hi))
                clear H7
                go_wp2_with fail
                go_roundw
                case rel => exact ⟨j + 1, by omega, by omega, by go_num, H7', HB⟩
                case measure => simp [intOf]; omega
      · have hdec : decide ((j : Int) < 14) = false := decide_eq_false (by omega)
        have hlt' : ¬ (j : Int) < 14 := by omega
        go_wp2_with fail
        obtain ⟨wo, rfl⟩ : ∃ wo : World, wo = wr := ⟨_, rfl⟩
        go_loopw [9] (fun i wq => ∃ k : Nat, k ≤ 16 ∧ i = .int .i64 k ∧ Hid (H16 wq b7 (mapK gs (f) k)) ∧ Hid (Below w1.heap.size w1 wq)) (fun i _ => 16 - (intOf i).toNat)
        case atStart => exact ⟨0, by omega, rfl, Lib.hid (H7.out.congr fun i _ => by simp [mapK]), HB⟩
        case round =>
          clear H7 HB
          obtain ⟨k, hk, rfl, H7, HB⟩ := hrel
          by_cases hlk : k < 16
          · have hk16 : (k : Int) < 16 := by omega
            have c0 := H7.out.cell k hlk
            have f0 := H7.out.free k
            have e0 : mapK gs (f) k k = (f) k := by simp [mapK]
            rw [e0] at c0
            clear e0
            have la : (f) k < 256 := HF8.out k hlk
            have hx : ((gs ((f) k) : Nat) : Int) = ((mapK gs (f) (k + 1) k : Nat) : Int) := by simp [mapK]
            have HX := Lib.hid hx; clear hx
            go_wp2_with fail
            refine (rsub_any ((f) k) _ la).mono ?_
            rintro e wz ⟨rfl, rfl⟩
            rw [HX.out]
            go_wp2_with fail
            go_roundw
            case rel =>
              refine ⟨k + 1, by omega, by go_num, Lib.hid ?_, Lib.hid (HB.out.setCell HB7.out _)⟩
              exact H7.out.set k _ hlk rfl fun i hi hik => mapK_far _ _ _ _ hik
            case measure => simp [intOf]; omega
          · obtain rfl : k = 16 := by omega
            have H7' : Hid (H16 wr b7 (sMap gs (f))) := Lib.hid (H7.out.congr (mapK_end _ _))
            clear H7
            have H7 := H7'; clear H7'
            have d7 : wr.heap[b7]? = some (.cells (aN 16 (sMap gs f)) 35 (0, 0)) := H7.out
            go_wp2_with (refine wpList_load_row rfl 35 (.tmp 7) rfl b7 rfl 35 (aN 16 (sMap gs f)) (0, 0) (.array 16 5) d7 Try.underlying35 rfl (by rw [aN_size]; kernel_rfl) ?_)
            refine (rmoved_any (sMap gs f) up4 _ (fun p => by unfold up4; omega)).mono ?_
            rintro e w5 ⟨rfl, hb5⟩
            have hb9 : Below w1.heap.size w1 w5 := HB.out.trans (hb5.mono HB.out.size)
            have d7' : w5.heap[b7]? = some (.cells (aN 16 (sMap gs f)) 35 (0, 0)) := (H7.out.call hb5)
            clear d7 H7 HB hb5
            have d7 := d7'; clear d7'
            go_upto_if 42 with (refine wpList_store_row rfl 35 (.tmp 7) (.tmp 39) rfl (b7) (aN 16 (sMov up4 (sMap gs f))) rfl rfl 35 _ d7 (by rw [aN_size]; kernel_rfl) (by rw [aN_size, aN_size]) (aN_one _ _) ?_)
            have h7q : H16 (w5.setRow b7 (aN 16 (sMov up4 (sMap gs f)))) b7 (sMov up4 (sMap gs f)) := setRow_heap _ _ _ _ _ _ d7
            have hBq : Below w1.heap.size w1 (w5.setRow b7 (aN 16 (sMov up4 (sMap gs f)))) := below_setRow hb9 _ HB7.out _
            clear d7 hb9
            have H7 := Lib.hid h7q; clear h7q
            have HB := Lib.hid hBq; clear hBq
            generalize w5.setRow b7 (aN 16 (sMov up4 (sMap gs f))) = wr at *
            have d7 : wr.heap[b7]? = some (.cells (aN 16 (sMov up4 (sMap gs f))) 35 (0, 0)) := H7.out
            go_wp2_with (refine wpList_load_row rfl 35 (.tmp 7) rfl b7 rfl 35 (aN 16 (sMov up4 (sMap gs f))) (0, 0) (.array 16 5) d7 Try.underlying35 rfl (by rw [aN_size]; kernel_rfl) ?_)
            refine (radd_any (sMov up4 (sMap gs f)) A5 (kAll l) 240 c5 j _ HFY.out (kX_lt _ l HL.out _) HLEN.out (by omega) (by omega) ((HRD.out.below HB.out).more HB.out.size)).mono ?_
            rintro e w5 ⟨rfl, hb5⟩
            have hb9 : Below w1.heap.size w1 w5 := HB.out.trans (hb5.mono HB.out.size)
            have d7' : w5.heap[b7]? = some (.cells (aN 16 (sMov up4 (sMap gs f))) 35 (0, 0)) := (H7.out.call hb5)
            clear d7 H7 HB hb5
            have d7 := d7'; clear d7'
            go_wp2_with (refine wpList_store_row rfl 35 (.tmp 7) (.tmp 66) rfl (b7) (aN 16 (sAdd (sMov up4 (sMap gs f)) (rk (kF l) j))) rfl rfl 35 _ d7 (by rw [aN_size]; kernel_rfl) (by rw [aN_size, aN_size]) (aN_one _ _) ?_)
            have h7q : H16 (w5.setRow b7 (aN 16 (sAdd (sMov up4 (sMap gs f)) (rk (kF l) j)))) b7 (sAdd (sMov up4 (sMap gs f)) (rk (kF l) j)) := setRow_heap _ _ _ _ _ _ d7
            have hBq : Below w1.heap.size w1 (w5.setRow b7 (aN 16 (sAdd (sMov up4 (sMap gs f)) (rk (kF l) j)))) := below_setRow hb9 _ HB7.out _
            clear d7 hb9
            have H7 := Lib.hid h7q; clear h7q
            have HB := Lib.hid hBq; clear hBq
            generalize w5.setRow b7 (aN 16 (sAdd (sMov up4 (sMap gs f)) (rk (kF l) j))) = wr at *
            have H7' : Hid (H16 wr b7 (eN (kF l) 14 b (j + 1 - 1))) := Lib.hid (H7.out.congr (fun i hi => by have hj := HF.out; obtain ⟨m, rfl⟩ : ∃ m, j = m + 1 := ⟨j - 1, by omega⟩; rw [show m + 1 - 1 = m from rfl] at hj; show _ = eRnd (kF l) 14 (m + 1) (eN (kF l) 14 b m) i; unfold eRnd; rw [if_neg hlt, ← hj]; exact sAdd_eq _ (up4_up _) i hi))
            clear H7
            go_wp2_with fail
            go_roundw
            case rel => exact ⟨j + 1, by omega, by omega, by go_num, H7', HB⟩
            case measure => simp [intOf]; omega
    · obtain rfl : j = 14 + 1 := by omega
      have d7 : wr.heap[b7]? = some (.cells (aN 16 (enc (kF l) 14 b)) 35 (0, 0)) := H7.out
      have d4 : wr.heap[w.heap.size + 1]? = some (.cells (aN 16 fun _ => 0) 35 (0, 0)) := H4.out.below HB.out H4.out.lt
      go_wp2_with (first
        | (refine wpList_load_row rfl 35 (.tmp 7) rfl b7 rfl 35 (aN 16 (enc (kF l) 14 b)) (0, 0) (.array 16 5) d7 Try.underlying35 rfl (by rw [aN_size]; kernel_rfl) ?_)
        | (refine wpList_store_row rfl 35 (.tmp 4) (.tmp 67) rfl (w.heap.size + 1) (aN 16 (enc (kF l) 14 b)) rfl rfl 35 _ d4 (by rw [aN_size]; kernel_rfl) (by rw [aN_size, aN_size]) (aN_one _ _) ?_))
      refine bodyPost_ret (v := .agg (aN 16 (enc (kF l) 14 b))) (results_cell_row (p := 4) (ty := 35) (by kernel_rfl) _ _ (w.heap.size + 1) 35 (aN 16 (enc (kF l) 14 b)) (0, 0) (.array 16 5) rfl ?_ Try.underlying35 rfl (by rw [aN_size]; kernel_rfl)) rfl ⟨rfl, ?_⟩
      · exact setRow_heap _ _ _ _ _ _ d4
      · exact below_setRow (HB1.out.trans (HB.out.mono HB1.out.size)) _ (by omega) _

end Go.Proofs.Ytkfmgjipocmkjaa
