/-
  What was enciphered is deciphered to what it was, and the other way round; unlike blocks stay unlike: AesBack, for every input.
-/
import Derived.Test.YtljmkleppoacaaaLaw
import Derived.Test.YtljmkleppoacaaaAesQ
namespace Go.Proofs.Ytljmkleppoacaaa
open Go Go.RowKit Go.ChangeShapes Go.WideShapes Go.ChangeAt
set_option linter.unusedVariables false
set_option linter.unusedSimpArgs false

set_option maxRecDepth 100000 in
set_option maxHeartbeats 4000000 in
theorem aback16_any (A : Option Addr) (l : List Nat) (cap : Nat) (a b : Nat → Nat) (hn : l.length = 16) (hl : ∀ x ∈ l, x < 256) (hcap : 16 ≤ cap) (ha : B16 a) (hb : B16 b) (w : World) (h : Rd w w.heap.size A (vn l)) :
    Calls Try.prog 7 #[.slice A 16 cap, .agg (aN 16 a), .agg (aN 16 b)] w fun e w' => e = .returned (.bool true) ∧ Below w.heap.size w w' := by
  have h4 : H16 ((w.alloc (.cells (aN 16 a) 35)).alloc (.cells (aN 16 b) 35)) w.heap.size a := (H16.newAt rfl).alloc _
  have h5 : H16 ((w.alloc (.cells (aN 16 a) 35)).alloc (.cells (aN 16 b) 35)) (w.heap.size + 1) b := H16.newAt (w := w.alloc (.cells (aN 16 a) 35)) (by rw [World.size_alloc])
  have hB : Below w.heap.size w ((w.alloc (.cells (aN 16 a) 35)).alloc (.cells (aN 16 b) 35)) := ((Below.refl _ _).alloc (Nat.le_refl _) _).alloc (by simp) _
  have HN := Lib.hid (new16_any A l cap hn hcap hl _ (h.go hB))
  have H4 := Lib.hid h4; clear h4
  have H5 := Lib.hid h5; clear h5
  have HB := Lib.hid hB; clear hB h hn hcap
  have HAA := Lib.hid ha; clear ha
  have HBB := Lib.hid hb; clear hb
  have HK : Hid (BK (kF l) 10) := Lib.hid (kF_bk l hl 10)
  clear hl
  go_enter Try.func7, Try.ntmps7
  go_wp2_with fail
  generalize (w.alloc (.cells (aN 16 a) 35)).alloc (.cells (aN 16 b) 35) = w1 at *
  refine HN.out.mono ?_
  rintro e wr ⟨c, rfl, hcc, hb3⟩
  have HCI := Lib.hid hcc; clear hcc HN
  have H4' : Hid (H16 wr w.heap.size a) := Lib.hid (H4.out.call hb3)
  have H5' : Hid (H16 wr (w.heap.size + 1) b) := Lib.hid (H5.out.call hb3)
  have HB' : Hid (Below w.heap.size w wr) := Lib.hid (HB.out.trans (hb3.mono HB.out.size))
  clear H4 H5 HB hb3
  have H4 := H4'; have H5 := H5'; have HB := HB'
  clear H4' H5' HB'
  go_upto_region 6 with fail
  have dl : wr.heap[w.heap.size]? = some (.cells (aN 16 (a)) 35 (0, 0)) := H4.out
  go_wp2_with (refine wpList_load_row_g (by rfl) 35 (.tmp 4) rfl (w.heap.size) rfl 35 (aN 16 (a)) (0, 0) (.array 16 5) dl Try.underlying35 rfl (by rw [aN_size]; kernel_rfl) ?_)
  refine (encrypt_any 10 (kF l) a c _ (by omega) (by omega) HAA.out HK.out HCI.out).mono ?_
  rintro e wA ⟨rfl, hbA⟩
  have dS := new_dS wA
  go_upto_region 7 with (refine wpList_store_row rfl 35 (.tmp 9) (.tmp 49) rfl (wA.heap.size) (aN 16 (enc (kF l) 10 a)) rfl rfl 35 _ dS (by rw [aN_size]; kernel_rfl) (by simp only [aN_size]) (aN_one _ _) ?_)
  obtain ⟨hN, hbN⟩ := new_row wA (enc (kF l) 10 a)
  clear dl dS
  have H4' : Hid (H16 ((wA.alloc (.cells #[.int .u8 0, .int .u8 0, .int .u8 0, .int .u8 0, .int .u8 0, .int .u8 0, .int .u8 0, .int .u8 0, .int .u8 0, .int .u8 0, .int .u8 0, .int .u8 0, .int .u8 0, .int .u8 0, .int .u8 0, .int .u8 0] 35)).setRow wA.heap.size (aN 16 (enc (kF l) 10 a))) (w.heap.size) (a)) := Lib.hid ((H4.out.call hbA).call hbN)
  have H5' : Hid (H16 ((wA.alloc (.cells #[.int .u8 0, .int .u8 0, .int .u8 0, .int .u8 0, .int .u8 0, .int .u8 0, .int .u8 0, .int .u8 0, .int .u8 0, .int .u8 0, .int .u8 0, .int .u8 0, .int .u8 0, .int .u8 0, .int .u8 0, .int .u8 0] 35)).setRow wA.heap.size (aN 16 (enc (kF l) 10 a))) (w.heap.size + 1) (b)) := Lib.hid ((H5.out.call hbA).call hbN)
  have HCI' : Hid (Ci 10 ((wA.alloc (.cells #[.int .u8 0, .int .u8 0, .int .u8 0, .int .u8 0, .int .u8 0, .int .u8 0, .int .u8 0, .int .u8 0, .int .u8 0, .int .u8 0, .int .u8 0, .int .u8 0, .int .u8 0, .int .u8 0, .int .u8 0, .int .u8 0] 35)).setRow wA.heap.size (aN 16 (enc (kF l) 10 a))) (c) (kF l)) := Lib.hid (Ci.go hbN (Ci.go hbA HCI.out))
  have HB' : Hid (Below w.heap.size w ((wA.alloc (.cells #[.int .u8 0, .int .u8 0, .int .u8 0, .int .u8 0, .int .u8 0, .int .u8 0, .int .u8 0, .int .u8 0, .int .u8 0, .int .u8 0, .int .u8 0, .int .u8 0, .int .u8 0, .int .u8 0, .int .u8 0, .int .u8 0] 35)).setRow wA.heap.size (aN 16 (enc (kF l) 10 a)))) := Lib.hid ((HB.out.trans (hbA.mono HB.out.size)).trans (hbN.mono (HB.out.trans (hbA.mono HB.out.size)).size))
  have Hb9 := Lib.hid hN
  clear hN hbA hbN H4 H5 HCI HB
  have H4 := H4'; clear H4'
  have H5 := H5'; clear H5'
  have HCI := HCI'; clear HCI'
  have HB := HB'; clear HB'
  generalize (wA.alloc (.cells #[.int .u8 0, .int .u8 0, .int .u8 0, .int .u8 0, .int .u8 0, .int .u8 0, .int .u8 0, .int .u8 0, .int .u8 0, .int .u8 0, .int .u8 0, .int .u8 0, .int .u8 0, .int .u8 0, .int .u8 0, .int .u8 0] 35)).setRow wA.heap.size (aN 16 (enc (kF l) 10 a)) = wrn at *
  generalize wA.heap.size = b9 at *
  try clear wr
  obtain ⟨wr, rfl⟩ : ∃ wr : World, wr = wrn := ⟨_, rfl⟩
  have dl : wr.heap[w.heap.size + 1]? = some (.cells (aN 16 (b)) 35 (0, 0)) := H5.out
  go_wp2_with (refine wpList_load_row_g (by rfl) 35 (.tmp 5) rfl (w.heap.size + 1) rfl 35 (aN 16 (b)) (0, 0) (.array 16 5) dl Try.underlying35 rfl (by rw [aN_size]; kernel_rfl) ?_)
  refine (encrypt_any 10 (kF l) b c _ (by omega) (by omega) HBB.out HK.out HCI.out).mono ?_
  rintro e wA ⟨rfl, hbA⟩
  have dS := new_dS wA
  go_upto_region 8 with (refine wpList_store_row rfl 35 (.tmp 11) (.tmp 55) rfl (wA.heap.size) (aN 16 (enc (kF l) 10 b)) rfl rfl 35 _ dS (by rw [aN_size]; kernel_rfl) (by simp only [aN_size]) (aN_one _ _) ?_)
  obtain ⟨hN, hbN⟩ := new_row wA (enc (kF l) 10 b)
  clear dl dS
  have H4' : Hid (H16 ((wA.alloc (.cells #[.int .u8 0, .int .u8 0, .int .u8 0, .int .u8 0, .int .u8 0, .int .u8 0, .int .u8 0, .int .u8 0, .int .u8 0, .int .u8 0, .int .u8 0, .int .u8 0, .int .u8 0, .int .u8 0, .int .u8 0, .int .u8 0] 35)).setRow wA.heap.size (aN 16 (enc (kF l) 10 b))) (w.heap.size) (a)) := Lib.hid ((H4.out.call hbA).call hbN)
  have H5' : Hid (H16 ((wA.alloc (.cells #[.int .u8 0, .int .u8 0, .int .u8 0, .int .u8 0, .int .u8 0, .int .u8 0, .int .u8 0, .int .u8 0, .int .u8 0, .int .u8 0, .int .u8 0, .int .u8 0, .int .u8 0, .int .u8 0, .int .u8 0, .int .u8 0] 35)).setRow wA.heap.size (aN 16 (enc (kF l) 10 b))) (w.heap.size + 1) (b)) := Lib.hid ((H5.out.call hbA).call hbN)
  have HCI' : Hid (Ci 10 ((wA.alloc (.cells #[.int .u8 0, .int .u8 0, .int .u8 0, .int .u8 0, .int .u8 0, .int .u8 0, .int .u8 0, .int .u8 0, .int .u8 0, .int .u8 0, .int .u8 0, .int .u8 0, .int .u8 0, .int .u8 0, .int .u8 0, .int .u8 0] 35)).setRow wA.heap.size (aN 16 (enc (kF l) 10 b))) (c) (kF l)) := Lib.hid (Ci.go hbN (Ci.go hbA HCI.out))
  have Hb9' : Hid (H16 ((wA.alloc (.cells #[.int .u8 0, .int .u8 0, .int .u8 0, .int .u8 0, .int .u8 0, .int .u8 0, .int .u8 0, .int .u8 0, .int .u8 0, .int .u8 0, .int .u8 0, .int .u8 0, .int .u8 0, .int .u8 0, .int .u8 0, .int .u8 0] 35)).setRow wA.heap.size (aN 16 (enc (kF l) 10 b))) (b9) (enc (kF l) 10 a)) := Lib.hid ((Hb9.out.call hbA).call hbN)
  have HB' : Hid (Below w.heap.size w ((wA.alloc (.cells #[.int .u8 0, .int .u8 0, .int .u8 0, .int .u8 0, .int .u8 0, .int .u8 0, .int .u8 0, .int .u8 0, .int .u8 0, .int .u8 0, .int .u8 0, .int .u8 0, .int .u8 0, .int .u8 0, .int .u8 0, .int .u8 0] 35)).setRow wA.heap.size (aN 16 (enc (kF l) 10 b)))) := Lib.hid ((HB.out.trans (hbA.mono HB.out.size)).trans (hbN.mono (HB.out.trans (hbA.mono HB.out.size)).size))
  have Hb11 := Lib.hid hN
  clear hN hbA hbN H4 H5 HCI Hb9 HB
  have H4 := H4'; clear H4'
  have H5 := H5'; clear H5'
  have HCI := HCI'; clear HCI'
  have Hb9 := Hb9'; clear Hb9'
  have HB := HB'; clear HB'
  generalize (wA.alloc (.cells #[.int .u8 0, .int .u8 0, .int .u8 0, .int .u8 0, .int .u8 0, .int .u8 0, .int .u8 0, .int .u8 0, .int .u8 0, .int .u8 0, .int .u8 0, .int .u8 0, .int .u8 0, .int .u8 0, .int .u8 0, .int .u8 0] 35)).setRow wA.heap.size (aN 16 (enc (kF l) 10 b)) = wrn at *
  generalize wA.heap.size = b11 at *
  try clear wr
  obtain ⟨wr, rfl⟩ : ∃ wr : World, wr = wrn := ⟨_, rfl⟩
  have dl : wr.heap[b9]? = some (.cells (aN 16 (enc (kF l) 10 a)) 35 (0, 0)) := Hb9.out
  go_wp2_with (refine wpList_load_row_g (by rfl) 35 (.tmp 9) rfl (b9) rfl 35 (aN 16 (enc (kF l) 10 a)) (0, 0) (.array 16 5) dl Try.underlying35 rfl (by rw [aN_size]; kernel_rfl) ?_)
  refine (dec_enc_any 10 (kF l) a c _ (by omega) (by omega) HAA.out HK.out HCI.out).mono ?_
  rintro e wA ⟨rfl, hbA⟩
  have dS := new_dS wA
  go_upto_region 9 with (refine wpList_store_row rfl 35 (.tmp 13) (.tmp 61) rfl (wA.heap.size) (aN 16 (a)) rfl rfl 35 _ dS (by rw [aN_size]; kernel_rfl) (by simp only [aN_size]) (aN_one _ _) ?_)
  obtain ⟨hN, hbN⟩ := new_row wA (a)
  clear dl dS
  have H4' : Hid (H16 ((wA.alloc (.cells #[.int .u8 0, .int .u8 0, .int .u8 0, .int .u8 0, .int .u8 0, .int .u8 0, .int .u8 0, .int .u8 0, .int .u8 0, .int .u8 0, .int .u8 0, .int .u8 0, .int .u8 0, .int .u8 0, .int .u8 0, .int .u8 0] 35)).setRow wA.heap.size (aN 16 (a))) (w.heap.size) (a)) := Lib.hid ((H4.out.call hbA).call hbN)
  have H5' : Hid (H16 ((wA.alloc (.cells #[.int .u8 0, .int .u8 0, .int .u8 0, .int .u8 0, .int .u8 0, .int .u8 0, .int .u8 0, .int .u8 0, .int .u8 0, .int .u8 0, .int .u8 0, .int .u8 0, .int .u8 0, .int .u8 0, .int .u8 0, .int .u8 0] 35)).setRow wA.heap.size (aN 16 (a))) (w.heap.size + 1) (b)) := Lib.hid ((H5.out.call hbA).call hbN)
  have HCI' : Hid (Ci 10 ((wA.alloc (.cells #[.int .u8 0, .int .u8 0, .int .u8 0, .int .u8 0, .int .u8 0, .int .u8 0, .int .u8 0, .int .u8 0, .int .u8 0, .int .u8 0, .int .u8 0, .int .u8 0, .int .u8 0, .int .u8 0, .int .u8 0, .int .u8 0] 35)).setRow wA.heap.size (aN 16 (a))) (c) (kF l)) := Lib.hid (Ci.go hbN (Ci.go hbA HCI.out))
  have Hb9' : Hid (H16 ((wA.alloc (.cells #[.int .u8 0, .int .u8 0, .int .u8 0, .int .u8 0, .int .u8 0, .int .u8 0, .int .u8 0, .int .u8 0, .int .u8 0, .int .u8 0, .int .u8 0, .int .u8 0, .int .u8 0, .int .u8 0, .int .u8 0, .int .u8 0] 35)).setRow wA.heap.size (aN 16 (a))) (b9) (enc (kF l) 10 a)) := Lib.hid ((Hb9.out.call hbA).call hbN)
  have Hb11' : Hid (H16 ((wA.alloc (.cells #[.int .u8 0, .int .u8 0, .int .u8 0, .int .u8 0, .int .u8 0, .int .u8 0, .int .u8 0, .int .u8 0, .int .u8 0, .int .u8 0, .int .u8 0, .int .u8 0, .int .u8 0, .int .u8 0, .int .u8 0, .int .u8 0] 35)).setRow wA.heap.size (aN 16 (a))) (b11) (enc (kF l) 10 b)) := Lib.hid ((Hb11.out.call hbA).call hbN)
  have HB' : Hid (Below w.heap.size w ((wA.alloc (.cells #[.int .u8 0, .int .u8 0, .int .u8 0, .int .u8 0, .int .u8 0, .int .u8 0, .int .u8 0, .int .u8 0, .int .u8 0, .int .u8 0, .int .u8 0, .int .u8 0, .int .u8 0, .int .u8 0, .int .u8 0, .int .u8 0] 35)).setRow wA.heap.size (aN 16 (a)))) := Lib.hid ((HB.out.trans (hbA.mono HB.out.size)).trans (hbN.mono (HB.out.trans (hbA.mono HB.out.size)).size))
  have Hb13 := Lib.hid hN
  clear hN hbA hbN H4 H5 HCI Hb9 Hb11 HB
  have H4 := H4'; clear H4'
  have H5 := H5'; clear H5'
  have HCI := HCI'; clear HCI'
  have Hb9 := Hb9'; clear Hb9'
  have Hb11 := Hb11'; clear Hb11'
  have HB := HB'; clear HB'
  generalize (wA.alloc (.cells #[.int .u8 0, .int .u8 0, .int .u8 0, .int .u8 0, .int .u8 0, .int .u8 0, .int .u8 0, .int .u8 0, .int .u8 0, .int .u8 0, .int .u8 0, .int .u8 0, .int .u8 0, .int .u8 0, .int .u8 0, .int .u8 0] 35)).setRow wA.heap.size (aN 16 (a)) = wrn at *
  generalize wA.heap.size = b13 at *
  try clear wr
  obtain ⟨wr, rfl⟩ : ∃ wr : World, wr = wrn := ⟨_, rfl⟩
  have dl : wr.heap[w.heap.size + 1]? = some (.cells (aN 16 (b)) 35 (0, 0)) := H5.out
  go_wp2_with (refine wpList_load_row_g (by rfl) 35 (.tmp 5) rfl (w.heap.size + 1) rfl 35 (aN 16 (b)) (0, 0) (.array 16 5) dl Try.underlying35 rfl (by rw [aN_size]; kernel_rfl) ?_)
  refine (decrypt_any 10 (kF l) b c _ (by omega) (by omega) HBB.out HK.out HCI.out).mono ?_
  rintro e wA ⟨rfl, hbA⟩
  have dS := new_dS wA
  go_upto_region 10 with (refine wpList_store_row rfl 35 (.tmp 15) (.tmp 67) rfl (wA.heap.size) (aN 16 (dec (kF l) 10 b)) rfl rfl 35 _ dS (by rw [aN_size]; kernel_rfl) (by simp only [aN_size]) (aN_one _ _) ?_)
  obtain ⟨hN, hbN⟩ := new_row wA (dec (kF l) 10 b)
  clear dl dS
  have H4' : Hid (H16 ((wA.alloc (.cells #[.int .u8 0, .int .u8 0, .int .u8 0, .int .u8 0, .int .u8 0, .int .u8 0, .int .u8 0, .int .u8 0, .int .u8 0, .int .u8 0, .int .u8 0, .int .u8 0, .int .u8 0, .int .u8 0, .int .u8 0, .int .u8 0] 35)).setRow wA.heap.size (aN 16 (dec (kF l) 10 b))) (w.heap.size) (a)) := Lib.hid ((H4.out.call hbA).call hbN)
  have H5' : Hid (H16 ((wA.alloc (.cells #[.int .u8 0, .int .u8 0, .int .u8 0, .int .u8 0, .int .u8 0, .int .u8 0, .int .u8 0, .int .u8 0, .int .u8 0, .int .u8 0, .int .u8 0, .int .u8 0, .int .u8 0, .int .u8 0, .int .u8 0, .int .u8 0] 35)).setRow wA.heap.size (aN 16 (dec (kF l) 10 b))) (w.heap.size + 1) (b)) := Lib.hid ((H5.out.call hbA).call hbN)
  have HCI' : Hid (Ci 10 ((wA.alloc (.cells #[.int .u8 0, .int .u8 0, .int .u8 0, .int .u8 0, .int .u8 0, .int .u8 0, .int .u8 0, .int .u8 0, .int .u8 0, .int .u8 0, .int .u8 0, .int .u8 0, .int .u8 0, .int .u8 0, .int .u8 0, .int .u8 0] 35)).setRow wA.heap.size (aN 16 (dec (kF l) 10 b))) (c) (kF l)) := Lib.hid (Ci.go hbN (Ci.go hbA HCI.out))
  have Hb9' : Hid (H16 ((wA.alloc (.cells #[.int .u8 0, .int .u8 0, .int .u8 0, .int .u8 0, .int .u8 0, .int .u8 0, .int .u8 0, .int .u8 0, .int .u8 0, .int .u8 0, .int .u8 0, .int .u8 0, .int .u8 0, .int .u8 0, .int .u8 0, .int .u8 0] 35)).setRow wA.heap.size (aN 16 (dec (kF l) 10 b))) (b9) (enc (kF l) 10 a)) := Lib.hid ((Hb9.out.call hbA).call hbN)
  have Hb11' : Hid (H16 ((wA.alloc (.cells #[.int .u8 0, .int .u8 0, .int .u8 0, .int .u8 0, .int .u8 0, .int .u8 0, .int .u8 0, .int .u8 0, .int .u8 0, .int .u8 0, .int .u8 0, .int .u8 0, .int .u8 0, .int .u8 0, .int .u8 0, .int .u8 0] 35)).setRow wA.heap.size (aN 16 (dec (kF l) 10 b))) (b11) (enc (kF l) 10 b)) := Lib.hid ((Hb11.out.call hbA).call hbN)
  have Hb13' : Hid (H16 ((wA.alloc (.cells #[.int .u8 0, .int .u8 0, .int .u8 0, .int .u8 0, .int .u8 0, .int .u8 0, .int .u8 0, .int .u8 0, .int .u8 0, .int .u8 0, .int .u8 0, .int .u8 0, .int .u8 0, .int .u8 0, .int .u8 0, .int .u8 0] 35)).setRow wA.heap.size (aN 16 (dec (kF l) 10 b))) (b13) (a)) := Lib.hid ((Hb13.out.call hbA).call hbN)
  have HB' : Hid (Below w.heap.size w ((wA.alloc (.cells #[.int .u8 0, .int .u8 0, .int .u8 0, .int .u8 0, .int .u8 0, .int .u8 0, .int .u8 0, .int .u8 0, .int .u8 0, .int .u8 0, .int .u8 0, .int .u8 0, .int .u8 0, .int .u8 0, .int .u8 0, .int .u8 0] 35)).setRow wA.heap.size (aN 16 (dec (kF l) 10 b)))) := Lib.hid ((HB.out.trans (hbA.mono HB.out.size)).trans (hbN.mono (HB.out.trans (hbA.mono HB.out.size)).size))
  have Hb15 := Lib.hid hN
  clear hN hbA hbN H4 H5 HCI Hb9 Hb11 Hb13 HB
  have H4 := H4'; clear H4'
  have H5 := H5'; clear H5'
  have HCI := HCI'; clear HCI'
  have Hb9 := Hb9'; clear Hb9'
  have Hb11 := Hb11'; clear Hb11'
  have Hb13 := Hb13'; clear Hb13'
  have HB := HB'; clear HB'
  generalize (wA.alloc (.cells #[.int .u8 0, .int .u8 0, .int .u8 0, .int .u8 0, .int .u8 0, .int .u8 0, .int .u8 0, .int .u8 0, .int .u8 0, .int .u8 0, .int .u8 0, .int .u8 0, .int .u8 0, .int .u8 0, .int .u8 0, .int .u8 0] 35)).setRow wA.heap.size (aN 16 (dec (kF l) 10 b)) = wrn at *
  generalize wA.heap.size = b15 at *
  try clear wr
  obtain ⟨wr, rfl⟩ : ∃ wr : World, wr = wrn := ⟨_, rfl⟩
  have dl : wr.heap[b15]? = some (.cells (aN 16 (dec (kF l) 10 b)) 35 (0, 0)) := Hb15.out
  go_wp2_with (refine wpList_load_row_g (by rfl) 35 (.tmp 15) rfl (b15) rfl 35 (aN 16 (dec (kF l) 10 b)) (0, 0) (.array 16 5) dl Try.underlying35 rfl (by rw [aN_size]; kernel_rfl) ?_)
  refine (enc_dec_any 10 (kF l) b c _ (by omega) (by omega) HBB.out HK.out HCI.out).mono ?_
  rintro e wA ⟨rfl, hbA⟩
  have dS := new_dS wA
  go_upto_region 11 with (refine wpList_store_row rfl 35 (.tmp 17) (.tmp 73) rfl (wA.heap.size) (aN 16 (b)) rfl rfl 35 _ dS (by rw [aN_size]; kernel_rfl) (by simp only [aN_size]) (aN_one _ _) ?_)
  obtain ⟨hN, hbN⟩ := new_row wA (b)
  clear dl dS
  have H4' : Hid (H16 ((wA.alloc (.cells #[.int .u8 0, .int .u8 0, .int .u8 0, .int .u8 0, .int .u8 0, .int .u8 0, .int .u8 0, .int .u8 0, .int .u8 0, .int .u8 0, .int .u8 0, .int .u8 0, .int .u8 0, .int .u8 0, .int .u8 0, .int .u8 0] 35)).setRow wA.heap.size (aN 16 (b))) (w.heap.size) (a)) := Lib.hid ((H4.out.call hbA).call hbN)
  have H5' : Hid (H16 ((wA.alloc (.cells #[.int .u8 0, .int .u8 0, .int .u8 0, .int .u8 0, .int .u8 0, .int .u8 0, .int .u8 0, .int .u8 0, .int .u8 0, .int .u8 0, .int .u8 0, .int .u8 0, .int .u8 0, .int .u8 0, .int .u8 0, .int .u8 0] 35)).setRow wA.heap.size (aN 16 (b))) (w.heap.size + 1) (b)) := Lib.hid ((H5.out.call hbA).call hbN)
  have HCI' : Hid (Ci 10 ((wA.alloc (.cells #[.int .u8 0, .int .u8 0, .int .u8 0, .int .u8 0, .int .u8 0, .int .u8 0, .int .u8 0, .int .u8 0, .int .u8 0, .int .u8 0, .int .u8 0, .int .u8 0, .int .u8 0, .int .u8 0, .int .u8 0, .int .u8 0] 35)).setRow wA.heap.size (aN 16 (b))) (c) (kF l)) := Lib.hid (Ci.go hbN (Ci.go hbA HCI.out))
  have Hb9' : Hid (H16 ((wA.alloc (.cells #[.int .u8 0, .int .u8 0, .int .u8 0, .int .u8 0, .int .u8 0, .int .u8 0, .int .u8 0, .int .u8 0, .int .u8 0, .int .u8 0, .int .u8 0, .int .u8 0, .int .u8 0, .int .u8 0, .int .u8 0, .int .u8 0] 35)).setRow wA.heap.size (aN 16 (b))) (b9) (enc (kF l) 10 a)) := Lib.hid ((Hb9.out.call hbA).call hbN)
  have Hb11' : Hid (H16 ((wA.alloc (.cells #[.int .u8 0, .int .u8 0, .int .u8 0, .int .u8 0, .int .u8 0, .int .u8 0, .int .u8 0, .int .u8 0, .int .u8 0, .int .u8 0, .int .u8 0, .int .u8 0, .int .u8 0, .int .u8 0, .int .u8 0, .int .u8 0] 35)).setRow wA.heap.size (aN 16 (b))) (b11) (enc (kF l) 10 b)) := Lib.hid ((Hb11.out.call hbA).call hbN)
  have Hb13' : Hid (H16 ((wA.alloc (.cells #[.int .u8 0, .int .u8 0, .int .u8 0, .int .u8 0, .int .u8 0, .int .u8 0, .int .u8 0, .int .u8 0, .int .u8 0, .int .u8 0, .int .u8 0, .int .u8 0, .int .u8 0, .int .u8 0, .int .u8 0, .int .u8 0] 35)).setRow wA.heap.size (aN 16 (b))) (b13) (a)) := Lib.hid ((Hb13.out.call hbA).call hbN)
  have HB' : Hid (Below w.heap.size w ((wA.alloc (.cells #[.int .u8 0, .int .u8 0, .int .u8 0, .int .u8 0, .int .u8 0, .int .u8 0, .int .u8 0, .int .u8 0, .int .u8 0, .int .u8 0, .int .u8 0, .int .u8 0, .int .u8 0, .int .u8 0, .int .u8 0, .int .u8 0] 35)).setRow wA.heap.size (aN 16 (b)))) := Lib.hid ((HB.out.trans (hbA.mono HB.out.size)).trans (hbN.mono (HB.out.trans (hbA.mono HB.out.size)).size))
  have Hb17 := Lib.hid hN
  clear hN hbA hbN H4 H5 HCI Hb9 Hb11 Hb13 HB
  have H4 := H4'; clear H4'
  have H5 := H5'; clear H5'
  have HCI := HCI'; clear HCI'
  have Hb9 := Hb9'; clear Hb9'
  have Hb11 := Hb11'; clear Hb11'
  have Hb13 := Hb13'; clear Hb13'
  have HB := HB'; clear HB'
  generalize (wA.alloc (.cells #[.int .u8 0, .int .u8 0, .int .u8 0, .int .u8 0, .int .u8 0, .int .u8 0, .int .u8 0, .int .u8 0, .int .u8 0, .int .u8 0, .int .u8 0, .int .u8 0, .int .u8 0, .int .u8 0, .int .u8 0, .int .u8 0] 35)).setRow wA.heap.size (aN 16 (b)) = wrn at *
  generalize wA.heap.size = b17 at *
  try clear wr
  obtain ⟨wr, rfl⟩ : ∃ wr : World, wr = wrn := ⟨_, rfl⟩
  have dl : wr.heap[w.heap.size]? = some (.cells (aN 16 (a)) 35 (0, 0)) := H4.out
  go_wp2_with (refine wpList_load_row_g (by rfl) 35 (.tmp 4) rfl (w.heap.size) rfl 35 (aN 16 (a)) (0, 0) (.array 16 5) dl Try.underlying35 rfl (by rw [aN_size]; kernel_rfl) ?_)
  refine (encrypt_any 10 (kF l) a c _ (by omega) (by omega) HAA.out HK.out HCI.out).mono ?_
  rintro e wA ⟨rfl, hbA⟩
  have dS := new_dS wA
  go_upto_region 12 with (refine wpList_store_row rfl 35 (.tmp 19) (.tmp 79) rfl (wA.heap.size) (aN 16 (enc (kF l) 10 a)) rfl rfl 35 _ dS (by rw [aN_size]; kernel_rfl) (by simp only [aN_size]) (aN_one _ _) ?_)
  obtain ⟨hN, hbN⟩ := new_row wA (enc (kF l) 10 a)
  clear dl dS
  have H4' : Hid (H16 ((wA.alloc (.cells #[.int .u8 0, .int .u8 0, .int .u8 0, .int .u8 0, .int .u8 0, .int .u8 0, .int .u8 0, .int .u8 0, .int .u8 0, .int .u8 0, .int .u8 0, .int .u8 0, .int .u8 0, .int .u8 0, .int .u8 0, .int .u8 0] 35)).setRow wA.heap.size (aN 16 (enc (kF l) 10 a))) (w.heap.size) (a)) := Lib.hid ((H4.out.call hbA).call hbN)
  have H5' : Hid (H16 ((wA.alloc (.cells #[.int .u8 0, .int .u8 0, .int .u8 0, .int .u8 0, .int .u8 0, .int .u8 0, .int .u8 0, .int .u8 0, .int .u8 0, .int .u8 0, .int .u8 0, .int .u8 0, .int .u8 0, .int .u8 0, .int .u8 0, .int .u8 0] 35)).setRow wA.heap.size (aN 16 (enc (kF l) 10 a))) (w.heap.size + 1) (b)) := Lib.hid ((H5.out.call hbA).call hbN)
  have HCI' : Hid (Ci 10 ((wA.alloc (.cells #[.int .u8 0, .int .u8 0, .int .u8 0, .int .u8 0, .int .u8 0, .int .u8 0, .int .u8 0, .int .u8 0, .int .u8 0, .int .u8 0, .int .u8 0, .int .u8 0, .int .u8 0, .int .u8 0, .int .u8 0, .int .u8 0] 35)).setRow wA.heap.size (aN 16 (enc (kF l) 10 a))) (c) (kF l)) := Lib.hid (Ci.go hbN (Ci.go hbA HCI.out))
  have Hb9' : Hid (H16 ((wA.alloc (.cells #[.int .u8 0, .int .u8 0, .int .u8 0, .int .u8 0, .int .u8 0, .int .u8 0, .int .u8 0, .int .u8 0, .int .u8 0, .int .u8 0, .int .u8 0, .int .u8 0, .int .u8 0, .int .u8 0, .int .u8 0, .int .u8 0] 35)).setRow wA.heap.size (aN 16 (enc (kF l) 10 a))) (b9) (enc (kF l) 10 a)) := Lib.hid ((Hb9.out.call hbA).call hbN)
  have Hb11' : Hid (H16 ((wA.alloc (.cells #[.int .u8 0, .int .u8 0, .int .u8 0, .int .u8 0, .int .u8 0, .int .u8 0, .int .u8 0, .int .u8 0, .int .u8 0, .int .u8 0, .int .u8 0, .int .u8 0, .int .u8 0, .int .u8 0, .int .u8 0, .int .u8 0] 35)).setRow wA.heap.size (aN 16 (enc (kF l) 10 a))) (b11) (enc (kF l) 10 b)) := Lib.hid ((Hb11.out.call hbA).call hbN)
  have Hb13' : Hid (H16 ((wA.alloc (.cells #[.int .u8 0, .int .u8 0, .int .u8 0, .int .u8 0, .int .u8 0, .int .u8 0, .int .u8 0, .int .u8 0, .int .u8 0, .int .u8 0, .int .u8 0, .int .u8 0, .int .u8 0, .int .u8 0, .int .u8 0, .int .u8 0] 35)).setRow wA.heap.size (aN 16 (enc (kF l) 10 a))) (b13) (a)) := Lib.hid ((Hb13.out.call hbA).call hbN)
  have Hb17' : Hid (H16 ((wA.alloc (.cells #[.int .u8 0, .int .u8 0, .int .u8 0, .int .u8 0, .int .u8 0, .int .u8 0, .int .u8 0, .int .u8 0, .int .u8 0, .int .u8 0, .int .u8 0, .int .u8 0, .int .u8 0, .int .u8 0, .int .u8 0, .int .u8 0] 35)).setRow wA.heap.size (aN 16 (enc (kF l) 10 a))) (b17) (b)) := Lib.hid ((Hb17.out.call hbA).call hbN)
  have HB' : Hid (Below w.heap.size w ((wA.alloc (.cells #[.int .u8 0, .int .u8 0, .int .u8 0, .int .u8 0, .int .u8 0, .int .u8 0, .int .u8 0, .int .u8 0, .int .u8 0, .int .u8 0, .int .u8 0, .int .u8 0, .int .u8 0, .int .u8 0, .int .u8 0, .int .u8 0] 35)).setRow wA.heap.size (aN 16 (enc (kF l) 10 a)))) := Lib.hid ((HB.out.trans (hbA.mono HB.out.size)).trans (hbN.mono (HB.out.trans (hbA.mono HB.out.size)).size))
  have Hb19 := Lib.hid hN
  clear hN hbA hbN H4 H5 HCI Hb9 Hb11 Hb13 Hb17 HB
  have H4 := H4'; clear H4'
  have H5 := H5'; clear H5'
  have HCI := HCI'; clear HCI'
  have Hb9 := Hb9'; clear Hb9'
  have Hb11 := Hb11'; clear Hb11'
  have Hb13 := Hb13'; clear Hb13'
  have Hb17 := Hb17'; clear Hb17'
  have HB := HB'; clear HB'
  generalize (wA.alloc (.cells #[.int .u8 0, .int .u8 0, .int .u8 0, .int .u8 0, .int .u8 0, .int .u8 0, .int .u8 0, .int .u8 0, .int .u8 0, .int .u8 0, .int .u8 0, .int .u8 0, .int .u8 0, .int .u8 0, .int .u8 0, .int .u8 0] 35)).setRow wA.heap.size (aN 16 (enc (kF l) 10 a)) = wrn at *
  generalize wA.heap.size = b19 at *
  try clear wr
  obtain ⟨wr, rfl⟩ : ∃ wr : World, wr = wrn := ⟨_, rfl⟩
  go_upto_region 14 with fail
  obtain ⟨s, hs⟩ : ∃ s, sameB a b = s := ⟨_, rfl⟩
  have hqaa := eqv a a true (sameB_true (E16.refl _))
  have hqbb := eqv b b true (sameB_true (E16.refl _))
  have hqxx := eqv (enc (kF l) 10 a) (enc (kF l) 10 a) true (sameB_true (E16.refl _))
  have hqab := eqv a b s hs
  have hqxy := eqv (enc (kF l) 10 a) (enc (kF l) 10 b) s ((same_enc (kF l) 10 a b HAA.out HBB.out HK.out).trans hs)
  have hg16 := guard16
  have hss : (s == s) = true := beq_self_eq_true s
  clear hs
  refine wp_region_noPanic ?_
  refine wp_region_held_drew (S := (fun w' => w'.rangeAt (b13) 0 (vl 16 (a)) ∧ w'.rangeAt (w.heap.size) 0 (vl 16 (a)) ∧ w'.rangeAt (b17) 0 (vl 16 (b)) ∧ w'.rangeAt (w.heap.size + 1) 0 (vl 16 (b)) ∧ w'.rangeAt (b9) 0 (vl 16 (enc (kF l) 10 a)) ∧ w'.rangeAt (b11) 0 (vl 16 (enc (kF l) 10 b)) ∧ w'.rangeAt (b19) 0 (vl 16 (enc (kF l) 10 a)))) (by kernel_rfl) ?_ (fun hHeld => ?_)
  · exact ⟨H16.range (w := wr.drew) Hb13.out, H16.range (w := wr.drew) H4.out, H16.range (w := wr.drew) Hb17.out, H16.range (w := wr.drew) H5.out, H16.range (w := wr.drew) Hb9.out, H16.range (w := wr.drew) Hb11.out, H16.range (w := wr.drew) Hb19.out⟩
  refine wpAnyH_take (i := 0) rfl (by kernel_rfl) (by kernel_rfl) (by kernel_rfl) (fun _ _ _ h => h) (yieldsIf_load_mid (by rfl) 35 (.tmp 13) rfl (b13) (0) rfl (vl 16 (a)) (.array 16 5) (fun _ h => h.1) Try.underlying35 rfl (by rw [vl_len]; exact block_size)) hHeld ?_
  try simp only [Act.put, List.getElem_toArray, List.getElem_cons_zero, List.getElem_cons_succ, List.setIfInBounds_toArray, List.set_cons_zero, List.set_cons_succ]
  refine wpAnyH_take (i := 1) rfl (by kernel_rfl) (by kernel_rfl) (by kernel_rfl) (fun _ _ _ h => h) (yieldsIf_load_mid (by rfl) 35 (.tmp 4) rfl (w.heap.size) (0) rfl (vl 16 (a)) (.array 16 5) (fun _ h => h.2.1) Try.underlying35 rfl (by rw [vl_len]; exact block_size)) hHeld ?_
  try simp only [Act.put, List.getElem_toArray, List.getElem_cons_zero, List.getElem_cons_succ, List.setIfInBounds_toArray, List.set_cons_zero, List.set_cons_succ]
  refine wpAnyH_take (i := 2) (v := ?_) rfl (by kernel_rfl) (by kernel_rfl) (by kernel_rfl) (fun _ _ _ h => h) (Or.inl ⟨by rfl, ?_⟩) hHeld ?_
  rotate_left
  · intro w' hSw
    (try dsimp only at hSw)
    go_simp
    try with_reducible rfl
  try simp only [Act.put, List.getElem_toArray, List.getElem_cons_zero, List.getElem_cons_succ, List.setIfInBounds_toArray, List.set_cons_zero, List.set_cons_succ]
  refine wpAnyH_take (i := 3) (v := ?_) rfl (by kernel_rfl) (by kernel_rfl) (by kernel_rfl) (fun _ _ _ h => h) (Or.inl ⟨by rfl, ?_⟩) hHeld ?_
  rotate_left
  · intro w' hSw
    (try dsimp only at hSw)
    go_simp
    try with_reducible rfl
  try simp only [Act.put, List.getElem_toArray, List.getElem_cons_zero, List.getElem_cons_succ, List.setIfInBounds_toArray, List.set_cons_zero, List.set_cons_succ]
  refine wpAnyH_take (i := 4) rfl (by kernel_rfl) (by kernel_rfl) (by kernel_rfl) (fun _ _ _ h => h) (yieldsIf_load_mid (by rfl) 35 (.tmp 17) rfl (b17) (0) rfl (vl 16 (b)) (.array 16 5) (fun _ h => h.2.2.1) Try.underlying35 rfl (by rw [vl_len]; exact block_size)) hHeld ?_
  try simp only [Act.put, List.getElem_toArray, List.getElem_cons_zero, List.getElem_cons_succ, List.setIfInBounds_toArray, List.set_cons_zero, List.set_cons_succ]
  refine wpAnyH_take (i := 5) rfl (by kernel_rfl) (by kernel_rfl) (by kernel_rfl) (fun _ _ _ h => h) (yieldsIf_load_mid (by rfl) 35 (.tmp 5) rfl (w.heap.size + 1) (0) rfl (vl 16 (b)) (.array 16 5) (fun _ h => h.2.2.2.1) Try.underlying35 rfl (by rw [vl_len]; exact block_size)) hHeld ?_
  try simp only [Act.put, List.getElem_toArray, List.getElem_cons_zero, List.getElem_cons_succ, List.setIfInBounds_toArray, List.set_cons_zero, List.set_cons_succ]
  refine wpAnyH_take (i := 6) (v := ?_) rfl (by kernel_rfl) (by kernel_rfl) (by kernel_rfl) (fun _ _ _ h => h) (Or.inl ⟨by rfl, ?_⟩) hHeld ?_
  rotate_left
  · intro w' hSw
    (try dsimp only at hSw)
    go_simp
    try with_reducible rfl
  try simp only [Act.put, List.getElem_toArray, List.getElem_cons_zero, List.getElem_cons_succ, List.setIfInBounds_toArray, List.set_cons_zero, List.set_cons_succ]
  refine wpAnyH_take (i := 7) (v := ?_) rfl (by kernel_rfl) (by kernel_rfl) (by kernel_rfl) (fun _ _ _ h => h) (Or.inl ⟨by rfl, ?_⟩) hHeld ?_
  rotate_left
  · intro w' hSw
    (try dsimp only at hSw)
    go_simp
    try with_reducible rfl
  try simp only [Act.put, List.getElem_toArray, List.getElem_cons_zero, List.getElem_cons_succ, List.setIfInBounds_toArray, List.set_cons_zero, List.set_cons_succ]
  refine wpAnyH_take (i := 8) (v := ?_) rfl (by kernel_rfl) (by kernel_rfl) (by kernel_rfl) (fun _ _ _ h => h) (Or.inl ⟨by rfl, ?_⟩) hHeld ?_
  rotate_left
  · intro w' hSw
    (try dsimp only at hSw)
    go_simp
    try with_reducible rfl
  try simp only [Act.put, List.getElem_toArray, List.getElem_cons_zero, List.getElem_cons_succ, List.setIfInBounds_toArray, List.set_cons_zero, List.set_cons_succ]
  refine wpAnyH_take (i := 9) rfl (by kernel_rfl) (by kernel_rfl) (by kernel_rfl) (fun _ _ _ h => h) (yieldsIf_load_mid (by rfl) 35 (.tmp 9) rfl (b9) (0) rfl (vl 16 (enc (kF l) 10 a)) (.array 16 5) (fun _ h => h.2.2.2.2.1) Try.underlying35 rfl (by rw [vl_len]; exact block_size)) hHeld ?_
  try simp only [Act.put, List.getElem_toArray, List.getElem_cons_zero, List.getElem_cons_succ, List.setIfInBounds_toArray, List.set_cons_zero, List.set_cons_succ]
  refine wpAnyH_take (i := 10) rfl (by kernel_rfl) (by kernel_rfl) (by kernel_rfl) (fun _ _ _ h => h) (yieldsIf_load_mid (by rfl) 35 (.tmp 11) rfl (b11) (0) rfl (vl 16 (enc (kF l) 10 b)) (.array 16 5) (fun _ h => h.2.2.2.2.2.1) Try.underlying35 rfl (by rw [vl_len]; exact block_size)) hHeld ?_
  try simp only [Act.put, List.getElem_toArray, List.getElem_cons_zero, List.getElem_cons_succ, List.setIfInBounds_toArray, List.set_cons_zero, List.set_cons_succ]
  refine wpAnyH_take (i := 11) (v := ?_) rfl (by kernel_rfl) (by kernel_rfl) (by kernel_rfl) (fun _ _ _ h => h) (Or.inl ⟨by rfl, ?_⟩) hHeld ?_
  rotate_left
  · intro w' hSw
    (try dsimp only at hSw)
    go_simp
    try with_reducible rfl
  try simp only [Act.put, List.getElem_toArray, List.getElem_cons_zero, List.getElem_cons_succ, List.setIfInBounds_toArray, List.set_cons_zero, List.set_cons_succ]
  refine wpAnyH_take (i := 12) rfl (by kernel_rfl) (by kernel_rfl) (by kernel_rfl) (fun _ _ _ h => h) (yieldsIf_load_mid (by rfl) 35 (.tmp 4) rfl (w.heap.size) (0) rfl (vl 16 (a)) (.array 16 5) (fun _ h => h.2.1) Try.underlying35 rfl (by rw [vl_len]; exact block_size)) hHeld ?_
  try simp only [Act.put, List.getElem_toArray, List.getElem_cons_zero, List.getElem_cons_succ, List.setIfInBounds_toArray, List.set_cons_zero, List.set_cons_succ]
  refine wpAnyH_take (i := 13) rfl (by kernel_rfl) (by kernel_rfl) (by kernel_rfl) (fun _ _ _ h => h) (yieldsIf_load_mid (by rfl) 35 (.tmp 5) rfl (w.heap.size + 1) (0) rfl (vl 16 (b)) (.array 16 5) (fun _ h => h.2.2.2.1) Try.underlying35 rfl (by rw [vl_len]; exact block_size)) hHeld ?_
  try simp only [Act.put, List.getElem_toArray, List.getElem_cons_zero, List.getElem_cons_succ, List.setIfInBounds_toArray, List.set_cons_zero, List.set_cons_succ]
  refine wpAnyH_take (i := 14) (v := ?_) rfl (by kernel_rfl) (by kernel_rfl) (by kernel_rfl) (fun _ _ _ h => h) (Or.inl ⟨by rfl, ?_⟩) hHeld ?_
  rotate_left
  · intro w' hSw
    (try dsimp only at hSw)
    go_simp
    try with_reducible rfl
  try simp only [Act.put, List.getElem_toArray, List.getElem_cons_zero, List.getElem_cons_succ, List.setIfInBounds_toArray, List.set_cons_zero, List.set_cons_succ]
  refine wpAnyH_take (i := 15) (v := ?_) rfl (by kernel_rfl) (by kernel_rfl) (by kernel_rfl) (fun _ _ _ h => h) (Or.inl ⟨by rfl, ?_⟩) hHeld ?_
  rotate_left
  · intro w' hSw
    (try dsimp only at hSw)
    go_simp
    try with_reducible rfl
  try simp only [Act.put, List.getElem_toArray, List.getElem_cons_zero, List.getElem_cons_succ, List.setIfInBounds_toArray, List.set_cons_zero, List.set_cons_succ]
  refine wpAnyH_take (i := 16) (v := ?_) rfl (by kernel_rfl) (by kernel_rfl) (by kernel_rfl) (fun _ _ _ h => h) (Or.inl ⟨by rfl, ?_⟩) hHeld ?_
  rotate_left
  · intro w' hSw
    (try dsimp only at hSw)
    go_simp
    try with_reducible rfl
  try simp only [Act.put, List.getElem_toArray, List.getElem_cons_zero, List.getElem_cons_succ, List.setIfInBounds_toArray, List.set_cons_zero, List.set_cons_succ]
  refine wpAnyH_take (i := 17) (v := ?_) rfl (by kernel_rfl) (by kernel_rfl) (by kernel_rfl) (fun _ _ _ h => h) (Or.inl ⟨by rfl, ?_⟩) hHeld ?_
  rotate_left
  · intro w' hSw
    (try dsimp only at hSw)
    go_simp
    try with_reducible rfl
  try simp only [Act.put, List.getElem_toArray, List.getElem_cons_zero, List.getElem_cons_succ, List.setIfInBounds_toArray, List.set_cons_zero, List.set_cons_succ]
  refine wpAnyH_take (i := 18) rfl (by kernel_rfl) (by kernel_rfl) (by kernel_rfl) (fun _ _ _ h => h) (yieldsIf_load_mid (by rfl) 35 (.tmp 19) rfl (b19) (0) rfl (vl 16 (enc (kF l) 10 a)) (.array 16 5) (fun _ h => h.2.2.2.2.2.2) Try.underlying35 rfl (by rw [vl_len]; exact block_size)) hHeld ?_
  try simp only [Act.put, List.getElem_toArray, List.getElem_cons_zero, List.getElem_cons_succ, List.setIfInBounds_toArray, List.set_cons_zero, List.set_cons_succ]
  refine wpAnyH_take (i := 19) rfl (by kernel_rfl) (by kernel_rfl) (by kernel_rfl) (fun _ _ _ h => h) (yieldsIf_load_mid (by rfl) 35 (.tmp 9) rfl (b9) (0) rfl (vl 16 (enc (kF l) 10 a)) (.array 16 5) (fun _ h => h.2.2.2.2.1) Try.underlying35 rfl (by rw [vl_len]; exact block_size)) hHeld ?_
  try simp only [Act.put, List.getElem_toArray, List.getElem_cons_zero, List.getElem_cons_succ, List.setIfInBounds_toArray, List.set_cons_zero, List.set_cons_succ]
  refine wpAnyH_take (i := 20) (v := ?_) rfl (by kernel_rfl) (by kernel_rfl) (by kernel_rfl) (fun _ _ _ h => h) (Or.inl ⟨by rfl, ?_⟩) hHeld ?_
  rotate_left
  · intro w' hSw
    (try dsimp only at hSw)
    go_simp
    try with_reducible rfl
  try simp only [Act.put, List.getElem_toArray, List.getElem_cons_zero, List.getElem_cons_succ, List.setIfInBounds_toArray, List.set_cons_zero, List.set_cons_succ]
  refine wpAnyH_take (i := 21) (v := ?_) rfl (by kernel_rfl) (by kernel_rfl) (by kernel_rfl) (fun _ _ _ h => h) (Or.inl ⟨by rfl, ?_⟩) hHeld ?_
  rotate_left
  · intro w' hSw
    (try dsimp only at hSw)
    go_simp
    try with_reducible rfl
  try simp only [Act.put, List.getElem_toArray, List.getElem_cons_zero, List.getElem_cons_succ, List.setIfInBounds_toArray, List.set_cons_zero, List.set_cons_succ]
  refine wpAnyH_take (i := 22) (v := ?_) rfl (by kernel_rfl) (by kernel_rfl) (by kernel_rfl) (fun _ _ _ h => h) (Or.inl ⟨by rfl, ?_⟩) hHeld ?_
  rotate_left
  · intro w' hSw
    (try dsimp only at hSw)
    go_simp
    try with_reducible rfl
  try simp only [Act.put, List.getElem_toArray, List.getElem_cons_zero, List.getElem_cons_succ, List.setIfInBounds_toArray, List.set_cons_zero, List.set_cons_succ]
  refine wpAnyH_ready (rs := [23]) (by kernel_rfl) (by simp) ?_
  refine AllReadyH.cons rfl (fun K hK => ?_) (AllReadyH.nil)
  · try simp only [List.getElem_toArray, List.getElem_cons_zero, List.getElem_cons_succ]
    go_simp
    refine (known03_any _).mono ?_
    rintro e wy ⟨rfl, hby⟩
    refine hK.out _ _ ?_ (fun hHeld => ?_)
    · exact ⟨range_call hby hHeld.1, range_call hby hHeld.2.1, range_call hby hHeld.2.2.1, range_call hby hHeld.2.2.2.1, range_call hby hHeld.2.2.2.2.1, range_call hby hHeld.2.2.2.2.2.1, range_call hby hHeld.2.2.2.2.2.2⟩
    clear hK K
    try simp only [Act.put, List.getElem_toArray, List.getElem_cons_zero, List.getElem_cons_succ, List.setIfInBounds_toArray, List.set_cons_zero, List.set_cons_succ]
    refine wpAnyH_take (i := 24) (v := ?_) rfl (by kernel_rfl) (by kernel_rfl) (by kernel_rfl) (fun _ _ _ h => h) (Or.inl ⟨by rfl, ?_⟩) hHeld ?_
    rotate_left
    · intro w' hSw
      (try dsimp only at hSw)
      go_simp
      try with_reducible rfl
    try simp only [Act.put, List.getElem_toArray, List.getElem_cons_zero, List.getElem_cons_succ, List.setIfInBounds_toArray, List.set_cons_zero, List.set_cons_succ]
    refine wpAnyH_take (i := 25) (v := ?_) rfl (by kernel_rfl) (by kernel_rfl) (by kernel_rfl) (fun _ _ _ h => h) (Or.inl ⟨by rfl, ?_⟩) hHeld ?_
    rotate_left
    · intro w' hSw
      (try dsimp only at hSw)
      go_simp
      try with_reducible rfl
    try simp only [Act.put, List.getElem_toArray, List.getElem_cons_zero, List.getElem_cons_succ, List.setIfInBounds_toArray, List.set_cons_zero, List.set_cons_succ]
    refine wpAnyH_done (by kernel_rfl) ?_ _
    refine NoPanic.normal ?_
    go_wp2_with fail
    go_ret
    exact ⟨rfl, HB.out.drew.trans (hby.mono HB.out.size)⟩

set_option maxRecDepth 100000 in
set_option maxHeartbeats 4000000 in
theorem aback32_any (A : Option Addr) (l : List Nat) (cap : Nat) (a b : Nat → Nat) (hn : l.length = 32) (hl : ∀ x ∈ l, x < 256) (hcap : 32 ≤ cap) (ha : B16 a) (hb : B16 b) (w : World) (h : Rd w w.heap.size A (vn l)) :
    Calls Try.prog 7 #[.slice A 32 cap, .agg (aN 16 a), .agg (aN 16 b)] w fun e w' => e = .returned (.bool true) ∧ Below w.heap.size w w' := by
  have h4 : H16 ((w.alloc (.cells (aN 16 a) 35)).alloc (.cells (aN 16 b) 35)) w.heap.size a := (H16.newAt rfl).alloc _
  have h5 : H16 ((w.alloc (.cells (aN 16 a) 35)).alloc (.cells (aN 16 b) 35)) (w.heap.size + 1) b := H16.newAt (w := w.alloc (.cells (aN 16 a) 35)) (by rw [World.size_alloc])
  have hB : Below w.heap.size w ((w.alloc (.cells (aN 16 a) 35)).alloc (.cells (aN 16 b) 35)) := ((Below.refl _ _).alloc (Nat.le_refl _) _).alloc (by simp) _
  have HN := Lib.hid (new32_any A l cap hn hcap hl _ (h.go hB))
  have H4 := Lib.hid h4; clear h4
  have H5 := Lib.hid h5; clear h5
  have HB := Lib.hid hB; clear hB h hn hcap
  have HAA := Lib.hid ha; clear ha
  have HBB := Lib.hid hb; clear hb
  have HK : Hid (BK (kF l) 14) := Lib.hid (kF_bk l hl 14)
  clear hl
  go_enter Try.func7, Try.ntmps7
  go_wp2_with fail
  generalize (w.alloc (.cells (aN 16 a) 35)).alloc (.cells (aN 16 b) 35) = w1 at *
  refine HN.out.mono ?_
  rintro e wr ⟨c, rfl, hcc, hb3⟩
  have HCI := Lib.hid hcc; clear hcc HN
  have H4' : Hid (H16 wr w.heap.size a) := Lib.hid (H4.out.call hb3)
  have H5' : Hid (H16 wr (w.heap.size + 1) b) := Lib.hid (H5.out.call hb3)
  have HB' : Hid (Below w.heap.size w wr) := Lib.hid (HB.out.trans (hb3.mono HB.out.size))
  clear H4 H5 HB hb3
  have H4 := H4'; have H5 := H5'; have HB := HB'
  clear H4' H5' HB'
  go_upto_region 6 with fail
  have dl : wr.heap[w.heap.size]? = some (.cells (aN 16 (a)) 35 (0, 0)) := H4.out
  go_wp2_with (refine wpList_load_row_g (by rfl) 35 (.tmp 4) rfl (w.heap.size) rfl 35 (aN 16 (a)) (0, 0) (.array 16 5) dl Try.underlying35 rfl (by rw [aN_size]; kernel_rfl) ?_)
  refine (encrypt_any 14 (kF l) a c _ (by omega) (by omega) HAA.out HK.out HCI.out).mono ?_
  rintro e wA ⟨rfl, hbA⟩
  have dS := new_dS wA
  go_upto_region 7 with (refine wpList_store_row rfl 35 (.tmp 9) (.tmp 49) rfl (wA.heap.size) (aN 16 (enc (kF l) 14 a)) rfl rfl 35 _ dS (by rw [aN_size]; kernel_rfl) (by simp only [aN_size]) (aN_one _ _) ?_)
  obtain ⟨hN, hbN⟩ := new_row wA (enc (kF l) 14 a)
  clear dl dS
  have H4' : Hid (H16 ((wA.alloc (.cells #[.int .u8 0, .int .u8 0, .int .u8 0, .int .u8 0, .int .u8 0, .int .u8 0, .int .u8 0, .int .u8 0, .int .u8 0, .int .u8 0, .int .u8 0, .int .u8 0, .int .u8 0, .int .u8 0, .int .u8 0, .int .u8 0] 35)).setRow wA.heap.size (aN 16 (enc (kF l) 14 a))) (w.heap.size) (a)) := Lib.hid ((H4.out.call hbA).call hbN)
  have H5' : Hid (H16 ((wA.alloc (.cells #[.int .u8 0, .int .u8 0, .int .u8 0, .int .u8 0, .int .u8 0, .int .u8 0, .int .u8 0, .int .u8 0, .int .u8 0, .int .u8 0, .int .u8 0, .int .u8 0, .int .u8 0, .int .u8 0, .int .u8 0, .int .u8 0] 35)).setRow wA.heap.size (aN 16 (enc (kF l) 14 a))) (w.heap.size + 1) (b)) := Lib.hid ((H5.out.call hbA).call hbN)
  have HCI' : Hid (Ci 14 ((wA.alloc (.cells #[.int .u8 0, .int .u8 0, .int .u8 0, .int .u8 0, .int .u8 0, .int .u8 0, .int .u8 0, .int .u8 0, .int .u8 0, .int .u8 0, .int .u8 0, .int .u8 0, .int .u8 0, .int .u8 0, .int .u8 0, .int .u8 0] 35)).setRow wA.heap.size (aN 16 (enc (kF l) 14 a))) (c) (kF l)) := Lib.hid (Ci.go hbN (Ci.go hbA HCI.out))
  have HB' : Hid (Below w.heap.size w ((wA.alloc (.cells #[.int .u8 0, .int .u8 0, .int .u8 0, .int .u8 0, .int .u8 0, .int .u8 0, .int .u8 0, .int .u8 0, .int .u8 0, .int .u8 0, .int .u8 0, .int .u8 0, .int .u8 0, .int .u8 0, .int .u8 0, .int .u8 0] 35)).setRow wA.heap.size (aN 16 (enc (kF l) 14 a)))) := Lib.hid ((HB.out.trans (hbA.mono HB.out.size)).trans (hbN.mono (HB.out.trans (hbA.mono HB.out.size)).size))
  have Hb9 := Lib.hid hN
  clear hN hbA hbN H4 H5 HCI HB
  have H4 := H4'; clear H4'
  have H5 := H5'; clear H5'
  have HCI := HCI'; clear HCI'
  have HB := HB'; clear HB'
  generalize (wA.alloc (.cells #[.int .u8 0, .int .u8 0, .int .u8 0, .int .u8 0, .int .u8 0, .int .u8 0, .int .u8 0, .int .u8 0, .int .u8 0, .int .u8 0, .int .u8 0, .int .u8 0, .int .u8 0, .int .u8 0, .int .u8 0, .int .u8 0] 35)).setRow wA.heap.size (aN 16 (enc (kF l) 14 a)) = wrn at *
  generalize wA.heap.size = b9 at *
  try clear wr
  obtain ⟨wr, rfl⟩ : ∃ wr : World, wr = wrn := ⟨_, rfl⟩
  have dl : wr.heap[w.heap.size + 1]? = some (.cells (aN 16 (b)) 35 (0, 0)) := H5.out
  go_wp2_with (refine wpList_load_row_g (by rfl) 35 (.tmp 5) rfl (w.heap.size + 1) rfl 35 (aN 16 (b)) (0, 0) (.array 16 5) dl Try.underlying35 rfl (by rw [aN_size]; kernel_rfl) ?_)
  refine (encrypt_any 14 (kF l) b c _ (by omega) (by omega) HBB.out HK.out HCI.out).mono ?_
  rintro e wA ⟨rfl, hbA⟩
  have dS := new_dS wA
  go_upto_region 8 with (refine wpList_store_row rfl 35 (.tmp 11) (.tmp 55) rfl (wA.heap.size) (aN 16 (enc (kF l) 14 b)) rfl rfl 35 _ dS (by rw [aN_size]; kernel_rfl) (by simp only [aN_size]) (aN_one _ _) ?_)
  obtain ⟨hN, hbN⟩ := new_row wA (enc (kF l) 14 b)
  clear dl dS
  have H4' : Hid (H16 ((wA.alloc (.cells #[.int .u8 0, .int .u8 0, .int .u8 0, .int .u8 0, .int .u8 0, .int .u8 0, .int .u8 0, .int .u8 0, .int .u8 0, .int .u8 0, .int .u8 0, .int .u8 0, .int .u8 0, .int .u8 0, .int .u8 0, .int .u8 0] 35)).setRow wA.heap.size (aN 16 (enc (kF l) 14 b))) (w.heap.size) (a)) := Lib.hid ((H4.out.call hbA).call hbN)
  have H5' : Hid (H16 ((wA.alloc (.cells #[.int .u8 0, .int .u8 0, .int .u8 0, .int .u8 0, .int .u8 0, .int .u8 0, .int .u8 0, .int .u8 0, .int .u8 0, .int .u8 0, .int .u8 0, .int .u8 0, .int .u8 0, .int .u8 0, .int .u8 0, .int .u8 0] 35)).setRow wA.heap.size (aN 16 (enc (kF l) 14 b))) (w.heap.size + 1) (b)) := Lib.hid ((H5.out.call hbA).call hbN)
  have HCI' : Hid (Ci 14 ((wA.alloc (.cells #[.int .u8 0, .int .u8 0, .int .u8 0, .int .u8 0, .int .u8 0, .int .u8 0, .int .u8 0, .int .u8 0, .int .u8 0, .int .u8 0, .int .u8 0, .int .u8 0, .int .u8 0, .int .u8 0, .int .u8 0, .int .u8 0] 35)).setRow wA.heap.size (aN 16 (enc (kF l) 14 b))) (c) (kF l)) := Lib.hid (Ci.go hbN (Ci.go hbA HCI.out))
  have Hb9' : Hid (H16 ((wA.alloc (.cells #[.int .u8 0, .int .u8 0, .int .u8 0, .int .u8 0, .int .u8 0, .int .u8 0, .int .u8 0, .int .u8 0, .int .u8 0, .int .u8 0, .int .u8 0, .int .u8 0, .int .u8 0, .int .u8 0, .int .u8 0, .int .u8 0] 35)).setRow wA.heap.size (aN 16 (enc (kF l) 14 b))) (b9) (enc (kF l) 14 a)) := Lib.hid ((Hb9.out.call hbA).call hbN)
  have HB' : Hid (Below w.heap.size w ((wA.alloc (.cells #[.int .u8 0, .int .u8 0, .int .u8 0, .int .u8 0, .int .u8 0, .int .u8 0, .int .u8 0, .int .u8 0, .int .u8 0, .int .u8 0, .int .u8 0, .int .u8 0, .int .u8 0, .int .u8 0, .int .u8 0, .int .u8 0] 35)).setRow wA.heap.size (aN 16 (enc (kF l) 14 b)))) := Lib.hid ((HB.out.trans (hbA.mono HB.out.size)).trans (hbN.mono (HB.out.trans (hbA.mono HB.out.size)).size))
  have Hb11 := Lib.hid hN
  clear hN hbA hbN H4 H5 HCI Hb9 HB
  have H4 := H4'; clear H4'
  have H5 := H5'; clear H5'
  have HCI := HCI'; clear HCI'
  have Hb9 := Hb9'; clear Hb9'
  have HB := HB'; clear HB'
  generalize (wA.alloc (.cells #[.int .u8 0, .int .u8 0, .int .u8 0, .int .u8 0, .int .u8 0, .int .u8 0, .int .u8 0, .int .u8 0, .int .u8 0, .int .u8 0, .int .u8 0, .int .u8 0, .int .u8 0, .int .u8 0, .int .u8 0, .int .u8 0] 35)).setRow wA.heap.size (aN 16 (enc (kF l) 14 b)) = wrn at *
  generalize wA.heap.size = b11 at *
  try clear wr
  obtain ⟨wr, rfl⟩ : ∃ wr : World, wr = wrn := ⟨_, rfl⟩
  have dl : wr.heap[b9]? = some (.cells (aN 16 (enc (kF l) 14 a)) 35 (0, 0)) := Hb9.out
  go_wp2_with (refine wpList_load_row_g (by rfl) 35 (.tmp 9) rfl (b9) rfl 35 (aN 16 (enc (kF l) 14 a)) (0, 0) (.array 16 5) dl Try.underlying35 rfl (by rw [aN_size]; kernel_rfl) ?_)
  refine (dec_enc_any 14 (kF l) a c _ (by omega) (by omega) HAA.out HK.out HCI.out).mono ?_
  rintro e wA ⟨rfl, hbA⟩
  have dS := new_dS wA
  go_upto_region 9 with (refine wpList_store_row rfl 35 (.tmp 13) (.tmp 61) rfl (wA.heap.size) (aN 16 (a)) rfl rfl 35 _ dS (by rw [aN_size]; kernel_rfl) (by simp only [aN_size]) (aN_one _ _) ?_)
  obtain ⟨hN, hbN⟩ := new_row wA (a)
  clear dl dS
  have H4' : Hid (H16 ((wA.alloc (.cells #[.int .u8 0, .int .u8 0, .int .u8 0, .int .u8 0, .int .u8 0, .int .u8 0, .int .u8 0, .int .u8 0, .int .u8 0, .int .u8 0, .int .u8 0, .int .u8 0, .int .u8 0, .int .u8 0, .int .u8 0, .int .u8 0] 35)).setRow wA.heap.size (aN 16 (a))) (w.heap.size) (a)) := Lib.hid ((H4.out.call hbA).call hbN)
  have H5' : Hid (H16 ((wA.alloc (.cells #[.int .u8 0, .int .u8 0, .int .u8 0, .int .u8 0, .int .u8 0, .int .u8 0, .int .u8 0, .int .u8 0, .int .u8 0, .int .u8 0, .int .u8 0, .int .u8 0, .int .u8 0, .int .u8 0, .int .u8 0, .int .u8 0] 35)).setRow wA.heap.size (aN 16 (a))) (w.heap.size + 1) (b)) := Lib.hid ((H5.out.call hbA).call hbN)
  have HCI' : Hid (Ci 14 ((wA.alloc (.cells #[.int .u8 0, .int .u8 0, .int .u8 0, .int .u8 0, .int .u8 0, .int .u8 0, .int .u8 0, .int .u8 0, .int .u8 0, .int .u8 0, .int .u8 0, .int .u8 0, .int .u8 0, .int .u8 0, .int .u8 0, .int .u8 0] 35)).setRow wA.heap.size (aN 16 (a))) (c) (kF l)) := Lib.hid (Ci.go hbN (Ci.go hbA HCI.out))
  have Hb9' : Hid (H16 ((wA.alloc (.cells #[.int .u8 0, .int .u8 0, .int .u8 0, .int .u8 0, .int .u8 0, .int .u8 0, .int .u8 0, .int .u8 0, .int .u8 0, .int .u8 0, .int .u8 0, .int .u8 0, .int .u8 0, .int .u8 0, .int .u8 0, .int .u8 0] 35)).setRow wA.heap.size (aN 16 (a))) (b9) (enc (kF l) 14 a)) := Lib.hid ((Hb9.out.call hbA).call hbN)
  have Hb11' : Hid (H16 ((wA.alloc (.cells #[.int .u8 0, .int .u8 0, .int .u8 0, .int .u8 0, .int .u8 0, .int .u8 0, .int .u8 0, .int .u8 0, .int .u8 0, .int .u8 0, .int .u8 0, .int .u8 0, .int .u8 0, .int .u8 0, .int .u8 0, .int .u8 0] 35)).setRow wA.heap.size (aN 16 (a))) (b11) (enc (kF l) 14 b)) := Lib.hid ((Hb11.out.call hbA).call hbN)
  have HB' : Hid (Below w.heap.size w ((wA.alloc (.cells #[.int .u8 0, .int .u8 0, .int .u8 0, .int .u8 0, .int .u8 0, .int .u8 0, .int .u8 0, .int .u8 0, .int .u8 0, .int .u8 0, .int .u8 0, .int .u8 0, .int .u8 0, .int .u8 0, .int .u8 0, .int .u8 0] 35)).setRow wA.heap.size (aN 16 (a)))) := Lib.hid ((HB.out.trans (hbA.mono HB.out.size)).trans (hbN.mono (HB.out.trans (hbA.mono HB.out.size)).size))
  have Hb13 := Lib.hid hN
  clear hN hbA hbN H4 H5 HCI Hb9 Hb11 HB
  have H4 := H4'; clear H4'
  have H5 := H5'; clear H5'
  have HCI := HCI'; clear HCI'
  have Hb9 := Hb9'; clear Hb9'
  have Hb11 := Hb11'; clear Hb11'
  have HB := HB'; clear HB'
  generalize (wA.alloc (.cells #[.int .u8 0, .int .u8 0, .int .u8 0, .int .u8 0, .int .u8 0, .int .u8 0, .int .u8 0, .int .u8 0, .int .u8 0, .int .u8 0, .int .u8 0, .int .u8 0, .int .u8 0, .int .u8 0, .int .u8 0, .int .u8 0] 35)).setRow wA.heap.size (aN 16 (a)) = wrn at *
  generalize wA.heap.size = b13 at *
  try clear wr
  obtain ⟨wr, rfl⟩ : ∃ wr : World, wr = wrn := ⟨_, rfl⟩
  have dl : wr.heap[w.heap.size + 1]? = some (.cells (aN 16 (b)) 35 (0, 0)) := H5.out
  go_wp2_with (refine wpList_load_row_g (by rfl) 35 (.tmp 5) rfl (w.heap.size + 1) rfl 35 (aN 16 (b)) (0, 0) (.array 16 5) dl Try.underlying35 rfl (by rw [aN_size]; kernel_rfl) ?_)
  refine (decrypt_any 14 (kF l) b c _ (by omega) (by omega) HBB.out HK.out HCI.out).mono ?_
  rintro e wA ⟨rfl, hbA⟩
  have dS := new_dS wA
  go_upto_region 10 with (refine wpList_store_row rfl 35 (.tmp 15) (.tmp 67) rfl (wA.heap.size) (aN 16 (dec (kF l) 14 b)) rfl rfl 35 _ dS (by rw [aN_size]; kernel_rfl) (by simp only [aN_size]) (aN_one _ _) ?_)
  obtain ⟨hN, hbN⟩ := new_row wA (dec (kF l) 14 b)
  clear dl dS
  have H4' : Hid (H16 ((wA.alloc (.cells #[.int .u8 0, .int .u8 0, .int .u8 0, .int .u8 0, .int .u8 0, .int .u8 0, .int .u8 0, .int .u8 0, .int .u8 0, .int .u8 0, .int .u8 0, .int .u8 0, .int .u8 0, .int .u8 0, .int .u8 0, .int .u8 0] 35)).setRow wA.heap.size (aN 16 (dec (kF l) 14 b))) (w.heap.size) (a)) := Lib.hid ((H4.out.call hbA).call hbN)
  have H5' : Hid (H16 ((wA.alloc (.cells #[.int .u8 0, .int .u8 0, .int .u8 0, .int .u8 0, .int .u8 0, .int .u8 0, .int .u8 0, .int .u8 0, .int .u8 0, .int .u8 0, .int .u8 0, .int .u8 0, .int .u8 0, .int .u8 0, .int .u8 0, .int .u8 0] 35)).setRow wA.heap.size (aN 16 (dec (kF l) 14 b))) (w.heap.size + 1) (b)) := Lib.hid ((H5.out.call hbA).call hbN)
  have HCI' : Hid (Ci 14 ((wA.alloc (.cells #[.int .u8 0, .int .u8 0, .int .u8 0, .int .u8 0, .int .u8 0, .int .u8 0, .int .u8 0, .int .u8 0, .int .u8 0, .int .u8 0, .int .u8 0, .int .u8 0, .int .u8 0, .int .u8 0, .int .u8 0, .int .u8 0] 35)).setRow wA.heap.size (aN 16 (dec (kF l) 14 b))) (c) (kF l)) := Lib.hid (Ci.go hbN (Ci.go hbA HCI.out))
  have Hb9' : Hid (H16 ((wA.alloc (.cells #[.int .u8 0, .int .u8 0, .int .u8 0, .int .u8 0, .int .u8 0, .int .u8 0, .int .u8 0, .int .u8 0, .int .u8 0, .int .u8 0, .int .u8 0, .int .u8 0, .int .u8 0, .int .u8 0, .int .u8 0, .int .u8 0] 35)).setRow wA.heap.size (aN 16 (dec (kF l) 14 b))) (b9) (enc (kF l) 14 a)) := Lib.hid ((Hb9.out.call hbA).call hbN)
  have Hb11' : Hid (H16 ((wA.alloc (.cells #[.int .u8 0, .int .u8 0, .int .u8 0, .int .u8 0, .int .u8 0, .int .u8 0, .int .u8 0, .int .u8 0, .int .u8 0, .int .u8 0, .int .u8 0, .int .u8 0, .int .u8 0, .int .u8 0, .int .u8 0, .int .u8 0] 35)).setRow wA.heap.size (aN 16 (dec (kF l) 14 b))) (b11) (enc (kF l) 14 b)) := Lib.hid ((Hb11.out.call hbA).call hbN)
  have Hb13' : Hid (H16 ((wA.alloc (.cells #[.int .u8 0, .int .u8 0, .int .u8 0, .int .u8 0, .int .u8 0, .int .u8 0, .int .u8 0, .int .u8 0, .int .u8 0, .int .u8 0, .int .u8 0, .int .u8 0, .int .u8 0, .int .u8 0, .int .u8 0, .int .u8 0] 35)).setRow wA.heap.size (aN 16 (dec (kF l) 14 b))) (b13) (a)) := Lib.hid ((Hb13.out.call hbA).call hbN)
  have HB' : Hid (Below w.heap.size w ((wA.alloc (.cells #[.int .u8 0, .int .u8 0, .int .u8 0, .int .u8 0, .int .u8 0, .int .u8 0, .int .u8 0, .int .u8 0, .int .u8 0, .int .u8 0, .int .u8 0, .int .u8 0, .int .u8 0, .int .u8 0, .int .u8 0, .int .u8 0] 35)).setRow wA.heap.size (aN 16 (dec (kF l) 14 b)))) := Lib.hid ((HB.out.trans (hbA.mono HB.out.size)).trans (hbN.mono (HB.out.trans (hbA.mono HB.out.size)).size))
  have Hb15 := Lib.hid hN
  clear hN hbA hbN H4 H5 HCI Hb9 Hb11 Hb13 HB
  have H4 := H4'; clear H4'
  have H5 := H5'; clear H5'
  have HCI := HCI'; clear HCI'
  have Hb9 := Hb9'; clear Hb9'
  have Hb11 := Hb11'; clear Hb11'
  have Hb13 := Hb13'; clear Hb13'
  have HB := HB'; clear HB'
  generalize (wA.alloc (.cells #[.int .u8 0, .int .u8 0, .int .u8 0, .int .u8 0, .int .u8 0, .int .u8 0, .int .u8 0, .int .u8 0, .int .u8 0, .int .u8 0, .int .u8 0, .int .u8 0, .int .u8 0, .int .u8 0, .int .u8 0, .int .u8 0] 35)).setRow wA.heap.size (aN 16 (dec (kF l) 14 b)) = wrn at *
  generalize wA.heap.size = b15 at *
  try clear wr
  obtain ⟨wr, rfl⟩ : ∃ wr : World, wr = wrn := ⟨_, rfl⟩
  have dl : wr.heap[b15]? = some (.cells (aN 16 (dec (kF l) 14 b)) 35 (0, 0)) := Hb15.out
  go_wp2_with (refine wpList_load_row_g (by rfl) 35 (.tmp 15) rfl (b15) rfl 35 (aN 16 (dec (kF l) 14 b)) (0, 0) (.array 16 5) dl Try.underlying35 rfl (by rw [aN_size]; kernel_rfl) ?_)
  refine (enc_dec_any 14 (kF l) b c _ (by omega) (by omega) HBB.out HK.out HCI.out).mono ?_
  rintro e wA ⟨rfl, hbA⟩
  have dS := new_dS wA
  go_upto_region 11 with (refine wpList_store_row rfl 35 (.tmp 17) (.tmp 73) rfl (wA.heap.size) (aN 16 (b)) rfl rfl 35 _ dS (by rw [aN_size]; kernel_rfl) (by simp only [aN_size]) (aN_one _ _) ?_)
  obtain ⟨hN, hbN⟩ := new_row wA (b)
  clear dl dS
  have H4' : Hid (H16 ((wA.alloc (.cells #[.int .u8 0, .int .u8 0, .int .u8 0, .int .u8 0, .int .u8 0, .int .u8 0, .int .u8 0, .int .u8 0, .int .u8 0, .int .u8 0, .int .u8 0, .int .u8 0, .int .u8 0, .int .u8 0, .int .u8 0, .int .u8 0] 35)).setRow wA.heap.size (aN 16 (b))) (w.heap.size) (a)) := Lib.hid ((H4.out.call hbA).call hbN)
  have H5' : Hid (H16 ((wA.alloc (.cells #[.int .u8 0, .int .u8 0, .int .u8 0, .int .u8 0, .int .u8 0, .int .u8 0, .int .u8 0, .int .u8 0, .int .u8 0, .int .u8 0, .int .u8 0, .int .u8 0, .int .u8 0, .int .u8 0, .int .u8 0, .int .u8 0] 35)).setRow wA.heap.size (aN 16 (b))) (w.heap.size + 1) (b)) := Lib.hid ((H5.out.call hbA).call hbN)
  have HCI' : Hid (Ci 14 ((wA.alloc (.cells #[.int .u8 0, .int .u8 0, .int .u8 0, .int .u8 0, .int .u8 0, .int .u8 0, .int .u8 0, .int .u8 0, .int .u8 0, .int .u8 0, .int .u8 0, .int .u8 0, .int .u8 0, .int .u8 0, .int .u8 0, .int .u8 0] 35)).setRow wA.heap.size (aN 16 (b))) (c) (kF l)) := Lib.hid (Ci.go hbN (Ci.go hbA HCI.out))
  have Hb9' : Hid (H16 ((wA.alloc (.cells #[.int .u8 0, .int .u8 0, .int .u8 0, .int .u8 0, .int .u8 0, .int .u8 0, .int .u8 0, .int .u8 0, .int .u8 0, .int .u8 0, .int .u8 0, .int .u8 0, .int .u8 0, .int .u8 0, .int .u8 0, .int .u8 0] 35)).setRow wA.heap.size (aN 16 (b))) (b9) (enc (kF l) 14 a)) := Lib.hid ((Hb9.out.call hbA).call hbN)
  have Hb11' : Hid (H16 ((wA.alloc (.cells #[.int .u8 0, .int .u8 0, .int .u8 0, .int .u8 0, .int .u8 0, .int .u8 0, .int .u8 0, .int .u8 0, .int .u8 0, .int .u8 0, .int .u8 0, .int .u8 0, .int .u8 0, .int .u8 0, .int .u8 0, .int .u8 0] 35)).setRow wA.heap.size (aN 16 (b))) (b11) (enc (kF l) 14 b)) := Lib.hid ((Hb11.out.call hbA).call hbN)
  have Hb13' : Hid (H16 ((wA.alloc (.cells #[.int .u8 0, .int .u8 0, .int .u8 0, .int .u8 0, .int .u8 0, .int .u8 0, .int .u8 0, .int .u8 0, .int .u8 0, .int .u8 0, .int .u8 0, .int .u8 0, .int .u8 0, .int .u8 0, .int .u8 0, .int .u8 0] 35)).setRow wA.heap.size (aN 16 (b))) (b13) (a)) := Lib.hid ((Hb13.out.call hbA).call hbN)
  have HB' : Hid (Below w.heap.size w ((wA.alloc (.cells #[.int .u8 0, .int .u8 0, .int .u8 0, .int .u8 0, .int .u8 0, .int .u8 0, .int .u8 0, .int .u8 0, .int .u8 0, .int .u8 0, .int .u8 0, .int .u8 0, .int .u8 0, .int .u8 0, .int .u8 0, .int .u8 0] 35)).setRow wA.heap.size (aN 16 (b)))) := Lib.hid ((HB.out.trans (hbA.mono HB.out.size)).trans (hbN.mono (HB.out.trans (hbA.mono HB.out.size)).size))
  have Hb17 := Lib.hid hN
  clear hN hbA hbN H4 H5 HCI Hb9 Hb11 Hb13 HB
  have H4 := H4'; clear H4'
  have H5 := H5'; clear H5'
  have HCI := HCI'; clear HCI'
  have Hb9 := Hb9'; clear Hb9'
  have Hb11 := Hb11'; clear Hb11'
  have Hb13 := Hb13'; clear Hb13'
  have HB := HB'; clear HB'
  generalize (wA.alloc (.cells #[.int .u8 0, .int .u8 0, .int .u8 0, .int .u8 0, .int .u8 0, .int .u8 0, .int .u8 0, .int .u8 0, .int .u8 0, .int .u8 0, .int .u8 0, .int .u8 0, .int .u8 0, .int .u8 0, .int .u8 0, .int .u8 0] 35)).setRow wA.heap.size (aN 16 (b)) = wrn at *
  generalize wA.heap.size = b17 at *
  try clear wr
  obtain ⟨wr, rfl⟩ : ∃ wr : World, wr = wrn := ⟨_, rfl⟩
  have dl : wr.heap[w.heap.size]? = some (.cells (aN 16 (a)) 35 (0, 0)) := H4.out
  go_wp2_with (refine wpList_load_row_g (by rfl) 35 (.tmp 4) rfl (w.heap.size) rfl 35 (aN 16 (a)) (0, 0) (.array 16 5) dl Try.underlying35 rfl (by rw [aN_size]; kernel_rfl) ?_)
  refine (encrypt_any 14 (kF l) a c _ (by omega) (by omega) HAA.out HK.out HCI.out).mono ?_
  rintro e wA ⟨rfl, hbA⟩
  have dS := new_dS wA
  go_upto_region 12 with (refine wpList_store_row rfl 35 (.tmp 19) (.tmp 79) rfl (wA.heap.size) (aN 16 (enc (kF l) 14 a)) rfl rfl 35 _ dS (by rw [aN_size]; kernel_rfl) (by simp only [aN_size]) (aN_one _ _) ?_)
  obtain ⟨hN, hbN⟩ := new_row wA (enc (kF l) 14 a)
  clear dl dS
  have H4' : Hid (H16 ((wA.alloc (.cells #[.int .u8 0, .int .u8 0, .int .u8 0, .int .u8 0, .int .u8 0, .int .u8 0, .int .u8 0, .int .u8 0, .int .u8 0, .int .u8 0, .int .u8 0, .int .u8 0, .int .u8 0, .int .u8 0, .int .u8 0, .int .u8 0] 35)).setRow wA.heap.size (aN 16 (enc (kF l) 14 a))) (w.heap.size) (a)) := Lib.hid ((H4.out.call hbA).call hbN)
  have H5' : Hid (H16 ((wA.alloc (.cells #[.int .u8 0, .int .u8 0, .int .u8 0, .int .u8 0, .int .u8 0, .int .u8 0, .int .u8 0, .int .u8 0, .int .u8 0, .int .u8 0, .int .u8 0, .int .u8 0, .int .u8 0, .int .u8 0, .int .u8 0, .int .u8 0] 35)).setRow wA.heap.size (aN 16 (enc (kF l) 14 a))) (w.heap.size + 1) (b)) := Lib.hid ((H5.out.call hbA).call hbN)
  have HCI' : Hid (Ci 14 ((wA.alloc (.cells #[.int .u8 0, .int .u8 0, .int .u8 0, .int .u8 0, .int .u8 0, .int .u8 0, .int .u8 0, .int .u8 0, .int .u8 0, .int .u8 0, .int .u8 0, .int .u8 0, .int .u8 0, .int .u8 0, .int .u8 0, .int .u8 0] 35)).setRow wA.heap.size (aN 16 (enc (kF l) 14 a))) (c) (kF l)) := Lib.hid (Ci.go hbN (Ci.go hbA HCI.out))
  have Hb9' : Hid (H16 ((wA.alloc (.cells #[.int .u8 0, .int .u8 0, .int .u8 0, .int .u8 0, .int .u8 0, .int .u8 0, .int .u8 0, .int .u8 0, .int .u8 0, .int .u8 0, .int .u8 0, .int .u8 0, .int .u8 0, .int .u8 0, .int .u8 0, .int .u8 0] 35)).setRow wA.heap.size (aN 16 (enc (kF l) 14 a))) (b9) (enc (kF l) 14 a)) := Lib.hid ((Hb9.out.call hbA).call hbN)
  have Hb11' : Hid (H16 ((wA.alloc (.cells #[.int .u8 0, .int .u8 0, .int .u8 0, .int .u8 0, .int .u8 0, .int .u8 0, .int .u8 0, .int .u8 0, .int .u8 0, .int .u8 0, .int .u8 0, .int .u8 0, .int .u8 0, .int .u8 0, .int .u8 0, .int .u8 0] 35)).setRow wA.heap.size (aN 16 (enc (kF l) 14 a))) (b11) (enc (kF l) 14 b)) := Lib.hid ((Hb11.out.call hbA).call hbN)
  have Hb13' : Hid (H16 ((wA.alloc (.cells #[.int .u8 0, .int .u8 0, .int .u8 0, .int .u8 0, .int .u8 0, .int .u8 0, .int .u8 0, .int .u8 0, .int .u8 0, .int .u8 0, .int .u8 0, .int .u8 0, .int .u8 0, .int .u8 0, .int .u8 0, .int .u8 0] 35)).setRow wA.heap.size (aN 16 (enc (kF l) 14 a))) (b13) (a)) := Lib.hid ((Hb13.out.call hbA).call hbN)
  have Hb17' : Hid (H16 ((wA.alloc (.cells #[.int .u8 0, .int .u8 0, .int .u8 0, .int .u8 0, .int .u8 0, .int .u8 0, .int .u8 0, .int .u8 0, .int .u8 0, .int .u8 0, .int .u8 0, .int .u8 0, .int .u8 0, .int .u8 0, .int .u8 0, .int .u8 0] 35)).setRow wA.heap.size (aN 16 (enc (kF l) 14 a))) (b17) (b)) := Lib.hid ((Hb17.out.call hbA).call hbN)
  have HB' : Hid (Below w.heap.size w ((wA.alloc (.cells #[.int .u8 0, .int .u8 0, .int .u8 0, .int .u8 0, .int .u8 0, .int .u8 0, .int .u8 0, .int .u8 0, .int .u8 0, .int .u8 0, .int .u8 0, .int .u8 0, .int .u8 0, .int .u8 0, .int .u8 0, .int .u8 0] 35)).setRow wA.heap.size (aN 16 (enc (kF l) 14 a)))) := Lib.hid ((HB.out.trans (hbA.mono HB.out.size)).trans (hbN.mono (HB.out.trans (hbA.mono HB.out.size)).size))
  have Hb19 := Lib.hid hN
  clear hN hbA hbN H4 H5 HCI Hb9 Hb11 Hb13 Hb17 HB
  have H4 := H4'; clear H4'
  have H5 := H5'; clear H5'
  have HCI := HCI'; clear HCI'
  have Hb9 := Hb9'; clear Hb9'
  have Hb11 := Hb11'; clear Hb11'
  have Hb13 := Hb13'; clear Hb13'
  have Hb17 := Hb17'; clear Hb17'
  have HB := HB'; clear HB'
  generalize (wA.alloc (.cells #[.int .u8 0, .int .u8 0, .int .u8 0, .int .u8 0, .int .u8 0, .int .u8 0, .int .u8 0, .int .u8 0, .int .u8 0, .int .u8 0, .int .u8 0, .int .u8 0, .int .u8 0, .int .u8 0, .int .u8 0, .int .u8 0] 35)).setRow wA.heap.size (aN 16 (enc (kF l) 14 a)) = wrn at *
  generalize wA.heap.size = b19 at *
  try clear wr
  obtain ⟨wr, rfl⟩ : ∃ wr : World, wr = wrn := ⟨_, rfl⟩
  go_upto_region 14 with fail
  obtain ⟨s, hs⟩ : ∃ s, sameB a b = s := ⟨_, rfl⟩
  have hqaa := eqv a a true (sameB_true (E16.refl _))
  have hqbb := eqv b b true (sameB_true (E16.refl _))
  have hqxx := eqv (enc (kF l) 14 a) (enc (kF l) 14 a) true (sameB_true (E16.refl _))
  have hqab := eqv a b s hs
  have hqxy := eqv (enc (kF l) 14 a) (enc (kF l) 14 b) s ((same_enc (kF l) 14 a b HAA.out HBB.out HK.out).trans hs)
  have hg16 := guard16
  have hss : (s == s) = true := beq_self_eq_true s
  clear hs
  refine wp_region_noPanic ?_
  refine wp_region_held_drew (S := (fun w' => w'.rangeAt (b13) 0 (vl 16 (a)) ∧ w'.rangeAt (w.heap.size) 0 (vl 16 (a)) ∧ w'.rangeAt (b17) 0 (vl 16 (b)) ∧ w'.rangeAt (w.heap.size + 1) 0 (vl 16 (b)) ∧ w'.rangeAt (b9) 0 (vl 16 (enc (kF l) 14 a)) ∧ w'.rangeAt (b11) 0 (vl 16 (enc (kF l) 14 b)) ∧ w'.rangeAt (b19) 0 (vl 16 (enc (kF l) 14 a)))) (by kernel_rfl) ?_ (fun hHeld => ?_)
  · exact ⟨H16.range (w := wr.drew) Hb13.out, H16.range (w := wr.drew) H4.out, H16.range (w := wr.drew) Hb17.out, H16.range (w := wr.drew) H5.out, H16.range (w := wr.drew) Hb9.out, H16.range (w := wr.drew) Hb11.out, H16.range (w := wr.drew) Hb19.out⟩
  refine wpAnyH_take (i := 0) rfl (by kernel_rfl) (by kernel_rfl) (by kernel_rfl) (fun _ _ _ h => h) (yieldsIf_load_mid (by rfl) 35 (.tmp 13) rfl (b13) (0) rfl (vl 16 (a)) (.array 16 5) (fun _ h => h.1) Try.underlying35 rfl (by rw [vl_len]; exact block_size)) hHeld ?_
  try simp only [Act.put, List.getElem_toArray, List.getElem_cons_zero, List.getElem_cons_succ, List.setIfInBounds_toArray, List.set_cons_zero, List.set_cons_succ]
  refine wpAnyH_take (i := 1) rfl (by kernel_rfl) (by kernel_rfl) (by kernel_rfl) (fun _ _ _ h => h) (yieldsIf_load_mid (by rfl) 35 (.tmp 4) rfl (w.heap.size) (0) rfl (vl 16 (a)) (.array 16 5) (fun _ h => h.2.1) Try.underlying35 rfl (by rw [vl_len]; exact block_size)) hHeld ?_
  try simp only [Act.put, List.getElem_toArray, List.getElem_cons_zero, List.getElem_cons_succ, List.setIfInBounds_toArray, List.set_cons_zero, List.set_cons_succ]
  refine wpAnyH_take (i := 2) (v := ?_) rfl (by kernel_rfl) (by kernel_rfl) (by kernel_rfl) (fun _ _ _ h => h) (Or.inl ⟨by rfl, ?_⟩) hHeld ?_
  rotate_left
  · intro w' hSw
    (try dsimp only at hSw)
    go_simp
    try with_reducible rfl
  try simp only [Act.put, List.getElem_toArray, List.getElem_cons_zero, List.getElem_cons_succ, List.setIfInBounds_toArray, List.set_cons_zero, List.set_cons_succ]
  refine wpAnyH_take (i := 3) (v := ?_) rfl (by kernel_rfl) (by kernel_rfl) (by kernel_rfl) (fun _ _ _ h => h) (Or.inl ⟨by rfl, ?_⟩) hHeld ?_
  rotate_left
  · intro w' hSw
    (try dsimp only at hSw)
    go_simp
    try with_reducible rfl
  try simp only [Act.put, List.getElem_toArray, List.getElem_cons_zero, List.getElem_cons_succ, List.setIfInBounds_toArray, List.set_cons_zero, List.set_cons_succ]
  refine wpAnyH_take (i := 4) rfl (by kernel_rfl) (by kernel_rfl) (by kernel_rfl) (fun _ _ _ h => h) (yieldsIf_load_mid (by rfl) 35 (.tmp 17) rfl (b17) (0) rfl (vl 16 (b)) (.array 16 5) (fun _ h => h.2.2.1) Try.underlying35 rfl (by rw [vl_len]; exact block_size)) hHeld ?_
  try simp only [Act.put, List.getElem_toArray, List.getElem_cons_zero, List.getElem_cons_succ, List.setIfInBounds_toArray, List.set_cons_zero, List.set_cons_succ]
  refine wpAnyH_take (i := 5) rfl (by kernel_rfl) (by kernel_rfl) (by kernel_rfl) (fun _ _ _ h => h) (yieldsIf_load_mid (by rfl) 35 (.tmp 5) rfl (w.heap.size + 1) (0) rfl (vl 16 (b)) (.array 16 5) (fun _ h => h.2.2.2.1) Try.underlying35 rfl (by rw [vl_len]; exact block_size)) hHeld ?_
  try simp only [Act.put, List.getElem_toArray, List.getElem_cons_zero, List.getElem_cons_succ, List.setIfInBounds_toArray, List.set_cons_zero, List.set_cons_succ]
  refine wpAnyH_take (i := 6) (v := ?_) rfl (by kernel_rfl) (by kernel_rfl) (by kernel_rfl) (fun _ _ _ h => h) (Or.inl ⟨by rfl, ?_⟩) hHeld ?_
  rotate_left
  · intro w' hSw
    (try dsimp only at hSw)
    go_simp
    try with_reducible rfl
  try simp only [Act.put, List.getElem_toArray, List.getElem_cons_zero, List.getElem_cons_succ, List.setIfInBounds_toArray, List.set_cons_zero, List.set_cons_succ]
  refine wpAnyH_take (i := 7) (v := ?_) rfl (by kernel_rfl) (by kernel_rfl) (by kernel_rfl) (fun _ _ _ h => h) (Or.inl ⟨by rfl, ?_⟩) hHeld ?_
  rotate_left
  · intro w' hSw
    (try dsimp only at hSw)
    go_simp
    try with_reducible rfl
  try simp only [Act.put, List.getElem_toArray, List.getElem_cons_zero, List.getElem_cons_succ, List.setIfInBounds_toArray, List.set_cons_zero, List.set_cons_succ]
  refine wpAnyH_take (i := 8) (v := ?_) rfl (by kernel_rfl) (by kernel_rfl) (by kernel_rfl) (fun _ _ _ h => h) (Or.inl ⟨by rfl, ?_⟩) hHeld ?_
  rotate_left
  · intro w' hSw
    (try dsimp only at hSw)
    go_simp
    try with_reducible rfl
  try simp only [Act.put, List.getElem_toArray, List.getElem_cons_zero, List.getElem_cons_succ, List.setIfInBounds_toArray, List.set_cons_zero, List.set_cons_succ]
  refine wpAnyH_take (i := 9) rfl (by kernel_rfl) (by kernel_rfl) (by kernel_rfl) (fun _ _ _ h => h) (yieldsIf_load_mid (by rfl) 35 (.tmp 9) rfl (b9) (0) rfl (vl 16 (enc (kF l) 14 a)) (.array 16 5) (fun _ h => h.2.2.2.2.1) Try.underlying35 rfl (by rw [vl_len]; exact block_size)) hHeld ?_
  try simp only [Act.put, List.getElem_toArray, List.getElem_cons_zero, List.getElem_cons_succ, List.setIfInBounds_toArray, List.set_cons_zero, List.set_cons_succ]
  refine wpAnyH_take (i := 10) rfl (by kernel_rfl) (by kernel_rfl) (by kernel_rfl) (fun _ _ _ h => h) (yieldsIf_load_mid (by rfl) 35 (.tmp 11) rfl (b11) (0) rfl (vl 16 (enc (kF l) 14 b)) (.array 16 5) (fun _ h => h.2.2.2.2.2.1) Try.underlying35 rfl (by rw [vl_len]; exact block_size)) hHeld ?_
  try simp only [Act.put, List.getElem_toArray, List.getElem_cons_zero, List.getElem_cons_succ, List.setIfInBounds_toArray, List.set_cons_zero, List.set_cons_succ]
  refine wpAnyH_take (i := 11) (v := ?_) rfl (by kernel_rfl) (by kernel_rfl) (by kernel_rfl) (fun _ _ _ h => h) (Or.inl ⟨by rfl, ?_⟩) hHeld ?_
  rotate_left
  · intro w' hSw
    (try dsimp only at hSw)
    go_simp
    try with_reducible rfl
  try simp only [Act.put, List.getElem_toArray, List.getElem_cons_zero, List.getElem_cons_succ, List.setIfInBounds_toArray, List.set_cons_zero, List.set_cons_succ]
  refine wpAnyH_take (i := 12) rfl (by kernel_rfl) (by kernel_rfl) (by kernel_rfl) (fun _ _ _ h => h) (yieldsIf_load_mid (by rfl) 35 (.tmp 4) rfl (w.heap.size) (0) rfl (vl 16 (a)) (.array 16 5) (fun _ h => h.2.1) Try.underlying35 rfl (by rw [vl_len]; exact block_size)) hHeld ?_
  try simp only [Act.put, List.getElem_toArray, List.getElem_cons_zero, List.getElem_cons_succ, List.setIfInBounds_toArray, List.set_cons_zero, List.set_cons_succ]
  refine wpAnyH_take (i := 13) rfl (by kernel_rfl) (by kernel_rfl) (by kernel_rfl) (fun _ _ _ h => h) (yieldsIf_load_mid (by rfl) 35 (.tmp 5) rfl (w.heap.size + 1) (0) rfl (vl 16 (b)) (.array 16 5) (fun _ h => h.2.2.2.1) Try.underlying35 rfl (by rw [vl_len]; exact block_size)) hHeld ?_
  try simp only [Act.put, List.getElem_toArray, List.getElem_cons_zero, List.getElem_cons_succ, List.setIfInBounds_toArray, List.set_cons_zero, List.set_cons_succ]
  refine wpAnyH_take (i := 14) (v := ?_) rfl (by kernel_rfl) (by kernel_rfl) (by kernel_rfl) (fun _ _ _ h => h) (Or.inl ⟨by rfl, ?_⟩) hHeld ?_
  rotate_left
  · intro w' hSw
    (try dsimp only at hSw)
    go_simp
    try with_reducible rfl
  try simp only [Act.put, List.getElem_toArray, List.getElem_cons_zero, List.getElem_cons_succ, List.setIfInBounds_toArray, List.set_cons_zero, List.set_cons_succ]
  refine wpAnyH_take (i := 15) (v := ?_) rfl (by kernel_rfl) (by kernel_rfl) (by kernel_rfl) (fun _ _ _ h => h) (Or.inl ⟨by rfl, ?_⟩) hHeld ?_
  rotate_left
  · intro w' hSw
    (try dsimp only at hSw)
    go_simp
    try with_reducible rfl
  try simp only [Act.put, List.getElem_toArray, List.getElem_cons_zero, List.getElem_cons_succ, List.setIfInBounds_toArray, List.set_cons_zero, List.set_cons_succ]
  refine wpAnyH_take (i := 16) (v := ?_) rfl (by kernel_rfl) (by kernel_rfl) (by kernel_rfl) (fun _ _ _ h => h) (Or.inl ⟨by rfl, ?_⟩) hHeld ?_
  rotate_left
  · intro w' hSw
    (try dsimp only at hSw)
    go_simp
    try with_reducible rfl
  try simp only [Act.put, List.getElem_toArray, List.getElem_cons_zero, List.getElem_cons_succ, List.setIfInBounds_toArray, List.set_cons_zero, List.set_cons_succ]
  refine wpAnyH_take (i := 17) (v := ?_) rfl (by kernel_rfl) (by kernel_rfl) (by kernel_rfl) (fun _ _ _ h => h) (Or.inl ⟨by rfl, ?_⟩) hHeld ?_
  rotate_left
  · intro w' hSw
    (try dsimp only at hSw)
    go_simp
    try with_reducible rfl
  try simp only [Act.put, List.getElem_toArray, List.getElem_cons_zero, List.getElem_cons_succ, List.setIfInBounds_toArray, List.set_cons_zero, List.set_cons_succ]
  refine wpAnyH_take (i := 18) rfl (by kernel_rfl) (by kernel_rfl) (by kernel_rfl) (fun _ _ _ h => h) (yieldsIf_load_mid (by rfl) 35 (.tmp 19) rfl (b19) (0) rfl (vl 16 (enc (kF l) 14 a)) (.array 16 5) (fun _ h => h.2.2.2.2.2.2) Try.underlying35 rfl (by rw [vl_len]; exact block_size)) hHeld ?_
  try simp only [Act.put, List.getElem_toArray, List.getElem_cons_zero, List.getElem_cons_succ, List.setIfInBounds_toArray, List.set_cons_zero, List.set_cons_succ]
  refine wpAnyH_take (i := 19) rfl (by kernel_rfl) (by kernel_rfl) (by kernel_rfl) (fun _ _ _ h => h) (yieldsIf_load_mid (by rfl) 35 (.tmp 9) rfl (b9) (0) rfl (vl 16 (enc (kF l) 14 a)) (.array 16 5) (fun _ h => h.2.2.2.2.1) Try.underlying35 rfl (by rw [vl_len]; exact block_size)) hHeld ?_
  try simp only [Act.put, List.getElem_toArray, List.getElem_cons_zero, List.getElem_cons_succ, List.setIfInBounds_toArray, List.set_cons_zero, List.set_cons_succ]
  refine wpAnyH_take (i := 20) (v := ?_) rfl (by kernel_rfl) (by kernel_rfl) (by kernel_rfl) (fun _ _ _ h => h) (Or.inl ⟨by rfl, ?_⟩) hHeld ?_
  rotate_left
  · intro w' hSw
    (try dsimp only at hSw)
    go_simp
    try with_reducible rfl
  try simp only [Act.put, List.getElem_toArray, List.getElem_cons_zero, List.getElem_cons_succ, List.setIfInBounds_toArray, List.set_cons_zero, List.set_cons_succ]
  refine wpAnyH_take (i := 21) (v := ?_) rfl (by kernel_rfl) (by kernel_rfl) (by kernel_rfl) (fun _ _ _ h => h) (Or.inl ⟨by rfl, ?_⟩) hHeld ?_
  rotate_left
  · intro w' hSw
    (try dsimp only at hSw)
    go_simp
    try with_reducible rfl
  try simp only [Act.put, List.getElem_toArray, List.getElem_cons_zero, List.getElem_cons_succ, List.setIfInBounds_toArray, List.set_cons_zero, List.set_cons_succ]
  refine wpAnyH_take (i := 22) (v := ?_) rfl (by kernel_rfl) (by kernel_rfl) (by kernel_rfl) (fun _ _ _ h => h) (Or.inl ⟨by rfl, ?_⟩) hHeld ?_
  rotate_left
  · intro w' hSw
    (try dsimp only at hSw)
    go_simp
    try with_reducible rfl
  try simp only [Act.put, List.getElem_toArray, List.getElem_cons_zero, List.getElem_cons_succ, List.setIfInBounds_toArray, List.set_cons_zero, List.set_cons_succ]
  refine wpAnyH_ready (rs := [23]) (by kernel_rfl) (by simp) ?_
  refine AllReadyH.cons rfl (fun K hK => ?_) (AllReadyH.nil)
  · try simp only [List.getElem_toArray, List.getElem_cons_zero, List.getElem_cons_succ]
    go_simp
    refine (known03_any _).mono ?_
    rintro e wy ⟨rfl, hby⟩
    refine hK.out _ _ ?_ (fun hHeld => ?_)
    · exact ⟨range_call hby hHeld.1, range_call hby hHeld.2.1, range_call hby hHeld.2.2.1, range_call hby hHeld.2.2.2.1, range_call hby hHeld.2.2.2.2.1, range_call hby hHeld.2.2.2.2.2.1, range_call hby hHeld.2.2.2.2.2.2⟩
    clear hK K
    try simp only [Act.put, List.getElem_toArray, List.getElem_cons_zero, List.getElem_cons_succ, List.setIfInBounds_toArray, List.set_cons_zero, List.set_cons_succ]
    refine wpAnyH_take (i := 24) (v := ?_) rfl (by kernel_rfl) (by kernel_rfl) (by kernel_rfl) (fun _ _ _ h => h) (Or.inl ⟨by rfl, ?_⟩) hHeld ?_
    rotate_left
    · intro w' hSw
      (try dsimp only at hSw)
      go_simp
      try with_reducible rfl
    try simp only [Act.put, List.getElem_toArray, List.getElem_cons_zero, List.getElem_cons_succ, List.setIfInBounds_toArray, List.set_cons_zero, List.set_cons_succ]
    refine wpAnyH_take (i := 25) (v := ?_) rfl (by kernel_rfl) (by kernel_rfl) (by kernel_rfl) (fun _ _ _ h => h) (Or.inl ⟨by rfl, ?_⟩) hHeld ?_
    rotate_left
    · intro w' hSw
      (try dsimp only at hSw)
      go_simp
      try with_reducible rfl
    try simp only [Act.put, List.getElem_toArray, List.getElem_cons_zero, List.getElem_cons_succ, List.setIfInBounds_toArray, List.set_cons_zero, List.set_cons_succ]
    refine wpAnyH_done (by kernel_rfl) ?_ _
    refine NoPanic.normal ?_
    go_wp2_with fail
    go_ret
    exact ⟨rfl, HB.out.drew.trans (hby.mono HB.out.size)⟩

set_option maxRecDepth 100000 in
set_option maxHeartbeats 1000000 in
theorem aback_none (A : Option Addr) (N cap : Nat) (a b : Nat → Nat) (h1 : N ≠ 16) (h2 : N ≠ 32) (w : World) :
    Calls Try.prog 7 #[.slice A N cap, .agg (aN 16 a), .agg (aN 16 b)] w fun e w' => e = .returned (.bool true) ∧ Below w.heap.size w w' := by
  have hB : Below w.heap.size w ((w.alloc (.cells (aN 16 a) 35)).alloc (.cells (aN 16 b) 35)) := ((Below.refl _ _).alloc (Nat.le_refl _) _).alloc (by simp) _
  have HB := Lib.hid hB; clear hB
  have hm := Lib.hid (fun w => new_none A N cap h1 h2 w)
  have e1 : ((N : Int) != 16) = true := by simp; omega
  have e2 : ((N : Int) != 32) = true := by simp; omega
  clear h1 h2
  go_enter Try.func7, Try.ntmps7
  go_wp2_with fail
  generalize (w.alloc (.cells (aN 16 a) 35)).alloc (.cells (aN 16 b) 35) = w1 at *
  refine (hm.out _).mono ?_
  rintro e w2 ⟨rfl, rfl⟩
  go_wp2_with fail
  refine (known03_any _).mono ?_
  rintro e w3 ⟨rfl, hb3⟩
  go_wp2_with fail
  go_ret
  exact ⟨rfl, HB.out.trans (hb3.mono HB.out.size)⟩

theorem aback_any (A : Option Addr) (l : List UInt8) (n cap : Nat) (hn : l.length = n) (a b : Nat → Nat) (w : World) (_hle : n ≤ 140737488351232) (hcap : n ≤ cap) (h : Rd w w.heap.size A (vb l)) (ha : ∀ i, i < 16 → a i < 256) (hb : ∀ i, i < 16 → b i < 256) :
    Calls Try.prog 7 #[.slice A n cap, .agg (aN 16 a), .agg (aN 16 b)] w fun e w' => e = .returned (.bool true) ∧ Below w.heap.size w w' := by
  rw [vb_vn] at h
  by_cases h1 : n = 16
  · subst h1
    exact aback16_any A _ cap a b (by simp [hn]) (vb_lt l) hcap ha hb w h
  · by_cases h2 : n = 32
    · subst h2
      exact aback32_any A _ cap a b (by simp [hn]) (vb_lt l) hcap ha hb w h
    · exact aback_none A n cap a b h1 h2 w

set_option maxRecDepth 100000 in
theorem aback_lifted (os : Os) (started : os.Started) (H : Type) (enc : TypeId × Value → H) :
    ReturnsInHanded {} Try.checked os 7 .any (Rows.aesBackSpec.pre6 enc Try.prog Try.f7 Rows.aesBackRow.domain false) (Rows.aesBackSpec.post enc Try.prog Try.f7 false true false false) := by
  refine returnsInHanded_of_change_sized (C := Try.checked) Try.own started (by kernel_rfl) Try.func7
    (ChangeSpec.witness6 (enc := enc) (C := Try.checked) false ⟨#[], #[.slice none 0 0, .agg #[.int .u8 0, .int .u8 0, .int .u8 0, .int .u8 0, .int .u8 0, .int .u8 0, .int .u8 0, .int .u8 0, .int .u8 0, .int .u8 0, .int .u8 0, .int .u8 0, .int .u8 0, .int .u8 0, .int .u8 0, .int .u8 0], .agg #[.int .u8 0, .int .u8 0, .int .u8 0, .int .u8 0, .int .u8 0, .int .u8 0, .int .u8 0, .int .u8 0, .int .u8 0, .int .u8 0, .int .u8 0, .int .u8 0, .int .u8 0, .int .u8 0, .int .u8 0, .int .u8 0]], []⟩ 8 (by kernel_rfl) (by kernel_rfl) (by kernel_rfl) (by kernel_rfl)) ?_
  intro W base args ds gs before hval0 hW _ hsz0 _
  have hsz : (DataW.weightsEach Try.prog (Try.f7.params.toList ++ Rows.aesBackSpec.plain.varTypes Try.prog) (ds ++ gs)).all (· ≤ reachBytes) = true := hsz0
  have hval : ∀ (j : Nat) t v, Try.f7.params[j]? = some t → args[j]? = some v → Value.okWide Try.prog W .any base t v := hval0
  have hW' := hW
  obtain ⟨p, q, hA0, hV, rfl, _, _⟩ := hW
  have hA : DataW.TrodAll enc Try.prog W 0 (fun _ => true) true Try.f7.params.toList args.toList ds p := hA0
  rw [Try.params7] at hA hval hsz
  have hlt := hW'.lt
  clear hA0 hval0 hsz0
  obtain ⟨v0, vs0, d0, ds0, p0, q0, hv0, rfl, rfl, h0, r0⟩ := trodAll_cons hA
  obtain ⟨v1, vs1, d1, ds1, p1, q1, hv1, rfl, rfl, h1, r1⟩ := trodAll_cons r0
  subst hv1
  obtain ⟨v2, vs2, d2, ds2, p2, q2, hv2, rfl, rfl, h2, r2⟩ := trodAll_cons r1
  subst hv2
  obtain ⟨rfl, rfl, rfl⟩ := trodAll_nil r2
  obtain rfl : args = #[v0, v1, v2] := by cases args; simp_all
  obtain ⟨rfl, rfl⟩ := trodVars_none hV
  obtain ⟨A0, l0, c0, rfl, rd0, le0, lc0⟩ := open_bytes_cap Try.underlying22 Try.underlying5 Try.cellsU8 (hval 0 22 v0 rfl rfl) h0 (fun x hx => hlt x (by simp [hx])) (fun es sp he => by subst he; have := sized_slice hsz (j := 0) (t := 22) (e := 5) rfl rfl Try.underlying22; rw [Try.bytesU8, Nat.mul_one] at this; exact this)
  obtain ⟨f1, rfl, u1⟩ := open_arr_u8 Try.underlying35 Try.underlying5 Try.cellsU8 (by kernel_rfl) (hval 1 35 v1 rfl rfl) h1
  obtain ⟨f2, rfl, u2⟩ := open_arr_u8 Try.underlying35 Try.underlying5 Try.cellsU8 (by kernel_rfl) (hval 2 35 v2 rfl rfl) h2
  refine (aback_any A0 l0 l0.length c0 rfl f1 f2 W le0 lc0 rd0 u1 u2).mono fun e W' ⟨he, hb⟩ => ⟨_, he, ?_⟩
  exact law_post 4 Try.underlying4 (by kernel_rfl) rfl Try.laidOut (by kernel_rfl) hW' ⟨rfl, rfl, rfl⟩ hb

theorem aback_holds : Rows.AesBackSaid :=
  OpenClaim.holds_of_wide 7 Try.f7 rfl rfl rfl rfl rfl rfl rfl ⟨rfl, rfl, rfl, rfl, rfl⟩ rfl rfl rfl rfl rfl (by kernel_rfl) Try.func7 (by kernel_rfl)
    (of_decide_eq_true (by kernel_rfl)) (by unfold Func.isWrapper; first | (rw [if_pos (by decide +kernel)]; kernel_rfl) | (rw [if_neg (by decide +kernel)]; exact ⟨rfl, rfl⟩))
    (fun os started H enc _ => aback_lifted os started H enc)
end Go.Proofs.Ytljmkleppoacaaa
