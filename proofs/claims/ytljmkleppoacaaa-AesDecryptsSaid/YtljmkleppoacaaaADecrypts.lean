/-
  Any block under any key is deciphered as the document has it: AesDecrypts, for every input.
-/
import Derived.Test.YtljmkleppoacaaaLaw
import Derived.Test.YtljmkleppoacaaaAesQ
namespace Go.Proofs.Ytljmkleppoacaaa
open Go Go.RowKit Go.ChangeShapes Go.WideShapes Go.ChangeAt
set_option linter.unusedVariables false
set_option linter.unusedSimpArgs false

set_option maxRecDepth 100000 in
set_option maxHeartbeats 4000000 in
theorem adec16_any (A : Option Addr) (l : List Nat) (cap : Nat) (b : Nat → Nat) (hn : l.length = 16) (hl : ∀ x ∈ l, x < 256) (hcap : 16 ≤ cap) (hb : B16 b) (w : World) (h : Rd w w.heap.size A (vn l)) :
    Calls Try.prog 5 #[.slice A 16 cap, .agg (aN 16 b)] w fun e w' => e = .returned (.bool true) ∧ Below w.heap.size w w' := by
  have h3 : H16 (w.alloc (.cells (aN 16 b) 35)) w.heap.size b := H16.newAt rfl
  have hB : Below w.heap.size w (w.alloc (.cells (aN 16 b) 35)) := (Below.refl _ _).alloc (Nat.le_refl _) _
  have HR := Lib.hid (h.go hB)
  have H3 := Lib.hid h3; clear h3
  have HB := Lib.hid hB; clear hB h
  have HLG := Lib.hid hn; clear hn
  have HL := Lib.hid hl; clear hl
  have HBB := Lib.hid hb; clear hb
  go_enter Try.func5, Try.ntmps5
  go_wp2_with fail
  generalize w.alloc (.cells (aN 16 b) 35) = w1 at *
  refine (may16 A cap w1).mono ?_
  rintro e w1' ⟨rfl, rfl⟩
  go_wp2_with fail
  refine (copyv_any A (vn l) 16 cap (by rw [vn_len]; exact HLG.out) (vn_one l) _ (by omega) HR.out).mono ?_
  rintro e w2 ⟨v, rfl, hown, hb2⟩
  obtain ⟨gi, ci, rfl, hgi, hgi'⟩ := hown.form (by omega)
  have hci := own_cap hown
  have hin := own_rd hown
  have HOWN := Lib.hid hown; clear hown
  go_wp2_with fail
  refine (new16_any (some ⟨gi, 0, none⟩) l ci HLG.out hci HL.out w2 hin).mono ?_
  rintro e w3 ⟨c, rfl, hcc, hb3⟩
  have HCI := Lib.hid hcc; clear hcc
  have hb13 : Below w1'.heap.size w1' w3 := hb2.trans (hb3.mono hb2.size)
  have HB13 := Lib.hid hb13; clear hb13 hin
  have H3' : Hid (H16 w3 w.heap.size b) := Lib.hid (H3.out.below HB13.out H3.out.lt)
  have HR' : Hid (Rd w3 w3.heap.size A (vn l)) := Lib.hid (HR.out.go HB13.out)
  have HB' : Hid (Below w.heap.size w w3) := Lib.hid (HB.out.trans (HB13.out.mono HB.out.size))
  clear H3 HR HB HB13 HOWN hb2 hb3 hgi hgi'
  have H3 := H3'; have HR := HR'; have HB := HB'
  clear H3' HR' HB'
  go_upto_region 6 with fail
  obtain ⟨wr, rfl⟩ : ∃ wr : World, wr = w3 := ⟨_, rfl⟩
  have dl : wr.heap[w.heap.size]? = some (.cells (aN 16 (b)) 35 (0, 0)) := H3.out
  go_wp2_with (refine wpList_load_row_g (by rfl) 35 (.tmp 3) rfl (w.heap.size) rfl 35 (aN 16 (b)) (0, 0) (.array 16 5) dl Try.underlying35 rfl (by rw [aN_size]; kernel_rfl) ?_)
  refine (decrypt_any 10 (kF l) b c _ (by omega) (by omega) HBB.out (kF_bk l HL.out 10) HCI.out).mono ?_
  rintro e wA ⟨rfl, hbA⟩
  have dS := new_dS wA
  go_upto_region 7 with (refine wpList_store_row rfl 35 (.tmp 7) (.tmp 29) rfl (wA.heap.size) (aN 16 (dec (kF l) 10 b)) rfl rfl 35 _ dS (by rw [aN_size]; kernel_rfl) (by simp only [aN_size]) (aN_one _ _) ?_)
  obtain ⟨hN, hbN⟩ := new_row wA (dec (kF l) 10 b)
  clear dl dS
  have H3' : Hid (H16 ((wA.alloc (.cells #[.int .u8 0, .int .u8 0, .int .u8 0, .int .u8 0, .int .u8 0, .int .u8 0, .int .u8 0, .int .u8 0, .int .u8 0, .int .u8 0, .int .u8 0, .int .u8 0, .int .u8 0, .int .u8 0, .int .u8 0, .int .u8 0] 35)).setRow wA.heap.size (aN 16 (dec (kF l) 10 b))) (w.heap.size) (b)) := Lib.hid ((H3.out.call hbA).call hbN)
  have HR' : Hid (Rd ((wA.alloc (.cells #[.int .u8 0, .int .u8 0, .int .u8 0, .int .u8 0, .int .u8 0, .int .u8 0, .int .u8 0, .int .u8 0, .int .u8 0, .int .u8 0, .int .u8 0, .int .u8 0, .int .u8 0, .int .u8 0, .int .u8 0, .int .u8 0] 35)).setRow wA.heap.size (aN 16 (dec (kF l) 10 b))) ((wA.alloc (.cells #[.int .u8 0, .int .u8 0, .int .u8 0, .int .u8 0, .int .u8 0, .int .u8 0, .int .u8 0, .int .u8 0, .int .u8 0, .int .u8 0, .int .u8 0, .int .u8 0, .int .u8 0, .int .u8 0, .int .u8 0, .int .u8 0] 35)).setRow wA.heap.size (aN 16 (dec (kF l) 10 b))).heap.size A (vn (l))) := Lib.hid ((HR.out.go hbA).go hbN)
  have HB' : Hid (Below w.heap.size w ((wA.alloc (.cells #[.int .u8 0, .int .u8 0, .int .u8 0, .int .u8 0, .int .u8 0, .int .u8 0, .int .u8 0, .int .u8 0, .int .u8 0, .int .u8 0, .int .u8 0, .int .u8 0, .int .u8 0, .int .u8 0, .int .u8 0, .int .u8 0] 35)).setRow wA.heap.size (aN 16 (dec (kF l) 10 b)))) := Lib.hid ((HB.out.trans (hbA.mono HB.out.size)).trans (hbN.mono (HB.out.trans (hbA.mono HB.out.size)).size))
  have Hb9 := Lib.hid hN
  clear hN hbA hbN H3 HR HB
  have H3 := H3'; clear H3'
  have HR := HR'; clear HR'
  have HB := HB'; clear HB'
  generalize (wA.alloc (.cells #[.int .u8 0, .int .u8 0, .int .u8 0, .int .u8 0, .int .u8 0, .int .u8 0, .int .u8 0, .int .u8 0, .int .u8 0, .int .u8 0, .int .u8 0, .int .u8 0, .int .u8 0, .int .u8 0, .int .u8 0, .int .u8 0] 35)).setRow wA.heap.size (aN 16 (dec (kF l) 10 b)) = wrn at *
  generalize wA.heap.size = b9 at *
  try clear wr
  obtain ⟨wr, rfl⟩ : ∃ wr : World, wr = wrn := ⟨_, rfl⟩
  have hq := eqv (dec (kF l) 10 b) (dec (kF l) 10 b) true (sameB_true (E16.refl _))
  have hg16 := guard16
  refine wp_region_noPanic ?_
  refine wp_region_held_drew (S := (fun w' => w'.rangeAt b9 0 (vl 16 (dec (kF l) 10 b)) ∧ w'.rangeAt w.heap.size 0 (vl 16 b))) (by kernel_rfl) ?_ (fun hHeld => ?_)
  · exact ⟨H16.range (w := wr.drew) Hb9.out, H16.range (w := wr.drew) H3.out⟩
  refine wpAnyH_take (i := 0) (v := ?_) rfl (by kernel_rfl) (by kernel_rfl) (by kernel_rfl) (fun _ _ _ h => h) (Or.inl ⟨by rfl, ?_⟩) hHeld ?_
  rotate_left
  · intro w' hSw
    (try dsimp only at hSw)
    go_simp
    try with_reducible rfl
  try simp only [Act.put, List.getElem_toArray, List.getElem_cons_zero, List.getElem_cons_succ, List.setIfInBounds_toArray, List.set_cons_zero, List.set_cons_succ]
  refine wpAnyH_take (i := 1) (v := ?_) rfl (by kernel_rfl) (by kernel_rfl) (by kernel_rfl) (fun _ _ _ h => h) (Or.inl ⟨by rfl, ?_⟩) hHeld ?_
  rotate_left
  · intro w' hSw
    (try dsimp only at hSw)
    go_simp
    try with_reducible rfl
  try simp only [Act.put, List.getElem_toArray, List.getElem_cons_zero, List.getElem_cons_succ, List.setIfInBounds_toArray, List.set_cons_zero, List.set_cons_succ]
  refine wpAnyH_take (i := 2) (v := ?_) rfl (by kernel_rfl) (by kernel_rfl) (by kernel_rfl) (fun _ _ _ h => h) (Or.inl ⟨by rfl, ?_⟩) hHeld ?_
  rotate_left
  · intro w' hSw
    (try dsimp only at hSw)
    go_simp
    try with_reducible rfl
  try simp only [Act.put, List.getElem_toArray, List.getElem_cons_zero, List.getElem_cons_succ, List.setIfInBounds_toArray, List.set_cons_zero, List.set_cons_succ]
  refine wpAnyH_take (i := 3) rfl (by kernel_rfl) (by kernel_rfl) (by kernel_rfl) (fun _ _ _ h => h) (yieldsIf_load_mid (by rfl) 35 (.tmp 7) rfl (b9) (0) rfl (vl 16 (dec (kF l) 10 b)) (.array 16 5) (fun _ h => h.1) Try.underlying35 rfl (by rw [vl_len]; exact block_size)) hHeld ?_
  try simp only [Act.put, List.getElem_toArray, List.getElem_cons_zero, List.getElem_cons_succ, List.setIfInBounds_toArray, List.set_cons_zero, List.set_cons_succ]
  refine wpAnyH_take (i := 4) (v := ?_) rfl (by kernel_rfl) (by kernel_rfl) (by kernel_rfl) (fun _ _ _ h => h) (Or.inl ⟨by rfl, ?_⟩) hHeld ?_
  rotate_left
  · intro w' hSw
    (try dsimp only at hSw)
    go_simp
    try with_reducible rfl
  try simp only [Act.put, List.getElem_toArray, List.getElem_cons_zero, List.getElem_cons_succ, List.setIfInBounds_toArray, List.set_cons_zero, List.set_cons_succ]
  refine wpAnyH_take (i := 5) rfl (by kernel_rfl) (by kernel_rfl) (by kernel_rfl) (fun _ _ _ h => h) (yieldsIf_load_mid (by rfl) 35 (.tmp 3) rfl (w.heap.size) (0) rfl (vl 16 b) (.array 16 5) (fun _ h => h.2) Try.underlying35 rfl (by rw [vl_len]; exact block_size)) hHeld ?_
  try simp only [Act.put, List.getElem_toArray, List.getElem_cons_zero, List.getElem_cons_succ, List.setIfInBounds_toArray, List.set_cons_zero, List.set_cons_succ]
  refine wpAnyH_ready (rs := [6]) (by kernel_rfl) (by simp) ?_
  refine AllReadyH.cons rfl (fun K hK => ?_) (AllReadyH.nil)
  · try simp only [List.getElem_toArray, List.getElem_cons_zero, List.getElem_cons_succ]
    go_simp
    refine (rdec16_any A l cap b HLG.out HL.out HBB.out wr.drew (show Rd wr.drew wr.drew.heap.size A (vn l) from HR.out)).mono ?_
    rintro e wx ⟨rfl, hbx⟩
    rw [aN_vl 16 (dec (kF l) 10 b)]
    refine hK.out _ _ ?_ (fun hHeld => ?_)
    · exact ⟨range_call hbx hHeld.1, range_call hbx hHeld.2⟩
    clear hK K
    try simp only [Act.put, List.getElem_toArray, List.getElem_cons_zero, List.getElem_cons_succ, List.setIfInBounds_toArray, List.set_cons_zero, List.set_cons_succ]
    refine wpAnyH_take (i := 7) (v := ?_) rfl (by kernel_rfl) (by kernel_rfl) (by kernel_rfl) (fun _ _ _ h => h) (Or.inl ⟨by rfl, ?_⟩) hHeld ?_
    rotate_left
    · intro w' hSw
      (try dsimp only at hSw)
      go_simp
      try with_reducible rfl
    try simp only [Act.put, List.getElem_toArray, List.getElem_cons_zero, List.getElem_cons_succ, List.setIfInBounds_toArray, List.set_cons_zero, List.set_cons_succ]
    refine wpAnyH_take (i := 8) (v := ?_) rfl (by kernel_rfl) (by kernel_rfl) (by kernel_rfl) (fun _ _ _ h => h) (Or.inl ⟨by rfl, ?_⟩) hHeld ?_
    rotate_left
    · intro w' hSw
      (try dsimp only at hSw)
      go_simp
      try with_reducible rfl
    try simp only [Act.put, List.getElem_toArray, List.getElem_cons_zero, List.getElem_cons_succ, List.setIfInBounds_toArray, List.set_cons_zero, List.set_cons_succ]
    refine wpAnyH_take (i := 9) (v := ?_) rfl (by kernel_rfl) (by kernel_rfl) (by kernel_rfl) (fun _ _ _ h => h) (Or.inl ⟨by rfl, ?_⟩) hHeld ?_
    rotate_left
    · intro w' hSw
      (try dsimp only at hSw)
      go_simp
      try with_reducible rfl
    try simp only [Act.put, List.getElem_toArray, List.getElem_cons_zero, List.getElem_cons_succ, List.setIfInBounds_toArray, List.set_cons_zero, List.set_cons_succ]
    refine wpAnyH_ready (rs := [10]) (by kernel_rfl) (by simp) ?_
    refine AllReadyH.cons rfl (fun K hK => ?_) (AllReadyH.nil)
    · try simp only [List.getElem_toArray, List.getElem_cons_zero, List.getElem_cons_succ]
      go_simp
      refine (known03_any _).mono ?_
      rintro e wy ⟨rfl, hby⟩
      refine hK.out _ _ ?_ (fun hHeld => ?_)
      · exact ⟨range_call hby hHeld.1, range_call hby hHeld.2⟩
      clear hK K
      try simp only [Act.put, List.getElem_toArray, List.getElem_cons_zero, List.getElem_cons_succ, List.setIfInBounds_toArray, List.set_cons_zero, List.set_cons_succ]
      refine wpAnyH_take (i := 11) (v := ?_) rfl (by kernel_rfl) (by kernel_rfl) (by kernel_rfl) (fun _ _ _ h => h) (Or.inl ⟨by rfl, ?_⟩) hHeld ?_
      rotate_left
      · intro w' hSw
        (try dsimp only at hSw)
        go_simp
        try with_reducible rfl
      try simp only [Act.put, List.getElem_toArray, List.getElem_cons_zero, List.getElem_cons_succ, List.setIfInBounds_toArray, List.set_cons_zero, List.set_cons_succ]
      refine wpAnyH_take (i := 12) (v := ?_) rfl (by kernel_rfl) (by kernel_rfl) (by kernel_rfl) (fun _ _ _ h => h) (Or.inl ⟨by rfl, ?_⟩) hHeld ?_
      rotate_left
      · intro w' hSw
        (try dsimp only at hSw)
        go_simp
        try with_reducible rfl
      try simp only [Act.put, List.getElem_toArray, List.getElem_cons_zero, List.getElem_cons_succ, List.setIfInBounds_toArray, List.set_cons_zero, List.set_cons_succ]
      refine wpAnyH_done (by kernel_rfl) ?_ _
      refine NoPanic.normal ?_
      go_wp2_with fail
      go_ret
      exact ⟨rfl, (HB.out.drew.trans (hbx.mono HB.out.size)).trans (hby.mono (HB.out.drew.trans (hbx.mono HB.out.size)).size)⟩

set_option maxRecDepth 100000 in
set_option maxHeartbeats 4000000 in
theorem adec32_any (A : Option Addr) (l : List Nat) (cap : Nat) (b : Nat → Nat) (hn : l.length = 32) (hl : ∀ x ∈ l, x < 256) (hcap : 32 ≤ cap) (hb : B16 b) (w : World) (h : Rd w w.heap.size A (vn l)) :
    Calls Try.prog 5 #[.slice A 32 cap, .agg (aN 16 b)] w fun e w' => e = .returned (.bool true) ∧ Below w.heap.size w w' := by
  have h3 : H16 (w.alloc (.cells (aN 16 b) 35)) w.heap.size b := H16.newAt rfl
  have hB : Below w.heap.size w (w.alloc (.cells (aN 16 b) 35)) := (Below.refl _ _).alloc (Nat.le_refl _) _
  have HR := Lib.hid (h.go hB)
  have H3 := Lib.hid h3; clear h3
  have HB := Lib.hid hB; clear hB h
  have HLG := Lib.hid hn; clear hn
  have HL := Lib.hid hl; clear hl
  have HBB := Lib.hid hb; clear hb
  go_enter Try.func5, Try.ntmps5
  go_wp2_with fail
  generalize w.alloc (.cells (aN 16 b) 35) = w1 at *
  refine (may32 A cap w1).mono ?_
  rintro e w1' ⟨rfl, rfl⟩
  go_wp2_with fail
  refine (copyv_any A (vn l) 32 cap (by rw [vn_len]; exact HLG.out) (vn_one l) _ (by omega) HR.out).mono ?_
  rintro e w2 ⟨v, rfl, hown, hb2⟩
  obtain ⟨gi, ci, rfl, hgi, hgi'⟩ := hown.form (by omega)
  have hci := own_cap hown
  have hin := own_rd hown
  have HOWN := Lib.hid hown; clear hown
  go_wp2_with fail
  refine (new32_any (some ⟨gi, 0, none⟩) l ci HLG.out hci HL.out w2 hin).mono ?_
  rintro e w3 ⟨c, rfl, hcc, hb3⟩
  have HCI := Lib.hid hcc; clear hcc
  have hb13 : Below w1'.heap.size w1' w3 := hb2.trans (hb3.mono hb2.size)
  have HB13 := Lib.hid hb13; clear hb13 hin
  have H3' : Hid (H16 w3 w.heap.size b) := Lib.hid (H3.out.below HB13.out H3.out.lt)
  have HR' : Hid (Rd w3 w3.heap.size A (vn l)) := Lib.hid (HR.out.go HB13.out)
  have HB' : Hid (Below w.heap.size w w3) := Lib.hid (HB.out.trans (HB13.out.mono HB.out.size))
  clear H3 HR HB HB13 HOWN hb2 hb3 hgi hgi'
  have H3 := H3'; have HR := HR'; have HB := HB'
  clear H3' HR' HB'
  go_upto_region 6 with fail
  obtain ⟨wr, rfl⟩ : ∃ wr : World, wr = w3 := ⟨_, rfl⟩
  have dl : wr.heap[w.heap.size]? = some (.cells (aN 16 (b)) 35 (0, 0)) := H3.out
  go_wp2_with (refine wpList_load_row_g (by rfl) 35 (.tmp 3) rfl (w.heap.size) rfl 35 (aN 16 (b)) (0, 0) (.array 16 5) dl Try.underlying35 rfl (by rw [aN_size]; kernel_rfl) ?_)
  refine (decrypt_any 14 (kF l) b c _ (by omega) (by omega) HBB.out (kF_bk l HL.out 14) HCI.out).mono ?_
  rintro e wA ⟨rfl, hbA⟩
  have dS := new_dS wA
  go_upto_region 7 with (refine wpList_store_row rfl 35 (.tmp 7) (.tmp 29) rfl (wA.heap.size) (aN 16 (dec (kF l) 14 b)) rfl rfl 35 _ dS (by rw [aN_size]; kernel_rfl) (by simp only [aN_size]) (aN_one _ _) ?_)
  obtain ⟨hN, hbN⟩ := new_row wA (dec (kF l) 14 b)
  clear dl dS
  have H3' : Hid (H16 ((wA.alloc (.cells #[.int .u8 0, .int .u8 0, .int .u8 0, .int .u8 0, .int .u8 0, .int .u8 0, .int .u8 0, .int .u8 0, .int .u8 0, .int .u8 0, .int .u8 0, .int .u8 0, .int .u8 0, .int .u8 0, .int .u8 0, .int .u8 0] 35)).setRow wA.heap.size (aN 16 (dec (kF l) 14 b))) (w.heap.size) (b)) := Lib.hid ((H3.out.call hbA).call hbN)
  have HR' : Hid (Rd ((wA.alloc (.cells #[.int .u8 0, .int .u8 0, .int .u8 0, .int .u8 0, .int .u8 0, .int .u8 0, .int .u8 0, .int .u8 0, .int .u8 0, .int .u8 0, .int .u8 0, .int .u8 0, .int .u8 0, .int .u8 0, .int .u8 0, .int .u8 0] 35)).setRow wA.heap.size (aN 16 (dec (kF l) 14 b))) ((wA.alloc (.cells #[.int .u8 0, .int .u8 0, .int .u8 0, .int .u8 0, .int .u8 0, .int .u8 0, .int .u8 0, .int .u8 0, .int .u8 0, .int .u8 0, .int .u8 0, .int .u8 0, .int .u8 0, .int .u8 0, .int .u8 0, .int .u8 0] 35)).setRow wA.heap.size (aN 16 (dec (kF l) 14 b))).heap.size A (vn (l))) := Lib.hid ((HR.out.go hbA).go hbN)
  have HB' : Hid (Below w.heap.size w ((wA.alloc (.cells #[.int .u8 0, .int .u8 0, .int .u8 0, .int .u8 0, .int .u8 0, .int .u8 0, .int .u8 0, .int .u8 0, .int .u8 0, .int .u8 0, .int .u8 0, .int .u8 0, .int .u8 0, .int .u8 0, .int .u8 0, .int .u8 0] 35)).setRow wA.heap.size (aN 16 (dec (kF l) 14 b)))) := Lib.hid ((HB.out.trans (hbA.mono HB.out.size)).trans (hbN.mono (HB.out.trans (hbA.mono HB.out.size)).size))
  have Hb9 := Lib.hid hN
  clear hN hbA hbN H3 HR HB
  have H3 := H3'; clear H3'
  have HR := HR'; clear HR'
  have HB := HB'; clear HB'
  generalize (wA.alloc (.cells #[.int .u8 0, .int .u8 0, .int .u8 0, .int .u8 0, .int .u8 0, .int .u8 0, .int .u8 0, .int .u8 0, .int .u8 0, .int .u8 0, .int .u8 0, .int .u8 0, .int .u8 0, .int .u8 0, .int .u8 0, .int .u8 0] 35)).setRow wA.heap.size (aN 16 (dec (kF l) 14 b)) = wrn at *
  generalize wA.heap.size = b9 at *
  try clear wr
  obtain ⟨wr, rfl⟩ : ∃ wr : World, wr = wrn := ⟨_, rfl⟩
  have hq := eqv (dec (kF l) 14 b) (dec (kF l) 14 b) true (sameB_true (E16.refl _))
  have hg16 := guard16
  refine wp_region_noPanic ?_
  refine wp_region_held_drew (S := (fun w' => w'.rangeAt b9 0 (vl 16 (dec (kF l) 14 b)) ∧ w'.rangeAt w.heap.size 0 (vl 16 b))) (by kernel_rfl) ?_ (fun hHeld => ?_)
  · exact ⟨H16.range (w := wr.drew) Hb9.out, H16.range (w := wr.drew) H3.out⟩
  refine wpAnyH_take (i := 0) (v := ?_) rfl (by kernel_rfl) (by kernel_rfl) (by kernel_rfl) (fun _ _ _ h => h) (Or.inl ⟨by rfl, ?_⟩) hHeld ?_
  rotate_left
  · intro w' hSw
    (try dsimp only at hSw)
    go_simp
    try with_reducible rfl
  try simp only [Act.put, List.getElem_toArray, List.getElem_cons_zero, List.getElem_cons_succ, List.setIfInBounds_toArray, List.set_cons_zero, List.set_cons_succ]
  refine wpAnyH_take (i := 1) (v := ?_) rfl (by kernel_rfl) (by kernel_rfl) (by kernel_rfl) (fun _ _ _ h => h) (Or.inl ⟨by rfl, ?_⟩) hHeld ?_
  rotate_left
  · intro w' hSw
    (try dsimp only at hSw)
    go_simp
    try with_reducible rfl
  try simp only [Act.put, List.getElem_toArray, List.getElem_cons_zero, List.getElem_cons_succ, List.setIfInBounds_toArray, List.set_cons_zero, List.set_cons_succ]
  refine wpAnyH_take (i := 2) (v := ?_) rfl (by kernel_rfl) (by kernel_rfl) (by kernel_rfl) (fun _ _ _ h => h) (Or.inl ⟨by rfl, ?_⟩) hHeld ?_
  rotate_left
  · intro w' hSw
    (try dsimp only at hSw)
    go_simp
    try with_reducible rfl
  try simp only [Act.put, List.getElem_toArray, List.getElem_cons_zero, List.getElem_cons_succ, List.setIfInBounds_toArray, List.set_cons_zero, List.set_cons_succ]
  refine wpAnyH_take (i := 3) rfl (by kernel_rfl) (by kernel_rfl) (by kernel_rfl) (fun _ _ _ h => h) (yieldsIf_load_mid (by rfl) 35 (.tmp 7) rfl (b9) (0) rfl (vl 16 (dec (kF l) 14 b)) (.array 16 5) (fun _ h => h.1) Try.underlying35 rfl (by rw [vl_len]; exact block_size)) hHeld ?_
  try simp only [Act.put, List.getElem_toArray, List.getElem_cons_zero, List.getElem_cons_succ, List.setIfInBounds_toArray, List.set_cons_zero, List.set_cons_succ]
  refine wpAnyH_take (i := 4) (v := ?_) rfl (by kernel_rfl) (by kernel_rfl) (by kernel_rfl) (fun _ _ _ h => h) (Or.inl ⟨by rfl, ?_⟩) hHeld ?_
  rotate_left
  · intro w' hSw
    (try dsimp only at hSw)
    go_simp
    try with_reducible rfl
  try simp only [Act.put, List.getElem_toArray, List.getElem_cons_zero, List.getElem_cons_succ, List.setIfInBounds_toArray, List.set_cons_zero, List.set_cons_succ]
  refine wpAnyH_take (i := 5) rfl (by kernel_rfl) (by kernel_rfl) (by kernel_rfl) (fun _ _ _ h => h) (yieldsIf_load_mid (by rfl) 35 (.tmp 3) rfl (w.heap.size) (0) rfl (vl 16 b) (.array 16 5) (fun _ h => h.2) Try.underlying35 rfl (by rw [vl_len]; exact block_size)) hHeld ?_
  try simp only [Act.put, List.getElem_toArray, List.getElem_cons_zero, List.getElem_cons_succ, List.setIfInBounds_toArray, List.set_cons_zero, List.set_cons_succ]
  refine wpAnyH_ready (rs := [6]) (by kernel_rfl) (by simp) ?_
  refine AllReadyH.cons rfl (fun K hK => ?_) (AllReadyH.nil)
  · try simp only [List.getElem_toArray, List.getElem_cons_zero, List.getElem_cons_succ]
    go_simp
    refine (rdec32_any A l cap b HLG.out HL.out HBB.out wr.drew (show Rd wr.drew wr.drew.heap.size A (vn l) from HR.out)).mono ?_
    rintro e wx ⟨rfl, hbx⟩
    rw [aN_vl 16 (dec (kF l) 14 b)]
    refine hK.out _ _ ?_ (fun hHeld => ?_)
    · exact ⟨range_call hbx hHeld.1, range_call hbx hHeld.2⟩
    clear hK K
    try simp only [Act.put, List.getElem_toArray, List.getElem_cons_zero, List.getElem_cons_succ, List.setIfInBounds_toArray, List.set_cons_zero, List.set_cons_succ]
    refine wpAnyH_take (i := 7) (v := ?_) rfl (by kernel_rfl) (by kernel_rfl) (by kernel_rfl) (fun _ _ _ h => h) (Or.inl ⟨by rfl, ?_⟩) hHeld ?_
    rotate_left
    · intro w' hSw
      (try dsimp only at hSw)
      go_simp
      try with_reducible rfl
    try simp only [Act.put, List.getElem_toArray, List.getElem_cons_zero, List.getElem_cons_succ, List.setIfInBounds_toArray, List.set_cons_zero, List.set_cons_succ]
    refine wpAnyH_take (i := 8) (v := ?_) rfl (by kernel_rfl) (by kernel_rfl) (by kernel_rfl) (fun _ _ _ h => h) (Or.inl ⟨by rfl, ?_⟩) hHeld ?_
    rotate_left
    · intro w' hSw
      (try dsimp only at hSw)
      go_simp
      try with_reducible rfl
    try simp only [Act.put, List.getElem_toArray, List.getElem_cons_zero, List.getElem_cons_succ, List.setIfInBounds_toArray, List.set_cons_zero, List.set_cons_succ]
    refine wpAnyH_take (i := 9) (v := ?_) rfl (by kernel_rfl) (by kernel_rfl) (by kernel_rfl) (fun _ _ _ h => h) (Or.inl ⟨by rfl, ?_⟩) hHeld ?_
    rotate_left
    · intro w' hSw
      (try dsimp only at hSw)
      go_simp
      try with_reducible rfl
    try simp only [Act.put, List.getElem_toArray, List.getElem_cons_zero, List.getElem_cons_succ, List.setIfInBounds_toArray, List.set_cons_zero, List.set_cons_succ]
    refine wpAnyH_ready (rs := [10]) (by kernel_rfl) (by simp) ?_
    refine AllReadyH.cons rfl (fun K hK => ?_) (AllReadyH.nil)
    · try simp only [List.getElem_toArray, List.getElem_cons_zero, List.getElem_cons_succ]
      go_simp
      refine (known03_any _).mono ?_
      rintro e wy ⟨rfl, hby⟩
      refine hK.out _ _ ?_ (fun hHeld => ?_)
      · exact ⟨range_call hby hHeld.1, range_call hby hHeld.2⟩
      clear hK K
      try simp only [Act.put, List.getElem_toArray, List.getElem_cons_zero, List.getElem_cons_succ, List.setIfInBounds_toArray, List.set_cons_zero, List.set_cons_succ]
      refine wpAnyH_take (i := 11) (v := ?_) rfl (by kernel_rfl) (by kernel_rfl) (by kernel_rfl) (fun _ _ _ h => h) (Or.inl ⟨by rfl, ?_⟩) hHeld ?_
      rotate_left
      · intro w' hSw
        (try dsimp only at hSw)
        go_simp
        try with_reducible rfl
      try simp only [Act.put, List.getElem_toArray, List.getElem_cons_zero, List.getElem_cons_succ, List.setIfInBounds_toArray, List.set_cons_zero, List.set_cons_succ]
      refine wpAnyH_take (i := 12) (v := ?_) rfl (by kernel_rfl) (by kernel_rfl) (by kernel_rfl) (fun _ _ _ h => h) (Or.inl ⟨by rfl, ?_⟩) hHeld ?_
      rotate_left
      · intro w' hSw
        (try dsimp only at hSw)
        go_simp
        try with_reducible rfl
      try simp only [Act.put, List.getElem_toArray, List.getElem_cons_zero, List.getElem_cons_succ, List.setIfInBounds_toArray, List.set_cons_zero, List.set_cons_succ]
      refine wpAnyH_done (by kernel_rfl) ?_ _
      refine NoPanic.normal ?_
      go_wp2_with fail
      go_ret
      exact ⟨rfl, (HB.out.drew.trans (hbx.mono HB.out.size)).trans (hby.mono (HB.out.drew.trans (hbx.mono HB.out.size)).size)⟩

set_option maxRecDepth 100000 in
set_option maxHeartbeats 1000000 in
theorem adecrypts_none (A : Option Addr) (N cap : Nat) (b : Nat → Nat) (h1 : N ≠ 16) (h2 : N ≠ 32) (w : World) :
    Calls Try.prog 5 #[.slice A N cap, .agg (aN 16 b)] w fun e w' => e = .returned (.bool true) ∧ Below w.heap.size w w' := by
  have hB : Below w.heap.size w (w.alloc (.cells (aN 16 b) 35)) := (Below.refl _ _).alloc (Nat.le_refl _) _
  have HB := Lib.hid hB; clear hB
  have hm := Lib.hid (fun w => may_no A N cap h1 h2 w)
  clear h1 h2
  go_enter Try.func5, Try.ntmps5
  go_wp2_with fail
  generalize w.alloc (.cells (aN 16 b) 35) = w1 at *
  refine (hm.out _).mono ?_
  rintro e w2 ⟨rfl, rfl⟩
  go_wp2_with fail
  refine (known03_any _).mono ?_
  rintro e w3 ⟨rfl, hb3⟩
  go_wp2_with fail
  go_ret
  exact ⟨rfl, HB.out.trans (hb3.mono HB.out.size)⟩

theorem adecrypts_any (A : Option Addr) (l : List UInt8) (n cap : Nat) (hn : l.length = n) (b : Nat → Nat) (w : World) (_hle : n ≤ 140737488351232) (hcap : n ≤ cap) (h : Rd w w.heap.size A (vb l)) (hb : ∀ i, i < 16 → b i < 256) :
    Calls Try.prog 5 #[.slice A n cap, .agg (aN 16 b)] w fun e w' => e = .returned (.bool true) ∧ Below w.heap.size w w' := by
  rw [vb_vn] at h
  by_cases h1 : n = 16
  · subst h1
    exact adec16_any A _ cap b (by simp [hn]) (vb_lt l) hcap hb w h
  · by_cases h2 : n = 32
    · subst h2
      exact adec32_any A _ cap b (by simp [hn]) (vb_lt l) hcap hb w h
    · exact adecrypts_none A n cap b h1 h2 w

set_option maxRecDepth 100000 in
theorem adecrypts_lifted (os : Os) (started : os.Started) (H : Type) (enc : TypeId × Value → H) :
    ReturnsInHanded {} Try.checked os 5 .any (Rows.aesDecryptsSpec.pre6 enc Try.prog Try.f5 Rows.aesDecryptsRow.domain false) (Rows.aesDecryptsSpec.post enc Try.prog Try.f5 false true false false) := by
  refine returnsInHanded_of_change_sized (C := Try.checked) Try.own started (by kernel_rfl) Try.func5
    (ChangeSpec.witness6 (enc := enc) (C := Try.checked) false ⟨#[], #[.slice none 0 0, .agg #[.int .u8 0, .int .u8 0, .int .u8 0, .int .u8 0, .int .u8 0, .int .u8 0, .int .u8 0, .int .u8 0, .int .u8 0, .int .u8 0, .int .u8 0, .int .u8 0, .int .u8 0, .int .u8 0, .int .u8 0, .int .u8 0]], []⟩ 8 (by kernel_rfl) (by kernel_rfl) (by kernel_rfl) (by kernel_rfl)) ?_
  intro W base args ds gs before hval0 hW _ hsz0 _
  have hsz : (DataW.weightsEach Try.prog (Try.f5.params.toList ++ Rows.aesDecryptsSpec.plain.varTypes Try.prog) (ds ++ gs)).all (· ≤ reachBytes) = true := hsz0
  have hval : ∀ (j : Nat) t v, Try.f5.params[j]? = some t → args[j]? = some v → Value.okWide Try.prog W .any base t v := hval0
  have hW' := hW
  obtain ⟨p, q, hA0, hV, rfl, _, _⟩ := hW
  have hA : DataW.TrodAll enc Try.prog W 0 (fun _ => true) true Try.f5.params.toList args.toList ds p := hA0
  rw [Try.params5] at hA hval hsz
  have hlt := hW'.lt
  clear hA0 hval0 hsz0
  obtain ⟨v0, vs0, d0, ds0, p0, q0, hv0, rfl, rfl, h0, r0⟩ := trodAll_cons hA
  obtain ⟨v1, vs1, d1, ds1, p1, q1, hv1, rfl, rfl, h1, r1⟩ := trodAll_cons r0
  subst hv1
  obtain ⟨rfl, rfl, rfl⟩ := trodAll_nil r1
  obtain rfl : args = #[v0, v1] := by cases args; simp_all
  obtain ⟨rfl, rfl⟩ := trodVars_none hV
  obtain ⟨A0, l0, c0, rfl, rd0, le0, lc0⟩ := open_bytes_cap Try.underlying22 Try.underlying5 Try.cellsU8 (hval 0 22 v0 rfl rfl) h0 (fun x hx => hlt x (by simp [hx])) (fun es sp he => by subst he; have := sized_slice hsz (j := 0) (t := 22) (e := 5) rfl rfl Try.underlying22; rw [Try.bytesU8, Nat.mul_one] at this; exact this)
  obtain ⟨f1, rfl, u1⟩ := open_arr_u8 Try.underlying35 Try.underlying5 Try.cellsU8 (by kernel_rfl) (hval 1 35 v1 rfl rfl) h1
  refine (adecrypts_any A0 l0 l0.length c0 rfl f1 W le0 lc0 rd0 u1).mono fun e W' ⟨he, hb⟩ => ⟨_, he, ?_⟩
  exact law_post 4 Try.underlying4 (by kernel_rfl) rfl Try.laidOut (by kernel_rfl) hW' ⟨rfl, rfl, rfl⟩ hb

theorem adecrypts_holds : Rows.AesDecryptsSaid :=
  OpenClaim.holds_of_wide 5 Try.f5 rfl rfl rfl rfl rfl rfl rfl ⟨rfl, rfl, rfl, rfl, rfl⟩ rfl rfl rfl rfl rfl (by kernel_rfl) Try.func5 (by kernel_rfl)
    (of_decide_eq_true (by kernel_rfl)) (by unfold Func.isWrapper; first | (rw [if_pos (by decide +kernel)]; kernel_rfl) | (rw [if_neg (by decide +kernel)]; exact ⟨rfl, rfl⟩))
    (fun os started H enc _ => adecrypts_lifted os started H enc)
end Go.Proofs.Ytljmkleppoacaaa
