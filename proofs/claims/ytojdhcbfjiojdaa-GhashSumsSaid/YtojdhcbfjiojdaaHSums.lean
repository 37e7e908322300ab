/-
  The hash of any two texts under any element is the document's; they stay: GhashSums, for every input.
-/
import Derived.Test.YtojdhcbfjiojdaaLaw
import Derived.Test.YtojdhcbfjiojdaaGhL
namespace Go.Proofs.Ytojdhcbfjiojdaa
open Go Go.RowKit Go.ChangeShapes Go.WideShapes Go.ChangeAt
set_option linter.unusedVariables false
set_option linter.unusedSimpArgs false

theorem same_b (A B : Option Addr) (a b : List UInt8) (n m ca cb : Nat) (hn : a.length = n) (hm : b.length = m) (he : a = b) (w : World) (h : Rd w w.heap.size A (vb a)) (h' : Rd w w.heap.size B (vb b)) :
    Calls Try.prog 13 #[.slice A n ca, .slice B m cb] w fun e w' => e = .returned (.bool true) ∧ Below w.heap.size w w' := by
  refine (rsamev_any A B a b n m ca cb hn hm w h h').mono ?_
  rintro e w' ⟨rfl, rfl⟩
  exact ⟨by subst he; simp, Below.refl _ _⟩

set_option maxRecDepth 100000 in
set_option maxHeartbeats 4000000 in
theorem hsums_any (h : Nat → Nat) (A : Option Addr) (l : List UInt8) (n ca : Nat) (hn : l.length = n) (B : Option Addr) (t : List UInt8) (m cb : Nat) (hm : t.length = m) (w : World) (hh : ∀ i, i < 16 → h i < 256) (hl1 : n ≤ 140737488351232) (h1 : Rd w w.heap.size A (vb l)) (hl2 : m ≤ 140737488351232) (h2 : Rd w w.heap.size B (vb t)) :
    Calls Try.prog 4 #[.agg (aN 16 h), .slice A n ca, .slice B m cb] w fun e w' => e = .returned (.bool true) ∧ Below w.heap.size w w' := by
  have hB : Below w.heap.size w (w.alloc (.cells (aN 16 h) 22)) := (Below.refl _ _).alloc (Nat.le_refl _) _
  have H3 : Hid (H16 (w.alloc (.cells (aN 16 h) 22)) w.heap.size h) := Lib.hid (H16.newAt rfl)
  have R1 := Lib.hid (h1.go hB); clear h1
  have R2 := Lib.hid (h2.go hB); clear h2
  have HB := Lib.hid hB; clear hB
  have HH : Hid (B16 h) := Lib.hid hh; clear hh
  have HN := Lib.hid (And.intro hn hm); clear hn hm
  by_cases hbig : n ≤ 2000 ∧ m ≤ 2000
  · obtain ⟨g1, g2⟩ := hbig
    have i1 : ¬ (2000 : Int) < (n : Int) := by omega
    have i2 : ¬ (2000 : Int) < (m : Int) := by omega
    have hq := eqv (hby (gS (hof h) (l.map UInt8.toNat) (t.map UInt8.toNat))) (hby (gS (hof h) (l.map UInt8.toNat) (t.map UInt8.toNat))) true (sameB_true (E16.refl _))
    have hg16 := guard16
    go_enter Try.func4, Try.ntmps4
    go_wp2_with fail
    generalize w.alloc (.cells (aN 16 h) 22) = w1 at *
    refine (copyv_any A (vb l) n ca (by simpa using HN.out.1) (vb_onec l) w1 hl1 R1.out).mono ?_
    rintro e w2 ⟨v2, rfl, ho2, hb2⟩
    obtain ⟨A2, c2, rfl, _, _⟩ := Rd.of_own ho2
    have hc2 := own_cap ho2
    have HO2 := Lib.hid ho2; clear ho2
    have R2b := Lib.hid (R2.out.go hb2)
    have R1b := Lib.hid (R1.out.go hb2)
    have B2 : Hid (Below w.heap.size w w2) := Lib.hid (HB.out.trans (hb2.mono HB.out.size))
    have H3b := Lib.hid (H3.out.call hb2)
    clear hb2 R1 R2 HB H3
    go_wp2_with fail
    refine (copyv_any B (vb t) m cb (by simpa using HN.out.2) (vb_onec t) w2 hl2 R2b.out).mono ?_
    rintro e w3 ⟨v3, rfl, ho3, hb3⟩
    obtain ⟨A3, c3, rfl, _, _⟩ := Rd.of_own ho3
    have hc3 := own_cap ho3
    have r3 : Rd w3 w3.heap.size A3 (vb t) := by
      obtain ⟨A', c', e', _, r⟩ := Rd.of_own ho3
      cases e'; exact r
    have r2 : Rd w3 w3.heap.size A2 (vb l) := by
      obtain ⟨A', c', e', _, r⟩ := Rd.of_own (own_below HO2.out hb3)
      cases e'; exact r
    have R2c := Lib.hid (R2b.out.go hb3)
    have R1c := Lib.hid (R1b.out.go hb3)
    have B3 : Hid (Below w.heap.size w w3) := Lib.hid (B2.out.trans (hb3.mono B2.out.size))
    have H3c := Lib.hid (H3b.out.call hb3)
    have d3 : w3.heap[w.heap.size]? = some (.cells (aN 16 h) 22 (0, 0)) := H3c.out
    have Q3 := Lib.hid r3; clear r3
    have Q2 := Lib.hid r2; clear r2
    clear hb3 R1b R2b B2 H3b ho3 HO2
    go_wp2_with (refine wpList_load_row rfl 22 (.tmp 3) rfl w.heap.size rfl 22 (aN 16 h) (0, 0) (.array 16 5) d3 Try.underlying22 rfl (by rw [aN_size]; exact blk_size) ?_)
    have q2 := Q2.out
    have q3 := Q3.out
    rw [vb_vn] at q2 q3
    refine (csum_any h HH.out A2 A3 (l.map UInt8.toNat) (t.map UInt8.toNat) n m c2 c3 (by simpa using HN.out.1) (by simpa using HN.out.2) (vb_lt l) (vb_lt t) hc2 hc3 (by omega) (by omega) w3 q2 q3).mono ?_
    clear q2 q3 d3
    rintro e w4 ⟨rfl, hb4⟩
    have dS := new_dS w4
    go_upto_region 5 with (refine wpList_store_row rfl 22 (.tmp 9) (.tmp 26) rfl w4.heap.size (aN 16 (hby (gS (hof h) (l.map UInt8.toNat) (t.map UInt8.toNat)))) rfl rfl 22 _ dS (by rw [aN_size]; exact blk_size) (by simp only [aN_size]) (aN_one _ _) ?_)
    obtain ⟨hN9, hbN⟩ := new_row w4 (hby (gS (hof h) (l.map UInt8.toNat) (t.map UInt8.toNat)))
    have hb5 := hb4.trans (hbN.mono hb4.size)
    have R1d := Lib.hid (R1c.out.go hb5)
    have R2d := Lib.hid (R2c.out.go hb5)
    have Q2d := Lib.hid (Q2.out.go hb5)
    have Q3d := Lib.hid (Q3.out.go hb5)
    have H3d := Lib.hid (H3c.out.call hb5)
    have H9 := Lib.hid hN9; clear hN9
    have B5 : Hid (Below w.heap.size w ((w4.alloc (.cells #[.int .u8 0, .int .u8 0, .int .u8 0, .int .u8 0, .int .u8 0, .int .u8 0, .int .u8 0, .int .u8 0, .int .u8 0, .int .u8 0, .int .u8 0, .int .u8 0, .int .u8 0, .int .u8 0, .int .u8 0, .int .u8 0] 22)).setRow w4.heap.size (aN 16 (hby (gS (hof h) (l.map UInt8.toNat) (t.map UInt8.toNat)))))) := Lib.hid (B3.out.trans (hb5.mono B3.out.size))
    clear hb4 hbN hb5 R1c R2c Q2 Q3 H3c B3 dS
    generalize (w4.alloc (.cells #[.int .u8 0, .int .u8 0, .int .u8 0, .int .u8 0, .int .u8 0, .int .u8 0, .int .u8 0, .int .u8 0, .int .u8 0, .int .u8 0, .int .u8 0, .int .u8 0, .int .u8 0, .int .u8 0, .int .u8 0, .int .u8 0] 22)).setRow w4.heap.size (aN 16 (hby (gS (hof h) (l.map UInt8.toNat) (t.map UInt8.toNat)))) = w0 at *
    obtain ⟨b9, hb9⟩ : ∃ b9, b9 = w4.heap.size := ⟨_, rfl⟩
    rw [← hb9] at H9
    rw [← hb9]
    clear hb9
    refine wp_region_noPanic ?_
    refine wp_region_held_drew (S := (fun w' => w'.rangeAt (b9) 0 (vl 16 (hby (gS (hof h) (l.map UInt8.toNat) (t.map UInt8.toNat)))) ∧ w'.rangeAt (w.heap.size) 0 (vl 16 (h)) ∧ Below w0.heap.size w0 w')) (by kernel_rfl) ?_ (fun hHeld => ?_)
    · exact ⟨range_kept ((Below.refl w0.heap.size w0).drew) (row16_range H9.out), range_kept ((Below.refl w0.heap.size w0).drew) (row16_range H3d.out), (Below.refl w0.heap.size w0).drew⟩
    have hs2 : Below w0.heap.size w0 w0.drew := (Below.refl w0.heap.size w0).drew
    generalize w0.drew = ws1 at *
    refine wpAnyH_take (i := 0) (v := ?_) rfl (by kernel_rfl) (by kernel_rfl) (by kernel_rfl) (fun _ _ _ h => h) (Or.inl ⟨by rfl, ?_⟩) hHeld ?_
    rotate_left
    · intro w' hSw
      (try dsimp only at hSw)
      go_simp
      try with_reducible rfl
    try simp only [Act.put, List.getElem_toArray, List.getElem_cons_zero, List.getElem_cons_succ, List.setIfInBounds_toArray, List.set_cons_zero, List.set_cons_succ]
    refine wpAnyH_take (i := 1) (v := ?_) rfl (by kernel_rfl) (by kernel_rfl) (by kernel_rfl) (fun _ _ _ h => h) (Or.inl ⟨by rfl, ?_⟩) hHeld ?_
    rotate_left
    · intro w' hSw
      (try dsimp only at hSw)
      go_simp
      try with_reducible rfl
    try simp only [Act.put, List.getElem_toArray, List.getElem_cons_zero, List.getElem_cons_succ, List.setIfInBounds_toArray, List.set_cons_zero, List.set_cons_succ]
    refine wpAnyH_ready (rs := [2]) (by kernel_rfl) (by simp) ?_
    refine AllReadyH.cons rfl (fun K hK => ?_) (AllReadyH.nil)
    · try simp only [List.getElem_toArray, List.getElem_cons_zero, List.getElem_cons_succ]
      go_simp
      refine (same_b A2 A l l n n c2 ca HN.out.1 HN.out.1 rfl _ (Q2d.out.go hs2) (R1d.out.go hs2)).mono ?_
      rintro e w3 ⟨rfl, hb4⟩
      have hw5 : Below w0.heap.size w0 w3 := hs2.trans (hb4.mono hs2.size)
      refine hK.out _ _ ?_ (fun hHeld => ?_)
      · exact ⟨range_kept (hw5) (row16_range H9.out), range_kept (hw5) (row16_range H3d.out), hw5⟩
      clear hK K
      try simp only [Act.put, List.getElem_toArray, List.getElem_cons_zero, List.getElem_cons_succ, List.setIfInBounds_toArray, List.set_cons_zero, List.set_cons_succ]
      clear hb4
      refine wpAnyH_take (i := 3) (v := ?_) rfl (by kernel_rfl) (by kernel_rfl) (by kernel_rfl) (fun _ _ _ h => h) (Or.inl ⟨by rfl, ?_⟩) hHeld ?_
      rotate_left
      · intro w' hSw
        (try dsimp only at hSw)
        go_simp
        try with_reducible rfl
      try simp only [Act.put, List.getElem_toArray, List.getElem_cons_zero, List.getElem_cons_succ, List.setIfInBounds_toArray, List.set_cons_zero, List.set_cons_succ]
      refine wpAnyH_take (i := 4) (v := ?_) rfl (by kernel_rfl) (by kernel_rfl) (by kernel_rfl) (fun _ _ _ h => h) (Or.inl ⟨by rfl, ?_⟩) hHeld ?_
      rotate_left
      · intro w' hSw
        (try dsimp only at hSw)
        go_simp
        try with_reducible rfl
      try simp only [Act.put, List.getElem_toArray, List.getElem_cons_zero, List.getElem_cons_succ, List.setIfInBounds_toArray, List.set_cons_zero, List.set_cons_succ]
      refine wpAnyH_take (i := 5) (v := ?_) rfl (by kernel_rfl) (by kernel_rfl) (by kernel_rfl) (fun _ _ _ h => h) (Or.inl ⟨by rfl, ?_⟩) hHeld ?_
      rotate_left
      · intro w' hSw
        (try dsimp only at hSw)
        go_simp
        try with_reducible rfl
      try simp only [Act.put, List.getElem_toArray, List.getElem_cons_zero, List.getElem_cons_succ, List.setIfInBounds_toArray, List.set_cons_zero, List.set_cons_succ]
      refine wpAnyH_ready (rs := [6]) (by kernel_rfl) (by simp) ?_
      refine AllReadyH.cons rfl (fun K hK => ?_) (AllReadyH.nil)
      · try simp only [List.getElem_toArray, List.getElem_cons_zero, List.getElem_cons_succ]
        go_simp
        refine (same_b A3 B t t m m c3 cb HN.out.2 HN.out.2 rfl _ (Q3d.out.go hw5) (R2d.out.go hw5)).mono ?_
        rintro e w6 ⟨rfl, hb7⟩
        have hw8 : Below w0.heap.size w0 w6 := hw5.trans (hb7.mono hw5.size)
        refine hK.out _ _ ?_ (fun hHeld => ?_)
        · exact ⟨range_kept (hw8) (row16_range H9.out), range_kept (hw8) (row16_range H3d.out), hw8⟩
        clear hK K
        try simp only [Act.put, List.getElem_toArray, List.getElem_cons_zero, List.getElem_cons_succ, List.setIfInBounds_toArray, List.set_cons_zero, List.set_cons_succ]
        clear hb7
        refine wpAnyH_take (i := 7) (v := ?_) rfl (by kernel_rfl) (by kernel_rfl) (by kernel_rfl) (fun _ _ _ h => h) (Or.inl ⟨by rfl, ?_⟩) hHeld ?_
        rotate_left
        · intro w' hSw
          (try dsimp only at hSw)
          go_simp
          try with_reducible rfl
        try simp only [Act.put, List.getElem_toArray, List.getElem_cons_zero, List.getElem_cons_succ, List.setIfInBounds_toArray, List.set_cons_zero, List.set_cons_succ]
        refine wpAnyH_take (i := 8) (v := ?_) rfl (by kernel_rfl) (by kernel_rfl) (by kernel_rfl) (fun _ _ _ h => h) (Or.inl ⟨by rfl, ?_⟩) hHeld ?_
        rotate_left
        · intro w' hSw
          (try dsimp only at hSw)
          go_simp
          try with_reducible rfl
        try simp only [Act.put, List.getElem_toArray, List.getElem_cons_zero, List.getElem_cons_succ, List.setIfInBounds_toArray, List.set_cons_zero, List.set_cons_succ]
        refine wpAnyH_take (i := 9) rfl (by kernel_rfl) (by kernel_rfl) (by kernel_rfl) (fun _ _ _ h => h) (yieldsIf_load_mid (by rfl) 22 (.tmp 9) rfl (b9) (0) rfl (vl 16 (hby (gS (hof h) (l.map UInt8.toNat) (t.map UInt8.toNat)))) (.array 16 5) (fun _ h => h.1) Try.underlying22 rfl (by rw [vl_len]; exact blk_size)) hHeld ?_
        try simp only [Act.put, List.getElem_toArray, List.getElem_cons_zero, List.getElem_cons_succ, List.setIfInBounds_toArray, List.set_cons_zero, List.set_cons_succ]
        refine wpAnyH_take (i := 10) rfl (by kernel_rfl) (by kernel_rfl) (by kernel_rfl) (fun _ _ _ h => h) (yieldsIf_load_mid (by rfl) 22 (.tmp 3) rfl (w.heap.size) (0) rfl (vl 16 (h)) (.array 16 5) (fun _ h => h.2.1) Try.underlying22 rfl (by rw [vl_len]; exact blk_size)) hHeld ?_
        try simp only [Act.put, List.getElem_toArray, List.getElem_cons_zero, List.getElem_cons_succ, List.setIfInBounds_toArray, List.set_cons_zero, List.set_cons_succ]
        refine wpAnyH_take (i := 11) (v := ?_) rfl (by kernel_rfl) (by kernel_rfl) (by kernel_rfl) (fun _ _ _ h => h) (Or.inl ⟨by rfl, ?_⟩) hHeld ?_
        rotate_left
        · intro w' hSw
          (try dsimp only at hSw)
          go_simp
          try with_reducible rfl
        try simp only [Act.put, List.getElem_toArray, List.getElem_cons_zero, List.getElem_cons_succ, List.setIfInBounds_toArray, List.set_cons_zero, List.set_cons_succ]
        refine wpAnyH_take (i := 12) (v := ?_) rfl (by kernel_rfl) (by kernel_rfl) (by kernel_rfl) (fun _ _ _ h => h) (Or.inl ⟨by rfl, ?_⟩) hHeld ?_
        rotate_left
        · intro w' hSw
          (try dsimp only at hSw)
          go_simp
          try with_reducible rfl
        try simp only [Act.put, List.getElem_toArray, List.getElem_cons_zero, List.getElem_cons_succ, List.setIfInBounds_toArray, List.set_cons_zero, List.set_cons_succ]
        refine wpAnyH_ready (rs := [13]) (by kernel_rfl) (by simp) ?_
        refine AllReadyH.cons rfl (fun K hK => ?_) (AllReadyH.nil)
        · try simp only [List.getElem_toArray, List.getElem_cons_zero, List.getElem_cons_succ]
          go_simp
          refine (rsum_any h HH.out A B (l.map UInt8.toNat) (t.map UInt8.toNat) n m ca cb (by simpa using HN.out.1) (by simpa using HN.out.2) (vb_lt l) (vb_lt t) (by omega) (by omega) _ (by rw [← vb_vn]; exact (R1d.out.go hw8)) (by rw [← vb_vn]; exact (R2d.out.go hw8))).mono ?_
          rintro e w9 ⟨rfl, hb10⟩
          rw [aN_vl 16 (hby (gS (hof h) (l.map UInt8.toNat) (t.map UInt8.toNat)))]
          have hw11 : Below w0.heap.size w0 w9 := hw8.trans (hb10.mono hw8.size)
          refine hK.out _ _ ?_ (fun hHeld => ?_)
          · exact ⟨range_kept (hw11) (row16_range H9.out), range_kept (hw11) (row16_range H3d.out), hw11⟩
          clear hK K
          try simp only [Act.put, List.getElem_toArray, List.getElem_cons_zero, List.getElem_cons_succ, List.setIfInBounds_toArray, List.set_cons_zero, List.set_cons_succ]
          clear hb10
          refine wpAnyH_take (i := 14) (v := ?_) rfl (by kernel_rfl) (by kernel_rfl) (by kernel_rfl) (fun _ _ _ h => h) (Or.inl ⟨by rfl, ?_⟩) hHeld ?_
          rotate_left
          · intro w' hSw
            (try dsimp only at hSw)
            go_simp
            try with_reducible rfl
          try simp only [Act.put, List.getElem_toArray, List.getElem_cons_zero, List.getElem_cons_succ, List.setIfInBounds_toArray, List.set_cons_zero, List.set_cons_succ]
          refine wpAnyH_take (i := 15) (v := ?_) rfl (by kernel_rfl) (by kernel_rfl) (by kernel_rfl) (fun _ _ _ h => h) (Or.inl ⟨by rfl, ?_⟩) hHeld ?_
          rotate_left
          · intro w' hSw
            (try dsimp only at hSw)
            go_simp
            try with_reducible rfl
          try simp only [Act.put, List.getElem_toArray, List.getElem_cons_zero, List.getElem_cons_succ, List.setIfInBounds_toArray, List.set_cons_zero, List.set_cons_succ]
          refine wpAnyH_take (i := 16) (v := ?_) rfl (by kernel_rfl) (by kernel_rfl) (by kernel_rfl) (fun _ _ _ h => h) (Or.inl ⟨by rfl, ?_⟩) hHeld ?_
          rotate_left
          · intro w' hSw
            (try dsimp only at hSw)
            go_simp
            try with_reducible rfl
          try simp only [Act.put, List.getElem_toArray, List.getElem_cons_zero, List.getElem_cons_succ, List.setIfInBounds_toArray, List.set_cons_zero, List.set_cons_succ]
          refine wpAnyH_ready (rs := [17]) (by kernel_rfl) (by simp) ?_
          refine AllReadyH.cons rfl (fun K hK => ?_) (AllReadyH.nil)
          · try simp only [List.getElem_toArray, List.getElem_cons_zero, List.getElem_cons_succ]
            go_simp
            refine (known04_any _).mono ?_
            rintro e w12 ⟨rfl, hb13⟩
            have hw14 : Below w0.heap.size w0 w12 := hw11.trans (hb13.mono hw11.size)
            refine hK.out _ _ ?_ (fun hHeld => ?_)
            · exact ⟨range_kept (hw14) (row16_range H9.out), range_kept (hw14) (row16_range H3d.out), hw14⟩
            clear hK K
            try simp only [Act.put, List.getElem_toArray, List.getElem_cons_zero, List.getElem_cons_succ, List.setIfInBounds_toArray, List.set_cons_zero, List.set_cons_succ]
            clear hb13
            refine wpAnyH_take (i := 18) (v := ?_) rfl (by kernel_rfl) (by kernel_rfl) (by kernel_rfl) (fun _ _ _ h => h) (Or.inl ⟨by rfl, ?_⟩) hHeld ?_
            rotate_left
            · intro w' hSw
              (try dsimp only at hSw)
              go_simp
              try with_reducible rfl
            try simp only [Act.put, List.getElem_toArray, List.getElem_cons_zero, List.getElem_cons_succ, List.setIfInBounds_toArray, List.set_cons_zero, List.set_cons_succ]
            refine wpAnyH_take (i := 19) (v := ?_) rfl (by kernel_rfl) (by kernel_rfl) (by kernel_rfl) (fun _ _ _ h => h) (Or.inl ⟨by rfl, ?_⟩) hHeld ?_
            rotate_left
            · intro w' hSw
              (try dsimp only at hSw)
              go_simp
              try with_reducible rfl
            try simp only [Act.put, List.getElem_toArray, List.getElem_cons_zero, List.getElem_cons_succ, List.setIfInBounds_toArray, List.set_cons_zero, List.set_cons_succ]
            refine wpAnyH_done (by kernel_rfl) ?_ _
            refine NoPanic.normal ?_
            go_wp2_with fail
            go_ret
            exact ⟨rfl, B5.out.trans (hw14.mono B5.out.size)⟩
  · have hor : 2000 < n ∨ (n ≤ 2000 ∧ 2000 < m) := by omega
    rcases hor with g1 | ⟨g1, g2⟩
    · have i1 : (2000 : Int) < (n : Int) := by omega
      go_enter Try.func4, Try.ntmps4
      go_wp2_with fail
      refine (known04_any _).mono ?_
      rintro e w1 ⟨rfl, hb1⟩
      go_wp2_with fail
      go_ret
      exact ⟨rfl, HB.out.trans (hb1.mono HB.out.size)⟩
    · have i1 : ¬ (2000 : Int) < (n : Int) := by omega
      have i2 : (2000 : Int) < (m : Int) := by omega
      go_enter Try.func4, Try.ntmps4
      go_wp2_with fail
      refine (known04_any _).mono ?_
      rintro e w1 ⟨rfl, hb1⟩
      go_wp2_with fail
      go_ret
      exact ⟨rfl, HB.out.trans (hb1.mono HB.out.size)⟩

set_option maxRecDepth 100000 in
theorem hsums_lifted (os : Os) (started : os.Started) (H : Type) (enc : TypeId × Value → H) :
    ReturnsInHanded {} Try.checked os 4 .any (Rows.ghashSumsSpec.pre6 enc Try.prog Try.f4 Rows.ghashSumsRow.domain false) (Rows.ghashSumsSpec.post enc Try.prog Try.f4 false true false false) := by
  refine returnsInHanded_of_change_sized (C := Try.checked) Try.own started (by kernel_rfl) Try.func4
    (ChangeSpec.witness6 (enc := enc) (C := Try.checked) false ⟨#[], #[.agg #[.int .u8 0, .int .u8 0, .int .u8 0, .int .u8 0, .int .u8 0, .int .u8 0, .int .u8 0, .int .u8 0, .int .u8 0, .int .u8 0, .int .u8 0, .int .u8 0, .int .u8 0, .int .u8 0, .int .u8 0, .int .u8 0], .slice none 0 0, .slice none 0 0], []⟩ 8 (by kernel_rfl) (by kernel_rfl) (by kernel_rfl) (by kernel_rfl)) ?_
  intro W base args ds gs before hval0 hW _ hsz0 _
  have hsz : (DataW.weightsEach Try.prog (Try.f4.params.toList ++ Rows.ghashSumsSpec.plain.varTypes Try.prog) (ds ++ gs)).all (· ≤ reachBytes) = true := hsz0
  have hval : ∀ (j : Nat) t v, Try.f4.params[j]? = some t → args[j]? = some v → Value.okWide Try.prog W .any base t v := hval0
  have hW' := hW
  obtain ⟨p, q, hA0, hV, rfl, _, _⟩ := hW
  have hA : DataW.TrodAll enc Try.prog W 0 (fun _ => true) true Try.f4.params.toList args.toList ds p := hA0
  rw [Try.params4] at hA hval hsz
  have hlt := hW'.lt
  clear hA0 hval0 hsz0
  obtain ⟨v0, vs0, d0, ds0, p0, q0, hv0, rfl, rfl, h0, r0⟩ := trodAll_cons hA
  obtain ⟨v1, vs1, d1, ds1, p1, q1, hv1, rfl, rfl, h1, r1⟩ := trodAll_cons r0
  subst hv1
  obtain ⟨v2, vs2, d2, ds2, p2, q2, hv2, rfl, rfl, h2, r2⟩ := trodAll_cons r1
  subst hv2
  obtain ⟨rfl, rfl, rfl⟩ := trodAll_nil r2
  obtain rfl : args = #[v0, v1, v2] := by cases args; simp_all
  obtain ⟨rfl, rfl⟩ := trodVars_none hV
  obtain ⟨f0, rfl, u0⟩ := open_arr_u8 Try.underlying22 Try.underlying5 Try.cellsU8 (by kernel_rfl) (hval 0 22 v0 rfl rfl) h0
  obtain ⟨A1, l1, c1, rfl, rd1, le1⟩ := open_bytes Try.underlying26 Try.underlying5 Try.cellsU8 (hval 1 26 v1 rfl rfl) h1 (fun x hx => hlt x (by simp [hx])) (fun es sp he => by subst he; have := sized_slice hsz (j := 1) (t := 26) (e := 5) rfl rfl Try.underlying26; rw [Try.bytesU8, Nat.mul_one] at this; exact this)
  obtain ⟨A2, l2, c2, rfl, rd2, le2⟩ := open_bytes Try.underlying26 Try.underlying5 Try.cellsU8 (hval 2 26 v2 rfl rfl) h2 (fun x hx => hlt x (by simp [hx])) (fun es sp he => by subst he; have := sized_slice hsz (j := 2) (t := 26) (e := 5) rfl rfl Try.underlying26; rw [Try.bytesU8, Nat.mul_one] at this; exact this)
  refine (hsums_any f0 A1 l1 l1.length c1 rfl A2 l2 l2.length c2 rfl W u0 le1 rd1 le2 rd2).mono fun e W' ⟨he, hb⟩ => ⟨_, he, ?_⟩
  exact law_post 4 Try.underlying4 (by kernel_rfl) rfl Try.laidOut (by kernel_rfl) hW' ⟨rfl, rfl, rfl⟩ hb

theorem hsums_holds : Rows.GhashSumsSaid :=
  OpenClaim.holds_of_wide 4 Try.f4 rfl rfl rfl rfl rfl rfl rfl ⟨rfl, rfl, rfl, rfl, rfl⟩ rfl rfl rfl rfl rfl (by kernel_rfl) Try.func4 (by kernel_rfl)
    (of_decide_eq_true (by kernel_rfl)) (by unfold Func.isWrapper; first | (rw [if_pos (by decide +kernel)]; kernel_rfl) | (rw [if_neg (by decide +kernel)]; exact ⟨rfl, rfl⟩))
    (fun os started H enc _ => hsums_lifted os started H enc)
end Go.Proofs.Ytojdhcbfjiojdaa
