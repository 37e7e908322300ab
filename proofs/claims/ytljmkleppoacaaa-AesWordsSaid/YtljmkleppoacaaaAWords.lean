/-
  The words of any key are the document's, or it is refused; the key stays: AesWords, for every input.
-/
import Derived.Test.YtljmkleppoacaaaLaw
import Derived.Test.YtljmkleppoacaaaAesQ
import Derived.Deep.AppendLies
namespace Go.Proofs.Ytljmkleppoacaaa
open Go Go.RowKit Go.ChangeShapes Go.WideShapes Go.ChangeAt
set_option linter.unusedVariables false
set_option linter.unusedSimpArgs false

theorem pre_four (f : Nat → Nat) (n : Nat) : pre f (n + 4) = pre f n ++ [f n, f (n + 1), f (n + 2), f (n + 3)] := by simp [pre]
theorem pre_list (l : List Nat) : pre (fun i => l.getD i 0) l.length = l := by
  apply List.ext_getElem?
  intro i
  by_cases h : i < l.length
  · rw [pre_get _ _ _ h, List.getD_eq_getElem?_getD, List.getElem?_eq_getElem h]; rfl
  · rw [List.getElem?_eq_none (by rw [pre_len]; omega), List.getElem?_eq_none (by omega)]
theorem vn_vb (l : List Nat) (h : ∀ x ∈ l, x < 256) : vn l = vb (l.map UInt8.ofNat) := by
  simp only [vn, vb, List.map_map]
  apply List.map_congr_left
  intro x hx
  have := h x hx
  show Value.int .u8 (x : Int) = Value.int .u8 ((UInt8.ofNat x).toNat : Int)
  rw [UInt8.toNat_ofNat']
  congr 2
  omega
/-- The document's Same of two rows that are one. -/
theorem same_vn (A B : Option Addr) (l : List Nat) (n ca cb : Nat) (hl : ∀ x ∈ l, x < 256) (hn : l.length = n) (w : World) {BA BB : Nat} (h : Rd w BA A (vn l)) (h' : Rd w BB B (vn l)) :
    Calls Try.prog 12 #[.slice A n ca, .slice B n cb] w fun e w' => e = .returned (.bool true) ∧ w' = w := by
  rw [vn_vb l hl] at h h'
  have := rsamev_any A B (l.map UInt8.ofNat) (l.map UInt8.ofNat) n n ca cb (by simpa using hn) (by simpa using hn) w h h'
  rwa [beq_self_eq_true] at this
theorem four_start {N : Nat} {t : TypeId} {w : World} {g o : Nat} {F x : Nat → Nat} (h : Hid (HV N t w g F)) (hx : Hid (∀ p, x p = F (o + p))) (ho : o + 4 ≤ N) :
    w.drew.cell? ⟨g, o, none⟩ = some (.int .u8 (x 0 : Int)) ∧ w.drew.cell? ⟨g, o + 1, none⟩ = some (.int .u8 (x 1 : Int)) ∧ w.drew.cell? ⟨g, o + 2, none⟩ = some (.int .u8 (x 2 : Int)) ∧ w.drew.cell? ⟨g, o + 3, none⟩ = some (.int .u8 (x 3 : Int)) := by
  have hx := hx.out
  have h := h.out.drew
  rw [hx 0, hx 1, hx 2, hx 3]
  exact ⟨h.cell _ (by omega), h.cell _ (by omega), h.cell _ (by omega), h.cell _ (by omega)⟩
theorem cell_alloc {w : World} {p : Addr} {v : Value} (h : w.cell? p = some v) (o : Obj) : (w.alloc o).cell? p = some v := (World.cell?_alloc_lt _ _ _ (block_lt_of_cell h)).trans h
theorem cell_grown {w w2 : World} {row : Option Nat} {p : Addr} {v : Value} (hg : w.grownBy w2 row) (hne : some p.block ≠ row) (h : w.cell? p = some v) : w2.cell? p = some v := (hg.cell_far p (block_lt_of_cell h) hne).trans h

set_option maxRecDepth 100000 in
set_option maxHeartbeats 1000000 in
theorem awords_none (A : Option Addr) (l : List Nat) (N cap : Nat) (hn : l.length = N) (hl : ∀ x ∈ l, x < 256) (h1 : N ≠ 16) (h2 : N ≠ 32) (w : World) (hle : N ≤ 140737488351232) (h : Rd w w.heap.size A (vn l)) :
    Calls Try.prog 3 #[.slice A N cap] w fun e w' => e = .returned (.bool true) ∧ Below w.heap.size w w' := by
  have HL := Lib.hid hl; clear hl
  have HNL := Lib.hid hn; clear hn
  have H := Lib.hid h; clear h
  have hN1 := Lib.hid h1; have hN2 := Lib.hid h2
  clear h1 h2
  go_enter Try.func3, Try.ntmps3
  go_wp2_with fail
  refine (copyv_any A (vn l) N cap (by rw [vn_len]; exact HNL.out) (vn_one l) w hle H.out).mono ?_
  rintro e w1 ⟨v, rfl, hown, hb1⟩
  obtain ⟨A2, c2, rfl, _, hin⟩ := Rd.of_own hown
  have HIN := Lib.hid hin; clear hin hown
  have HR := Lib.hid (H.out.go hb1)
  have HB := Lib.hid hb1; clear hb1 H
  go_wp2_with fail
  refine (words_none A2 N c2 hN1.out hN2.out w1).mono ?_
  rintro e w2 ⟨rfl, rfl⟩
  go_wp2_with fail
  refine (new_none A2 N c2 hN1.out hN2.out _).mono ?_
  rintro e w2 ⟨rfl, rfl⟩
  go_wp2_with fail
  refine (same_vn A2 A l N c2 cap HL.out HNL.out _ HIN.out HR.out).mono ?_
  rintro e w2 ⟨rfl, rfl⟩
  go_wp2_with fail
  refine (may_no A N cap hN1.out hN2.out _).mono ?_
  rintro e w2 ⟨rfl, rfl⟩
  go_wp2_with fail
  refine (known03_any _).mono ?_
  rintro e w3 ⟨rfl, hb3⟩
  go_wp2_with fail
  go_ret
  exact ⟨rfl, HB.out.trans (hb3.mono HB.out.size)⟩

set_option maxRecDepth 100000 in
set_option maxHeartbeats 4000000 in
theorem awords16_any (A : Option Addr) (l : List Nat) (cap : Nat) (hn : l.length = 16) (hl : ∀ x ∈ l, x < 256) (hcap : 16 ≤ cap) (w : World) (h : Rd w w.heap.size A (vn l)) :
    Calls Try.prog 3 #[.slice A 16 cap] w fun e w' => e = .returned (.bool true) ∧ Below w.heap.size w w' := by
  obtain ⟨i0, hi0, hz0, hz1, hz2⟩ := info_parts info_b
  have HI0 := Lib.hid hi0; clear hi0
  have HL := Lib.hid hl; clear hl
  have HLG := Lib.hid hn; clear hn
  have H := Lib.hid h; clear h hcap
  go_enter Try.func3, Try.ntmps3
  go_wp2_with fail
  refine (copyv_any A (vn l) 16 cap (by rw [vn_len]; exact HLG.out) (vn_one l) w (by omega) H.out).mono ?_
  rintro e w1 ⟨v, rfl, hown, hb1⟩
  obtain ⟨A2, c2, rfl, _, hin⟩ := Rd.of_own hown
  have hc2 := own_cap hown
  have HIN := Lib.hid hin; clear hin hown
  have HR := Lib.hid (H.out.go hb1)
  have HB := Lib.hid hb1; clear hb1 H
  go_wp2_with fail
  refine (words16_any A2 l c2 HLG.out hc2 HL.out w1 HIN.out).mono ?_
  rintro e w2 ⟨rfl, hv, hb2⟩
  obtain ⟨g, hg⟩ : ∃ g, g = w1.heap.size := ⟨_, rfl⟩
  rw [← hg] at hv
  rw [← hg]
  clear hg
  have HIN2 := Lib.hid (HIN.out.go hb2)
  have HR2 := Lib.hid (HR.out.go hb2)
  have HB2 := Lib.hid (HB.out.trans (hb2.mono HB.out.size))
  have HV2 := Lib.hid hv; clear hv hb2 HIN HR HB
  go_wp2_with fail
  refine (new16_any A2 l c2 HLG.out hc2 HL.out w2 HIN2.out).mono ?_
  rintro e wL ⟨c, rfl, _, hb3⟩
  have HIN := Lib.hid (HIN2.out.go hb3)
  have HR := Lib.hid (HR2.out.go hb3)
  have HB := Lib.hid (HB2.out.trans (hb3.mono HB2.out.size))
  have HV := Lib.hid (HV2.out.call hb3)
  clear HIN2 HR2 HB2 HV2 hb3
  go_wp2_with fail
  refine (same_vn A2 A l 16 c2 cap HL.out HLG.out _ HIN.out HR.out).mono ?_
  rintro e w3 ⟨rfl, rfl⟩
  obtain ⟨wL, rfl⟩ : ∃ wL : World, wL = w3 := ⟨_, rfl⟩
  go_wp2_with fail
  refine (may16 A cap _).mono ?_
  rintro e w4 ⟨rfl, rfl⟩
  obtain ⟨wL, rfl⟩ : ∃ wL : World, wL = w4 := ⟨_, rfl⟩
  go_wp2_with fail
  go_loopw [8, 49] (fun v i wr => ∃ k : Nat, k ≤ 44 ∧ i = .int .i64 (k : Int) ∧ Hid (wr.ownsRow wL.heap.size 5 1 v (4 * k) (vn (pre (kF l) (4 * k)))) ∧ Hid (Below wL.heap.size wL wr)) (fun _ i _ => 44 - (intOf i).toNat)
  case atStart => exact ⟨0, by omega, rfl, Lib.hid (World.ownsRow_nil _ _ _ _), Lib.hid (Below.refl _ _)⟩
  case round =>
    obtain ⟨k, hk, rfl, HT, HBL⟩ := hrel
    have HVL := HV
    clear HV
    have HV : Hid (HV 176 34 wr g (kF l)) := Lib.hid (HVL.out.call HBL.out)
    by_cases hlt : k < 44
    · have hk1 : (k : Int) < 44 := by omega
      have hk0 : (0 : Int) ≤ (k : Int) := by omega
      obtain ⟨x, hx⟩ : ∃ x : Nat → Nat, ∀ p, x p = kF l (k * 4 + p) := ⟨fun p => kF l (k * 4 + p), fun _ => rfl⟩
      have HX4 : Hid (x 0 = kF l (4 * k) ∧ x 1 = kF l (4 * k + 1) ∧ x 2 = kF l (4 * k + 2) ∧ x 3 = kF l (4 * k + 3)) := Lib.hid ⟨by rw [hx, Nat.mul_comm]; rfl, by rw [hx, Nat.mul_comm], by rw [hx, Nat.mul_comm], by rw [hx, Nat.mul_comm]⟩
      have HX := Lib.hid hx; clear hx
      have hT := HT.out
      have hTD : wr.drew.ownsRow wL.heap.size 5 1 u8 (4 * k) (vn (pre (kF l) (4 * k))) := hT
      have hi0 := HI0.out
      have hsz1 : wL.heap.size ≤ (wr.drew.alloc (.cells #[.int .u8 (x 0 : Int), .int .u8 (x 1 : Int), .int .u8 (x 2 : Int), .int .u8 (x 3 : Int)] 5)).heap.size := by
        rw [World.size_alloc]
        have : wL.heap.size ≤ wr.heap.size := HBL.out.size
        exact Nat.le_succ_of_le this
      have HFAR : Hid (some g ≠ u8.ownBlock) := Lib.hid (own_far hT HVL.out.lt)
      go_upto_region 12 with fail
      refine wp_region_noPanic ?_
      refine wp_region_held_drew (S := (fun w' => w'.cell? ⟨g, k * 4, none⟩ = some (.int .u8 (x 0 : Int)) ∧ w'.cell? ⟨g, k * 4 + 1, none⟩ = some (.int .u8 (x 1 : Int)) ∧ w'.cell? ⟨g, k * 4 + 2, none⟩ = some (.int .u8 (x 2 : Int)) ∧ w'.cell? ⟨g, k * 4 + 3, none⟩ = some (.int .u8 (x 3 : Int)))) (by kernel_rfl) ?_ (fun hHeld => ?_)
      · exact four_start HV HX (by omega)
      refine wpAnyH_take (i := 0) (v := ?_) rfl (by kernel_rfl) (by kernel_rfl) (by kernel_rfl) (fun _ _ _ h => h) (Or.inl ⟨by rfl, ?_⟩) hHeld ?_
      rotate_left
      · intro w' hSw
        (try dsimp only at hSw)
        go_simp
        try with_reducible rfl
      try simp only [Act.put, List.getElem_toArray, List.getElem_cons_zero, List.getElem_cons_succ, List.setIfInBounds_toArray, List.set_cons_zero, List.set_cons_succ]
      refine wpAnyH_take (i := 1) (v := ?_) rfl (by kernel_rfl) (by kernel_rfl) (by kernel_rfl) (fun _ _ _ h => h) (Or.inl ⟨by rfl, ?_⟩) hHeld ?_
      rotate_left
      · intro w' hSw
        (try dsimp only at hSw)
        go_simp
        try with_reducible rfl
      try simp only [Act.put, List.getElem_toArray, List.getElem_cons_zero, List.getElem_cons_succ, List.setIfInBounds_toArray, List.set_cons_zero, List.set_cons_succ]
      refine wpAnyH_take (i := 2) (v := ?_) rfl (by kernel_rfl) (by kernel_rfl) (by kernel_rfl) (fun _ _ _ h => h) (Or.inl ⟨by rfl, ?_⟩) hHeld ?_
      rotate_left
      · intro w' hSw
        (try dsimp only at hSw)
        go_simp
        try with_reducible rfl
      try simp only [Act.put, List.getElem_toArray, List.getElem_cons_zero, List.getElem_cons_succ, List.setIfInBounds_toArray, List.set_cons_zero, List.set_cons_succ]
      refine wpAnyH_take (i := 3) (v := ?_) rfl (by kernel_rfl) (by kernel_rfl) (by kernel_rfl) (fun _ _ _ h => h) (Or.inl ⟨by rfl, ?_⟩) hHeld ?_
      rotate_left
      · intro w' hSw
        (try dsimp only at hSw)
        go_simp
        try with_reducible rfl
      try simp only [Act.put, List.getElem_toArray, List.getElem_cons_zero, List.getElem_cons_succ, List.setIfInBounds_toArray, List.set_cons_zero, List.set_cons_succ]
      refine wpAnyH_take (i := 4) (v := ?_) rfl (by kernel_rfl) (by kernel_rfl) (by kernel_rfl) (fun _ _ _ h => h) (Or.inl ⟨by rfl, ?_⟩) hHeld ?_
      rotate_left
      · intro w' hSw
        (try dsimp only at hSw)
        go_simp
        try with_reducible rfl
      try simp only [Act.put, List.getElem_toArray, List.getElem_cons_zero, List.getElem_cons_succ, List.setIfInBounds_toArray, List.set_cons_zero, List.set_cons_succ]
      refine wpAnyH_take (i := 5) (v := ?_) rfl (by kernel_rfl) (by kernel_rfl) (by kernel_rfl) (fun _ _ _ h => h) (Or.inl ⟨by rfl, ?_⟩) hHeld ?_
      rotate_left
      · intro w' hSw
        (try dsimp only at hSw)
        go_simp
        try with_reducible rfl
      try simp only [Act.put, List.getElem_toArray, List.getElem_cons_zero, List.getElem_cons_succ, List.setIfInBounds_toArray, List.set_cons_zero, List.set_cons_succ]
      refine wpAnyH_take (i := 6) (v := ?_) rfl (by kernel_rfl) (by kernel_rfl) (by kernel_rfl) (fun _ _ _ h => h) (Or.inl ⟨by rfl, ?_⟩) hHeld ?_
      rotate_left
      · intro w' hSw
        (try dsimp only at hSw)
        go_simp
        try with_reducible rfl
      try simp only [Act.put, List.getElem_toArray, List.getElem_cons_zero, List.getElem_cons_succ, List.setIfInBounds_toArray, List.set_cons_zero, List.set_cons_succ]
      refine wpAnyH_take (i := 7) (v := ?_) rfl (by kernel_rfl) (by kernel_rfl) (by kernel_rfl) (fun _ _ _ h => h) (Or.inl ⟨by rfl, ?_⟩) hHeld ?_
      rotate_left
      · intro w' hSw
        (try dsimp only at hSw)
        go_simp
        try with_reducible rfl
      try simp only [Act.put, List.getElem_toArray, List.getElem_cons_zero, List.getElem_cons_succ, List.setIfInBounds_toArray, List.set_cons_zero, List.set_cons_succ]
      refine wpAnyH_take (i := 8) (v := ?_) rfl (by kernel_rfl) (by kernel_rfl) (by kernel_rfl) (fun _ _ _ h => h) (Or.inl ⟨by rfl, ?_⟩) hHeld ?_
      rotate_left
      · intro w' hSw
        (try dsimp only at hSw)
        go_simp
        try with_reducible rfl
      try simp only [Act.put, List.getElem_toArray, List.getElem_cons_zero, List.getElem_cons_succ, List.setIfInBounds_toArray, List.set_cons_zero, List.set_cons_succ]
      refine wpAnyH_take (i := 9) (v := ?_) rfl (by kernel_rfl) (by kernel_rfl) (by kernel_rfl) (fun _ _ _ h => h) (Or.inl ⟨by rfl, ?_⟩) hHeld ?_
      rotate_left
      · intro w' hSw
        (try dsimp only at hSw)
        go_simp
        try with_reducible rfl
      try simp only [Act.put, List.getElem_toArray, List.getElem_cons_zero, List.getElem_cons_succ, List.setIfInBounds_toArray, List.set_cons_zero, List.set_cons_succ]
      refine wpAnyH_take (i := 10) (v := ?_) rfl (by kernel_rfl) (by kernel_rfl) (by kernel_rfl) (fun _ _ _ h => h) (Or.inl ⟨by rfl, ?_⟩) hHeld ?_
      rotate_left
      · intro w' hSw
        (try dsimp only at hSw)
        go_simp
        try with_reducible rfl
      try simp only [Act.put, List.getElem_toArray, List.getElem_cons_zero, List.getElem_cons_succ, List.setIfInBounds_toArray, List.set_cons_zero, List.set_cons_succ]
      refine wpAnyH_take (i := 11) (v := ?_) rfl (by kernel_rfl) (by kernel_rfl) (by kernel_rfl) (fun _ _ _ h => h) (Or.inl ⟨by rfl, ?_⟩) hHeld ?_
      rotate_left
      · intro w' hSw
        (try dsimp only at hSw)
        go_simp
        try with_reducible rfl
      try simp only [Act.put, List.getElem_toArray, List.getElem_cons_zero, List.getElem_cons_succ, List.setIfInBounds_toArray, List.set_cons_zero, List.set_cons_succ]
      refine wpAnyH_take (i := 12) (v := ?_) rfl (by kernel_rfl) (by kernel_rfl) (by kernel_rfl) (fun _ _ _ h => h) (Or.inl ⟨by rfl, ?_⟩) hHeld ?_
      rotate_left
      · intro w' hSw
        (try dsimp only at hSw)
        go_simp
        try with_reducible rfl
      try simp only [Act.put, List.getElem_toArray, List.getElem_cons_zero, List.getElem_cons_succ, List.setIfInBounds_toArray, List.set_cons_zero, List.set_cons_succ]
      refine wpAnyH_take (i := 13) (v := ?_) rfl (by kernel_rfl) (by kernel_rfl) (by kernel_rfl) (fun _ _ _ h => h) (Or.inl ⟨by rfl, ?_⟩) hHeld ?_
      rotate_left
      · intro w' hSw
        (try dsimp only at hSw)
        go_simp
        try with_reducible rfl
      try simp only [Act.put, List.getElem_toArray, List.getElem_cons_zero, List.getElem_cons_succ, List.setIfInBounds_toArray, List.set_cons_zero, List.set_cons_succ]
      refine wpAnyH_take (i := 14) (v := ?_) rfl (by kernel_rfl) (by kernel_rfl) (by kernel_rfl) (fun _ _ _ h => h) (Or.inl ⟨by rfl, ?_⟩) hHeld ?_
      rotate_left
      · intro w' hSw
        (try dsimp only at hSw)
        go_simp
        try with_reducible rfl
      try simp only [Act.put, List.getElem_toArray, List.getElem_cons_zero, List.getElem_cons_succ, List.setIfInBounds_toArray, List.set_cons_zero, List.set_cons_succ]
      refine wpAnyH_take (i := 15) (v := ?_) rfl (by kernel_rfl) (by kernel_rfl) (by kernel_rfl) (fun _ _ _ h => h) (Or.inl ⟨by rfl, ?_⟩) hHeld ?_
      rotate_left
      · intro w' hSw
        (try dsimp only at hSw)
        go_simp
        try with_reducible rfl
      try simp only [Act.put, List.getElem_toArray, List.getElem_cons_zero, List.getElem_cons_succ, List.setIfInBounds_toArray, List.set_cons_zero, List.set_cons_succ]
      refine wpAnyH_take (i := 16) (v := ?_) rfl (by kernel_rfl) (by kernel_rfl) (by kernel_rfl) (fun _ _ _ h => h) (Or.inl ⟨by rfl, ?_⟩) hHeld ?_
      rotate_left
      · intro w' hSw
        (try dsimp only at hSw)
        go_simp
        try with_reducible rfl
      try simp only [Act.put, List.getElem_toArray, List.getElem_cons_zero, List.getElem_cons_succ, List.setIfInBounds_toArray, List.set_cons_zero, List.set_cons_succ]
      refine wpAnyH_take (i := 17) (v := ?_) rfl (by kernel_rfl) (by kernel_rfl) (by kernel_rfl) (fun _ _ _ h => h) (Or.inl ⟨by rfl, ?_⟩) hHeld ?_
      rotate_left
      · intro w' hSw
        (try dsimp only at hSw)
        go_simp
        try with_reducible rfl
      try simp only [Act.put, List.getElem_toArray, List.getElem_cons_zero, List.getElem_cons_succ, List.setIfInBounds_toArray, List.set_cons_zero, List.set_cons_succ]
      refine wpAnyH_take (i := 18) (v := ?_) rfl (by kernel_rfl) (by kernel_rfl) (by kernel_rfl) (fun _ _ _ h => h) (Or.inl ⟨by rfl, ?_⟩) hHeld ?_
      rotate_left
      · intro w' hSw
        (try dsimp only at hSw)
        go_simp
        try with_reducible rfl
      try simp only [Act.put, List.getElem_toArray, List.getElem_cons_zero, List.getElem_cons_succ, List.setIfInBounds_toArray, List.set_cons_zero, List.set_cons_succ]
      refine wpAnyH_take (i := 19) (v := ?_) rfl (by kernel_rfl) (by kernel_rfl) (by kernel_rfl) (fun _ _ _ h => h) (Or.inl ⟨by rfl, ?_⟩) hHeld ?_
      rotate_left
      · intro w' hSw
        (try dsimp only at hSw)
        go_simp
        try with_reducible rfl
      try simp only [Act.put, List.getElem_toArray, List.getElem_cons_zero, List.getElem_cons_succ, List.setIfInBounds_toArray, List.set_cons_zero, List.set_cons_succ]
      refine wpAnyH_take (i := 20) (v := ?_) rfl (by kernel_rfl) (by kernel_rfl) (by kernel_rfl) (fun _ _ _ h => h) (Or.inl ⟨by rfl, ?_⟩) hHeld ?_
      rotate_left
      · intro w' hSw
        (try dsimp only at hSw)
        go_simp
        try with_reducible rfl
      try simp only [Act.put, List.getElem_toArray, List.getElem_cons_zero, List.getElem_cons_succ, List.setIfInBounds_toArray, List.set_cons_zero, List.set_cons_succ]
      refine wpAnyH_ready (rs := [21]) (by kernel_rfl) (by simp) ?_
      refine AllReadyH.cons rfl (fun K hK => ?_) (AllReadyH.nil)
      · try simp only [List.getElem_toArray, List.getElem_cons_zero, List.getElem_cons_succ]
        go_simp
        refine hK.out _ _ ?_ (fun hHeld => ?_)
        · exact ⟨cell_alloc hHeld.1 _, cell_alloc hHeld.2.1 _, cell_alloc hHeld.2.2.1 _, cell_alloc hHeld.2.2.2 _⟩
        clear hK K
        try simp only [Act.put, List.getElem_toArray, List.getElem_cons_zero, List.getElem_cons_succ, List.setIfInBounds_toArray, List.set_cons_zero, List.set_cons_succ]
        refine wpAnyH_ready (rs := [22]) (by kernel_rfl) (by simp) ?_
        refine AllReadyH.cons rfl (fun K hK => ?_) (AllReadyH.nil)
        · try simp only [List.getElem_toArray, List.getElem_cons_zero, List.getElem_cons_succ]
          rw [if_pos (by rfl)]
          refine wp_append_lies _ (.tmp 52) (.tmp 73) 22 (by rfl) wL.heap.size 5 i0 _ 1 1 Try.underlying22 hi0 hz0 hz1 hz2 rfl (by omega) _ (4 * k) _ (by rfl) (by exact hTD.alloc _) ⟨_, 0, none⟩ 4 4 _ (by rfl) (by rfl) (World.news_of_block (t := 5) (fr := (0, 0)) (heap_alloc_new _ _)) (by simp [Value.oneCell']) (by omega) (by unfold maxLen; omega) (by omega) (by exact hsz1) _ (by rfl) ?_
          intro gg cap2 w2 hown2 hgrow hat hlt2
          refine hK.out _ _ ?_ (fun hHeld => ?_)
          · exact ⟨cell_grown hgrow HFAR.out hHeld.1, cell_grown hgrow HFAR.out hHeld.2.1, cell_grown hgrow HFAR.out hHeld.2.2.1, cell_grown hgrow HFAR.out hHeld.2.2.2⟩
          clear hK K
          try simp only [Act.put, List.getElem_toArray, List.getElem_cons_zero, List.getElem_cons_succ, List.setIfInBounds_toArray, List.set_cons_zero, List.set_cons_succ]
          refine wpAnyH_take (i := 23) (v := ?_) rfl (by kernel_rfl) (by kernel_rfl) (by kernel_rfl) (fun _ _ _ h => h) (Or.inl ⟨by rfl, ?_⟩) hHeld ?_
          rotate_left
          · intro w' hSw
            (try dsimp only at hSw)
            go_simp
            try with_reducible rfl
          try simp only [Act.put, List.getElem_toArray, List.getElem_cons_zero, List.getElem_cons_succ, List.setIfInBounds_toArray, List.set_cons_zero, List.set_cons_succ]
          refine wpAnyH_done (by kernel_rfl) ?_ _
          refine NoPanic.normal ?_
          have HOWN2 : Hid (w2.ownsRow wL.heap.size 5 1 (.slice (some ⟨gg, 0, none⟩) (4 * k + 4) cap2) (4 * k + 4) (vn (pre (kF l) (4 * k + 4)))) := Lib.hid (by
            rw [pre_four, ← HX4.out.1, ← HX4.out.2.1, ← HX4.out.2.2.1, ← HX4.out.2.2.2]
            simpa [vn] using hown2)
          have HBB : Hid (Below wL.heap.size wL w2) := Lib.hid (((bdrewN HBL.out 1).alloc (by exact HBL.out.size) _).grown hgrow (by exact hsz1) (fun k hk => (hT.lt k hk).1))
          clear hown2 hgrow hat hHeld hT hTD hsz1
          go_wp2_with fail
          go_roundw
          case rel => exact ⟨k + 1, by omega, by go_num, HOWN2, HBB⟩
          case measure => simp [intOf]; omega
    · obtain rfl : k = 44 := by omega
      have hal : (kAll l).length = 176 := by
        unfold kAll
        rw [kX_len, HLG.out]
      have hpre : pre (kF l) (4 * 44) = kAll l := by
        have := pre_list (kAll l)
        rw [hal] at this
        exact this
      have HOW := HT.out
      rw [hpre] at HOW
      have HBR : Below w.heap.size w wr := HB.out.trans (HBL.out.mono HB.out.size)
      obtain ⟨A8, c8, rfl, _, hb8⟩ := Rd.of_own HOW
      have H8 := Lib.hid hb8; clear hb8 HOW hpre HT
      have HAL := Lib.hid hal; clear hal
      have HBR2 := Lib.hid HBR; clear HBR
      have HR9 := Lib.hid (HR.out.go HBL.out)
      go_wp2_with fail
      refine (rwords16_any A l cap HLG.out HL.out wr HR9.out).mono ?_
      rintro e w5 ⟨v9, rfl, hown9, hb5⟩
      obtain ⟨A9, c9, rfl, _, hr9⟩ := Rd.of_own hown9
      have H89 := H8.out.go hb5
      have HBS : Hid (Below w.heap.size w w5) := Lib.hid (HBR2.out.trans (hb5.mono HBR2.out.size))
      clear hown9 hb5
      go_wp2_with fail
      refine (same_vn A8 A9 (kAll l) 176 c8 c9 (kX_lt _ l HL.out _) HAL.out _ H89 hr9).mono ?_
      rintro e w6 ⟨rfl, rfl⟩
      clear H89 hr9
      go_wp2_with fail
      refine (known03_any _).mono ?_
      rintro e w7 ⟨rfl, hb7⟩
      go_wp2_with fail
      go_ret
      exact ⟨rfl, HBS.out.trans (hb7.mono HBS.out.size)⟩

set_option maxRecDepth 100000 in
set_option maxHeartbeats 4000000 in
theorem awords32_any (A : Option Addr) (l : List Nat) (cap : Nat) (hn : l.length = 32) (hl : ∀ x ∈ l, x < 256) (hcap : 32 ≤ cap) (w : World) (h : Rd w w.heap.size A (vn l)) :
    Calls Try.prog 3 #[.slice A 32 cap] w fun e w' => e = .returned (.bool true) ∧ Below w.heap.size w w' := by
  obtain ⟨i0, hi0, hz0, hz1, hz2⟩ := info_parts info_b
  have HI0 := Lib.hid hi0; clear hi0
  have HL := Lib.hid hl; clear hl
  have HLG := Lib.hid hn; clear hn
  have H := Lib.hid h; clear h hcap
  go_enter Try.func3, Try.ntmps3
  go_wp2_with fail
  refine (copyv_any A (vn l) 32 cap (by rw [vn_len]; exact HLG.out) (vn_one l) w (by omega) H.out).mono ?_
  rintro e w1 ⟨v, rfl, hown, hb1⟩
  obtain ⟨A2, c2, rfl, _, hin⟩ := Rd.of_own hown
  have hc2 := own_cap hown
  have HIN := Lib.hid hin; clear hin hown
  have HR := Lib.hid (H.out.go hb1)
  have HB := Lib.hid hb1; clear hb1 H
  go_wp2_with fail
  refine (words32_any A2 l c2 HLG.out hc2 HL.out w1 HIN.out).mono ?_
  rintro e w2 ⟨rfl, hv, hb2⟩
  obtain ⟨g, hg⟩ : ∃ g, g = w1.heap.size := ⟨_, rfl⟩
  rw [← hg] at hv
  rw [← hg]
  clear hg
  have HIN2 := Lib.hid (HIN.out.go hb2)
  have HR2 := Lib.hid (HR.out.go hb2)
  have HB2 := Lib.hid (HB.out.trans (hb2.mono HB.out.size))
  have HV2 := Lib.hid hv; clear hv hb2 HIN HR HB
  go_wp2_with fail
  refine (new32_any A2 l c2 HLG.out hc2 HL.out w2 HIN2.out).mono ?_
  rintro e wL ⟨c, rfl, _, hb3⟩
  have HIN := Lib.hid (HIN2.out.go hb3)
  have HR := Lib.hid (HR2.out.go hb3)
  have HB := Lib.hid (HB2.out.trans (hb3.mono HB2.out.size))
  have HV := Lib.hid (HV2.out.call hb3)
  clear HIN2 HR2 HB2 HV2 hb3
  go_wp2_with fail
  refine (same_vn A2 A l 32 c2 cap HL.out HLG.out _ HIN.out HR.out).mono ?_
  rintro e w3 ⟨rfl, rfl⟩
  obtain ⟨wL, rfl⟩ : ∃ wL : World, wL = w3 := ⟨_, rfl⟩
  go_wp2_with fail
  refine (may32 A cap _).mono ?_
  rintro e w4 ⟨rfl, rfl⟩
  obtain ⟨wL, rfl⟩ : ∃ wL : World, wL = w4 := ⟨_, rfl⟩
  go_wp2_with fail
  go_loopw [8, 49] (fun v i wr => ∃ k : Nat, k ≤ 60 ∧ i = .int .i64 (k : Int) ∧ Hid (wr.ownsRow wL.heap.size 5 1 v (4 * k) (vn (pre (kF l) (4 * k)))) ∧ Hid (Below wL.heap.size wL wr)) (fun _ i _ => 60 - (intOf i).toNat)
  case atStart => exact ⟨0, by omega, rfl, Lib.hid (World.ownsRow_nil _ _ _ _), Lib.hid (Below.refl _ _)⟩
  case round =>
    obtain ⟨k, hk, rfl, HT, HBL⟩ := hrel
    have HVL := HV
    clear HV
    have HV : Hid (HV 240 34 wr g (kF l)) := Lib.hid (HVL.out.call HBL.out)
    by_cases hlt : k < 60
    · have hk1 : (k : Int) < 60 := by omega
      have hk0 : (0 : Int) ≤ (k : Int) := by omega
      obtain ⟨x, hx⟩ : ∃ x : Nat → Nat, ∀ p, x p = kF l (k * 4 + p) := ⟨fun p => kF l (k * 4 + p), fun _ => rfl⟩
      have HX4 : Hid (x 0 = kF l (4 * k) ∧ x 1 = kF l (4 * k + 1) ∧ x 2 = kF l (4 * k + 2) ∧ x 3 = kF l (4 * k + 3)) := Lib.hid ⟨by rw [hx, Nat.mul_comm]; rfl, by rw [hx, Nat.mul_comm], by rw [hx, Nat.mul_comm], by rw [hx, Nat.mul_comm]⟩
      have HX := Lib.hid hx; clear hx
      have hT := HT.out
      have hTD : wr.drew.ownsRow wL.heap.size 5 1 u8 (4 * k) (vn (pre (kF l) (4 * k))) := hT
      have hi0 := HI0.out
      have hsz1 : wL.heap.size ≤ (wr.drew.alloc (.cells #[.int .u8 (x 0 : Int), .int .u8 (x 1 : Int), .int .u8 (x 2 : Int), .int .u8 (x 3 : Int)] 5)).heap.size := by
        rw [World.size_alloc]
        have : wL.heap.size ≤ wr.heap.size := HBL.out.size
        exact Nat.le_succ_of_le this
      have HFAR : Hid (some g ≠ u8.ownBlock) := Lib.hid (own_far hT HVL.out.lt)
      go_upto_region 12 with fail
      refine wp_region_noPanic ?_
      refine wp_region_held_drew (S := (fun w' => w'.cell? ⟨g, k * 4, none⟩ = some (.int .u8 (x 0 : Int)) ∧ w'.cell? ⟨g, k * 4 + 1, none⟩ = some (.int .u8 (x 1 : Int)) ∧ w'.cell? ⟨g, k * 4 + 2, none⟩ = some (.int .u8 (x 2 : Int)) ∧ w'.cell? ⟨g, k * 4 + 3, none⟩ = some (.int .u8 (x 3 : Int)))) (by kernel_rfl) ?_ (fun hHeld => ?_)
      · exact four_start HV HX (by omega)
      refine wpAnyH_take (i := 0) (v := ?_) rfl (by kernel_rfl) (by kernel_rfl) (by kernel_rfl) (fun _ _ _ h => h) (Or.inl ⟨by rfl, ?_⟩) hHeld ?_
      rotate_left
      · intro w' hSw
        (try dsimp only at hSw)
        go_simp
        try with_reducible rfl
      try simp only [Act.put, List.getElem_toArray, List.getElem_cons_zero, List.getElem_cons_succ, List.setIfInBounds_toArray, List.set_cons_zero, List.set_cons_succ]
      refine wpAnyH_take (i := 1) (v := ?_) rfl (by kernel_rfl) (by kernel_rfl) (by kernel_rfl) (fun _ _ _ h => h) (Or.inl ⟨by rfl, ?_⟩) hHeld ?_
      rotate_left
      · intro w' hSw
        (try dsimp only at hSw)
        go_simp
        try with_reducible rfl
      try simp only [Act.put, List.getElem_toArray, List.getElem_cons_zero, List.getElem_cons_succ, List.setIfInBounds_toArray, List.set_cons_zero, List.set_cons_succ]
      refine wpAnyH_take (i := 2) (v := ?_) rfl (by kernel_rfl) (by kernel_rfl) (by kernel_rfl) (fun _ _ _ h => h) (Or.inl ⟨by rfl, ?_⟩) hHeld ?_
      rotate_left
      · intro w' hSw
        (try dsimp only at hSw)
        go_simp
        try with_reducible rfl
      try simp only [Act.put, List.getElem_toArray, List.getElem_cons_zero, List.getElem_cons_succ, List.setIfInBounds_toArray, List.set_cons_zero, List.set_cons_succ]
      refine wpAnyH_take (i := 3) (v := ?_) rfl (by kernel_rfl) (by kernel_rfl) (by kernel_rfl) (fun _ _ _ h => h) (Or.inl ⟨by rfl, ?_⟩) hHeld ?_
      rotate_left
      · intro w' hSw
        (try dsimp only at hSw)
        go_simp
        try with_reducible rfl
      try simp only [Act.put, List.getElem_toArray, List.getElem_cons_zero, List.getElem_cons_succ, List.setIfInBounds_toArray, List.set_cons_zero, List.set_cons_succ]
      refine wpAnyH_take (i := 4) (v := ?_) rfl (by kernel_rfl) (by kernel_rfl) (by kernel_rfl) (fun _ _ _ h => h) (Or.inl ⟨by rfl, ?_⟩) hHeld ?_
      rotate_left
      · intro w' hSw
        (try dsimp only at hSw)
        go_simp
        try with_reducible rfl
      try simp only [Act.put, List.getElem_toArray, List.getElem_cons_zero, List.getElem_cons_succ, List.setIfInBounds_toArray, List.set_cons_zero, List.set_cons_succ]
      refine wpAnyH_take (i := 5) (v := ?_) rfl (by kernel_rfl) (by kernel_rfl) (by kernel_rfl) (fun _ _ _ h => h) (Or.inl ⟨by rfl, ?_⟩) hHeld ?_
      rotate_left
      · intro w' hSw
        (try dsimp only at hSw)
        go_simp
        try with_reducible rfl
      try simp only [Act.put, List.getElem_toArray, List.getElem_cons_zero, List.getElem_cons_succ, List.setIfInBounds_toArray, List.set_cons_zero, List.set_cons_succ]
      refine wpAnyH_take (i := 6) (v := ?_) rfl (by kernel_rfl) (by kernel_rfl) (by kernel_rfl) (fun _ _ _ h => h) (Or.inl ⟨by rfl, ?_⟩) hHeld ?_
      rotate_left
      · intro w' hSw
        (try dsimp only at hSw)
        go_simp
        try with_reducible rfl
      try simp only [Act.put, List.getElem_toArray, List.getElem_cons_zero, List.getElem_cons_succ, List.setIfInBounds_toArray, List.set_cons_zero, List.set_cons_succ]
      refine wpAnyH_take (i := 7) (v := ?_) rfl (by kernel_rfl) (by kernel_rfl) (by kernel_rfl) (fun _ _ _ h => h) (Or.inl ⟨by rfl, ?_⟩) hHeld ?_
      rotate_left
      · intro w' hSw
        (try dsimp only at hSw)
        go_simp
        try with_reducible rfl
      try simp only [Act.put, List.getElem_toArray, List.getElem_cons_zero, List.getElem_cons_succ, List.setIfInBounds_toArray, List.set_cons_zero, List.set_cons_succ]
      refine wpAnyH_take (i := 8) (v := ?_) rfl (by kernel_rfl) (by kernel_rfl) (by kernel_rfl) (fun _ _ _ h => h) (Or.inl ⟨by rfl, ?_⟩) hHeld ?_
      rotate_left
      · intro w' hSw
        (try dsimp only at hSw)
        go_simp
        try with_reducible rfl
      try simp only [Act.put, List.getElem_toArray, List.getElem_cons_zero, List.getElem_cons_succ, List.setIfInBounds_toArray, List.set_cons_zero, List.set_cons_succ]
      refine wpAnyH_take (i := 9) (v := ?_) rfl (by kernel_rfl) (by kernel_rfl) (by kernel_rfl) (fun _ _ _ h => h) (Or.inl ⟨by rfl, ?_⟩) hHeld ?_
      rotate_left
      · intro w' hSw
        (try dsimp only at hSw)
        go_simp
        try with_reducible rfl
      try simp only [Act.put, List.getElem_toArray, List.getElem_cons_zero, List.getElem_cons_succ, List.setIfInBounds_toArray, List.set_cons_zero, List.set_cons_succ]
      refine wpAnyH_take (i := 10) (v := ?_) rfl (by kernel_rfl) (by kernel_rfl) (by kernel_rfl) (fun _ _ _ h => h) (Or.inl ⟨by rfl, ?_⟩) hHeld ?_
      rotate_left
      · intro w' hSw
        (try dsimp only at hSw)
        go_simp
        try with_reducible rfl
      try simp only [Act.put, List.getElem_toArray, List.getElem_cons_zero, List.getElem_cons_succ, List.setIfInBounds_toArray, List.set_cons_zero, List.set_cons_succ]
      refine wpAnyH_take (i := 11) (v := ?_) rfl (by kernel_rfl) (by kernel_rfl) (by kernel_rfl) (fun _ _ _ h => h) (Or.inl ⟨by rfl, ?_⟩) hHeld ?_
      rotate_left
      · intro w' hSw
        (try dsimp only at hSw)
        go_simp
        try with_reducible rfl
      try simp only [Act.put, List.getElem_toArray, List.getElem_cons_zero, List.getElem_cons_succ, List.setIfInBounds_toArray, List.set_cons_zero, List.set_cons_succ]
      refine wpAnyH_take (i := 12) (v := ?_) rfl (by kernel_rfl) (by kernel_rfl) (by kernel_rfl) (fun _ _ _ h => h) (Or.inl ⟨by rfl, ?_⟩) hHeld ?_
      rotate_left
      · intro w' hSw
        (try dsimp only at hSw)
        go_simp
        try with_reducible rfl
      try simp only [Act.put, List.getElem_toArray, List.getElem_cons_zero, List.getElem_cons_succ, List.setIfInBounds_toArray, List.set_cons_zero, List.set_cons_succ]
      refine wpAnyH_take (i := 13) (v := ?_) rfl (by kernel_rfl) (by kernel_rfl) (by kernel_rfl) (fun _ _ _ h => h) (Or.inl ⟨by rfl, ?_⟩) hHeld ?_
      rotate_left
      · intro w' hSw
        (try dsimp only at hSw)
        go_simp
        try with_reducible rfl
      try simp only [Act.put, List.getElem_toArray, List.getElem_cons_zero, List.getElem_cons_succ, List.setIfInBounds_toArray, List.set_cons_zero, List.set_cons_succ]
      refine wpAnyH_take (i := 14) (v := ?_) rfl (by kernel_rfl) (by kernel_rfl) (by kernel_rfl) (fun _ _ _ h => h) (Or.inl ⟨by rfl, ?_⟩) hHeld ?_
      rotate_left
      · intro w' hSw
        (try dsimp only at hSw)
        go_simp
        try with_reducible rfl
      try simp only [Act.put, List.getElem_toArray, List.getElem_cons_zero, List.getElem_cons_succ, List.setIfInBounds_toArray, List.set_cons_zero, List.set_cons_succ]
      refine wpAnyH_take (i := 15) (v := ?_) rfl (by kernel_rfl) (by kernel_rfl) (by kernel_rfl) (fun _ _ _ h => h) (Or.inl ⟨by rfl, ?_⟩) hHeld ?_
      rotate_left
      · intro w' hSw
        (try dsimp only at hSw)
        go_simp
        try with_reducible rfl
      try simp only [Act.put, List.getElem_toArray, List.getElem_cons_zero, List.getElem_cons_succ, List.setIfInBounds_toArray, List.set_cons_zero, List.set_cons_succ]
      refine wpAnyH_take (i := 16) (v := ?_) rfl (by kernel_rfl) (by kernel_rfl) (by kernel_rfl) (fun _ _ _ h => h) (Or.inl ⟨by rfl, ?_⟩) hHeld ?_
      rotate_left
      · intro w' hSw
        (try dsimp only at hSw)
        go_simp
        try with_reducible rfl
      try simp only [Act.put, List.getElem_toArray, List.getElem_cons_zero, List.getElem_cons_succ, List.setIfInBounds_toArray, List.set_cons_zero, List.set_cons_succ]
      refine wpAnyH_take (i := 17) (v := ?_) rfl (by kernel_rfl) (by kernel_rfl) (by kernel_rfl) (fun _ _ _ h => h) (Or.inl ⟨by rfl, ?_⟩) hHeld ?_
      rotate_left
      · intro w' hSw
        (try dsimp only at hSw)
        go_simp
        try with_reducible rfl
      try simp only [Act.put, List.getElem_toArray, List.getElem_cons_zero, List.getElem_cons_succ, List.setIfInBounds_toArray, List.set_cons_zero, List.set_cons_succ]
      refine wpAnyH_take (i := 18) (v := ?_) rfl (by kernel_rfl) (by kernel_rfl) (by kernel_rfl) (fun _ _ _ h => h) (Or.inl ⟨by rfl, ?_⟩) hHeld ?_
      rotate_left
      · intro w' hSw
        (try dsimp only at hSw)
        go_simp
        try with_reducible rfl
      try simp only [Act.put, List.getElem_toArray, List.getElem_cons_zero, List.getElem_cons_succ, List.setIfInBounds_toArray, List.set_cons_zero, List.set_cons_succ]
      refine wpAnyH_take (i := 19) (v := ?_) rfl (by kernel_rfl) (by kernel_rfl) (by kernel_rfl) (fun _ _ _ h => h) (Or.inl ⟨by rfl, ?_⟩) hHeld ?_
      rotate_left
      · intro w' hSw
        (try dsimp only at hSw)
        go_simp
        try with_reducible rfl
      try simp only [Act.put, List.getElem_toArray, List.getElem_cons_zero, List.getElem_cons_succ, List.setIfInBounds_toArray, List.set_cons_zero, List.set_cons_succ]
      refine wpAnyH_take (i := 20) (v := ?_) rfl (by kernel_rfl) (by kernel_rfl) (by kernel_rfl) (fun _ _ _ h => h) (Or.inl ⟨by rfl, ?_⟩) hHeld ?_
      rotate_left
      · intro w' hSw
        (try dsimp only at hSw)
        go_simp
        try with_reducible rfl
      try simp only [Act.put, List.getElem_toArray, List.getElem_cons_zero, List.getElem_cons_succ, List.setIfInBounds_toArray, List.set_cons_zero, List.set_cons_succ]
      refine wpAnyH_ready (rs := [21]) (by kernel_rfl) (by simp) ?_
      refine AllReadyH.cons rfl (fun K hK => ?_) (AllReadyH.nil)
      · try simp only [List.getElem_toArray, List.getElem_cons_zero, List.getElem_cons_succ]
        go_simp
        refine hK.out _ _ ?_ (fun hHeld => ?_)
        · exact ⟨cell_alloc hHeld.1 _, cell_alloc hHeld.2.1 _, cell_alloc hHeld.2.2.1 _, cell_alloc hHeld.2.2.2 _⟩
        clear hK K
        try simp only [Act.put, List.getElem_toArray, List.getElem_cons_zero, List.getElem_cons_succ, List.setIfInBounds_toArray, List.set_cons_zero, List.set_cons_succ]
        refine wpAnyH_ready (rs := [22]) (by kernel_rfl) (by simp) ?_
        refine AllReadyH.cons rfl (fun K hK => ?_) (AllReadyH.nil)
        · try simp only [List.getElem_toArray, List.getElem_cons_zero, List.getElem_cons_succ]
          rw [if_pos (by rfl)]
          refine wp_append_lies _ (.tmp 52) (.tmp 73) 22 (by rfl) wL.heap.size 5 i0 _ 1 1 Try.underlying22 hi0 hz0 hz1 hz2 rfl (by omega) _ (4 * k) _ (by rfl) (by exact hTD.alloc _) ⟨_, 0, none⟩ 4 4 _ (by rfl) (by rfl) (World.news_of_block (t := 5) (fr := (0, 0)) (heap_alloc_new _ _)) (by simp [Value.oneCell']) (by omega) (by unfold maxLen; omega) (by omega) (by exact hsz1) _ (by rfl) ?_
          intro gg cap2 w2 hown2 hgrow hat hlt2
          refine hK.out _ _ ?_ (fun hHeld => ?_)
          · exact ⟨cell_grown hgrow HFAR.out hHeld.1, cell_grown hgrow HFAR.out hHeld.2.1, cell_grown hgrow HFAR.out hHeld.2.2.1, cell_grown hgrow HFAR.out hHeld.2.2.2⟩
          clear hK K
          try simp only [Act.put, List.getElem_toArray, List.getElem_cons_zero, List.getElem_cons_succ, List.setIfInBounds_toArray, List.set_cons_zero, List.set_cons_succ]
          refine wpAnyH_take (i := 23) (v := ?_) rfl (by kernel_rfl) (by kernel_rfl) (by kernel_rfl) (fun _ _ _ h => h) (Or.inl ⟨by rfl, ?_⟩) hHeld ?_
          rotate_left
          · intro w' hSw
            (try dsimp only at hSw)
            go_simp
            try with_reducible rfl
          try simp only [Act.put, List.getElem_toArray, List.getElem_cons_zero, List.getElem_cons_succ, List.setIfInBounds_toArray, List.set_cons_zero, List.set_cons_succ]
          refine wpAnyH_done (by kernel_rfl) ?_ _
          refine NoPanic.normal ?_
          have HOWN2 : Hid (w2.ownsRow wL.heap.size 5 1 (.slice (some ⟨gg, 0, none⟩) (4 * k + 4) cap2) (4 * k + 4) (vn (pre (kF l) (4 * k + 4)))) := Lib.hid (by
            rw [pre_four, ← HX4.out.1, ← HX4.out.2.1, ← HX4.out.2.2.1, ← HX4.out.2.2.2]
            simpa [vn] using hown2)
          have HBB : Hid (Below wL.heap.size wL w2) := Lib.hid (((bdrewN HBL.out 1).alloc (by exact HBL.out.size) _).grown hgrow (by exact hsz1) (fun k hk => (hT.lt k hk).1))
          clear hown2 hgrow hat hHeld hT hTD hsz1
          go_wp2_with fail
          go_roundw
          case rel => exact ⟨k + 1, by omega, by go_num, HOWN2, HBB⟩
          case measure => simp [intOf]; omega
    · obtain rfl : k = 60 := by omega
      have hal : (kAll l).length = 240 := by
        unfold kAll
        rw [kX_len, HLG.out]
      have hpre : pre (kF l) (4 * 60) = kAll l := by
        have := pre_list (kAll l)
        rw [hal] at this
        exact this
      have HOW := HT.out
      rw [hpre] at HOW
      have HBR : Below w.heap.size w wr := HB.out.trans (HBL.out.mono HB.out.size)
      obtain ⟨A8, c8, rfl, _, hb8⟩ := Rd.of_own HOW
      have H8 := Lib.hid hb8; clear hb8 HOW hpre HT
      have HAL := Lib.hid hal; clear hal
      have HBR2 := Lib.hid HBR; clear HBR
      have HR9 := Lib.hid (HR.out.go HBL.out)
      go_wp2_with fail
      refine (rwords32_any A l cap HLG.out HL.out wr HR9.out).mono ?_
      rintro e w5 ⟨v9, rfl, hown9, hb5⟩
      obtain ⟨A9, c9, rfl, _, hr9⟩ := Rd.of_own hown9
      have H89 := H8.out.go hb5
      have HBS : Hid (Below w.heap.size w w5) := Lib.hid (HBR2.out.trans (hb5.mono HBR2.out.size))
      clear hown9 hb5
      go_wp2_with fail
      refine (same_vn A8 A9 (kAll l) 240 c8 c9 (kX_lt _ l HL.out _) HAL.out _ H89 hr9).mono ?_
      rintro e w6 ⟨rfl, rfl⟩
      clear H89 hr9
      go_wp2_with fail
      refine (known03_any _).mono ?_
      rintro e w7 ⟨rfl, hb7⟩
      go_wp2_with fail
      go_ret
      exact ⟨rfl, HBS.out.trans (hb7.mono HBS.out.size)⟩

theorem awords_any (A : Option Addr) (l : List UInt8) (n cap : Nat) (hn : l.length = n) (w : World) (hle : n ≤ 140737488351232) (hcap : n ≤ cap) (h : Rd w w.heap.size A (vb l)) :
    Calls Try.prog 3 #[.slice A n cap] w fun e w' => e = .returned (.bool true) ∧ Below w.heap.size w w' := by
  rw [vb_vn] at h
  by_cases h1 : n = 16
  · subst h1
    exact awords16_any A _ cap (by simp [hn]) (vb_lt l) hcap w h
  · by_cases h2 : n = 32
    · subst h2
      exact awords32_any A _ cap (by simp [hn]) (vb_lt l) hcap w h
    · exact awords_none A _ n cap (by simp [hn]) (vb_lt l) h1 h2 w hle h

set_option maxRecDepth 100000 in
theorem awords_lifted (os : Os) (started : os.Started) (H : Type) (enc : TypeId × Value → H) :
    ReturnsInHanded {} Try.checked os 3 .any (Rows.aesWordsSpec.pre6 enc Try.prog Try.f3 Rows.aesWordsRow.domain false) (Rows.aesWordsSpec.post enc Try.prog Try.f3 false true false false) := by
  refine returnsInHanded_of_change_sized (C := Try.checked) Try.own started (by kernel_rfl) Try.func3
    (ChangeSpec.witness6 (enc := enc) (C := Try.checked) false ⟨#[], #[.slice none 0 0], []⟩ 8 (by kernel_rfl) (by kernel_rfl) (by kernel_rfl) (by kernel_rfl)) ?_
  intro W base args ds gs before hval0 hW _ hsz0 _
  have hsz : (DataW.weightsEach Try.prog (Try.f3.params.toList ++ Rows.aesWordsSpec.plain.varTypes Try.prog) (ds ++ gs)).all (· ≤ reachBytes) = true := hsz0
  have hval : ∀ (j : Nat) t v, Try.f3.params[j]? = some t → args[j]? = some v → Value.okWide Try.prog W .any base t v := hval0
  have hW' := hW
  obtain ⟨p, q, hA0, hV, rfl, _, _⟩ := hW
  have hA : DataW.TrodAll enc Try.prog W 0 (fun _ => true) true Try.f3.params.toList args.toList ds p := hA0
  rw [Try.params3] at hA hval hsz
  have hlt := hW'.lt
  clear hA0 hval0 hsz0
  obtain ⟨v0, vs0, d0, ds0, p0, q0, hv0, rfl, rfl, h0, r0⟩ := trodAll_cons hA
  obtain ⟨rfl, rfl, rfl⟩ := trodAll_nil r0
  obtain rfl : args = #[v0] := by cases args; simp_all
  obtain ⟨rfl, rfl⟩ := trodVars_none hV
  obtain ⟨A0, l0, c0, rfl, rd0, le0, lc0⟩ := open_bytes_cap Try.underlying22 Try.underlying5 Try.cellsU8 (hval 0 22 v0 rfl rfl) h0 (fun x hx => hlt x (by simp [hx])) (fun es sp he => by subst he; have := sized_slice hsz (j := 0) (t := 22) (e := 5) rfl rfl Try.underlying22; rw [Try.bytesU8, Nat.mul_one] at this; exact this)
  refine (awords_any A0 l0 l0.length c0 rfl W le0 lc0 rd0).mono fun e W' ⟨he, hb⟩ => ⟨_, he, ?_⟩
  exact law_post 4 Try.underlying4 (by kernel_rfl) rfl Try.laidOut (by kernel_rfl) hW' ⟨rfl, rfl, rfl⟩ hb

theorem awords_holds : Rows.AesWordsSaid :=
  OpenClaim.holds_of_wide 3 Try.f3 rfl rfl rfl rfl rfl rfl rfl ⟨rfl, rfl, rfl, rfl, rfl⟩ rfl rfl rfl rfl rfl (by kernel_rfl) Try.func3 (by kernel_rfl)
    (of_decide_eq_true (by kernel_rfl)) (by unfold Func.isWrapper; first | (rw [if_pos (by decide +kernel)]; kernel_rfl) | (rw [if_neg (by decide +kernel)]; exact ⟨rfl, rfl⟩))
    (fun os started H enc _ => awords_lifted os started H enc)
end Go.Proofs.Ytljmkleppoacaaa
