/-
  Several texts in one:
  The laws' pieces of layer 6: few, known. (Printed by wip/gen/gcmlaws.py.)
-/
import Derived.Test.YtkfmgjipocmkjaaFoldH
import Derived.Test.YtkfmgjipocmkjaaGcK
import Derived.Test.YtkfmgjipocmkjaaFoldA
import Derived.WalkLawsBesides
namespace Go.Proofs.Ytkfmgjipocmkjaa
open Go Go.RowKit
set_option linter.unusedVariables false
set_option linter.unusedSimpArgs false

/-- Is a row short, or longer than may be? -/
def fewB (n : Nat) : Bool := decide (n ≤ 400 ∨ 65552 < n)
set_option maxRecDepth 100000 in
theorem few_any (K : Option Addr) (n c : Nat) (w : World) : Calls Try.prog 8 #[.slice K n c] w fun e w' => e = .returned (.bool (fewB n)) ∧ w' = w := by
  by_cases h1 : n ≤ 400
  · have i1 : (n : Int) ≤ 400 := by omega
    rw [show fewB n = true from decide_eq_true (.inl h1)]
    go_enter Try.func8, Try.ntmps8
    go_wp2_with fail
    go_ret
    exact ⟨rfl, rfl⟩
  · have i1 : ¬ (n : Int) ≤ 400 := by omega
    by_cases h2 : 65552 < n
    · have i2 : (65552 : Int) < (n : Int) := by omega
      rw [show fewB n = true from decide_eq_true (.inr h2)]
      go_enter Try.func8, Try.ntmps8
      go_wp2_with fail
      go_ret
      exact ⟨by simp [i2], rfl⟩
    · have i2 : ¬ (65552 : Int) < (n : Int) := by omega
      rw [show fewB n = false from decide_eq_false (by omega)]
      go_enter Try.func8, Try.ntmps8
      go_wp2_with fail
      go_ret
      exact ⟨by simp [i2], rfl⟩
theorem rdZ {w : World} {b n : Nat} (h : Rd w w.heap.size (some ⟨b, 0, none⟩) (vn (List.replicate n 0))) : Rd w w.heap.size (some ⟨b, 0, none⟩) (vb (List.replicate n (0 : UInt8))) := by rw [vb_vn, nmZ]; exact h
theorem gseal_z0 (b0 b1 : Nat) (w : World) (h0 : Rd w w.heap.size (some ⟨b0, 0, none⟩) (vn (List.replicate 16 0))) (h1 : Rd w w.heap.size (some ⟨b1, 0, none⟩) (vn (List.replicate 12 0))) :
    Calls Try.prog 11 #[.slice (some ⟨b0, 0, none⟩) 16 16, .slice (some ⟨b1, 0, none⟩) 12 12, .slice none 0 0, .slice none 0 0] w fun e w' => ∃ C c, (e = .returned (.tuple #[.slice C 16 c, .int .i64 0]) ∧ 16 ≤ c ∧ Rd w' w'.heap.size C (vb tag0)) ∧ Below w.heap.size w w' := by
  refine (gseal_all _ _ none none (List.replicate 16 0) (List.replicate 12 0) [] [] 16 12 0 0 16 12 0 0 (by simp) (by simp) rfl rfl (by omega) (by omega) (by omega) (by omega) (by omega) (by omega) (by omega) (by omega) w (rdZ h0) (rdZ h1) (Rd.nil _ _ _) (Rd.nil _ _ _)).mono ?_
  rintro e w' ⟨C, c, rfl, hc, hr, hb⟩
  have e : selB (List.replicate 16 0) (List.replicate 12 0) [] [] = tag0 := by unfold selB; rw [if_pos selZ0, sealZ0]
  rw [e] at hc hr
  rw [e, selZ0]
  exact ⟨C, c, ⟨rfl, hc, hr⟩, hb⟩
theorem gopen_z0 (b0 b1 : Nat) (C : Option Addr) (c : Nat) (hc : 16 ≤ c) (w : World) (h0 : Rd w w.heap.size (some ⟨b0, 0, none⟩) (vn (List.replicate 16 0))) (h1 : Rd w w.heap.size (some ⟨b1, 0, none⟩) (vn (List.replicate 12 0))) (h2 : Rd w w.heap.size C (vb tag0)) :
    Calls Try.prog 14 #[.slice (some ⟨b0, 0, none⟩) 16 16, .slice (some ⟨b1, 0, none⟩) 12 12, .slice none 0 0, .slice C 16 c] w fun e w' => ∃ D d, e = .returned (.tuple #[.slice D 0 d, .int .i64 0]) ∧ Below w.heap.size w w' := by
  refine (gopen_all _ _ none C (List.replicate 16 0) (List.replicate 12 0) [] tag0 16 12 0 16 16 12 0 c (by simp) (by simp) rfl rfl (by omega) (by omega) (by omega) hc (by omega) (by omega) (by omega) (by omega) w (rdZ h0) (rdZ h1) (Rd.nil _ _ _) h2).mono ?_
  rintro e w' ⟨D, d, rfl, _, _, hb⟩
  have e1 : opnR (List.replicate 16 0) (List.replicate 12 0) [] tag0 = 0 := by rw [← sealZ0]; exact opnR_seal _ _ _ _ selZ0
  have e2 : opnB (List.replicate 16 0) (List.replicate 12 0) [] tag0 = [] := by rw [← sealZ0]; exact opnB_seal _ _ _ _ selZ0
  rw [e1, e2]
  exact ⟨D, d, rfl, hb⟩

set_option maxRecDepth 100000 in
set_option maxHeartbeats 20000000 in
theorem known06_any (w : World) :
    Calls Try.prog 9 #[] w fun e w' => e = .returned (.bool true) ∧ Below w.heap.size w w' := by
  obtain ⟨w0, hw0⟩ : ∃ w0, w0 = w := ⟨_, rfl⟩
  rw [← hw0]
  clear hw0 w
  have mk16 : ∀ w : World, (Instr.makeSlice 22 (.int .i64 16) (.int .i64 16)).run Try.prog w = .ok (.slice (some ⟨w.heap.size, 0, none⟩) 16 16) (w.alloc (.cells (zrow 16) 5)) := zrow_make 16 (by omega)
  have mk12 : ∀ w : World, (Instr.makeSlice 22 (.int .i64 12) (.int .i64 12)).run Try.prog w = .ok (.slice (some ⟨w.heap.size, 0, none⟩) 12 12) (w.alloc (.cells (zrow 12) 5)) := zrow_make 12 (by omega)
  go_enter Try.func9, Try.ntmps9
  go_upto_region 1 with fail
  go_cut [1, 2] (fun s1 s2 wx => ∃ C c, s1 = .slice C 16 c ∧ s2 = .int .i64 0 ∧ 16 ≤ c ∧ Hid (Rd wx wx.heap.size C (vb tag0)) ∧ Hid (Below w0.heap.size w0 wx))
  case first =>
    refine wp_region_noPanic ?_
    refine wp_region_held_drew (S := (fun w' => Below w0.heap.size w0 w')) (by kernel_rfl) ?_ (fun hHeld => ?_)
    · exact (Below.refl w0.heap.size w0).drew
    have hs2 : Below w0.heap.size w0 w0.drew := (Below.refl w0.heap.size w0).drew
    generalize w0.drew = ws1 at *
    refine wpAnyH_ready (rs := [0, 1]) (by kernel_rfl) (by simp) ?_
    refine AllReadyH.cons rfl (fun K hK => ?_) (AllReadyH.cons rfl (fun K hK => ?_) (AllReadyH.nil))
    · try simp only [zq1, zq2, zq3]
      go_simp
      have hw4 : Below w0.heap.size w0 (ws1.alloc (.cells (zrow 16) 5)) := hs2.alloc hs2.size _
      have hr5 : Rd (ws1.alloc (.cells (zrow 16) 5)) (ws1.alloc (.cells (zrow 16) 5)).heap.size (some ⟨ws1.heap.size, 0, none⟩) (vn (List.replicate 16 0)) := zrow_rd 16 ws1
      refine hK.out _ _ ?_ (fun hHeld => ?_)
      · exact hw4
      clear hK K
      try simp only [Act.put, zq1, zq2, zq3, zq4, zq5, zq6]
      generalize ws1.alloc (.cells (zrow 16) 5) = w3 at *
      generalize ws1.heap.size = b6 at *
      refine wpAnyH_ready (rs := [1]) (by kernel_rfl) (by simp) ?_
      refine AllReadyH.cons rfl (fun K hK => ?_) (AllReadyH.nil)
      try simp only [zq1, zq2, zq3]
      go_simp
      have hw8 : Below w0.heap.size w0 (w3.alloc (.cells (zrow 12) 5)) := hw4.alloc hw4.size _
      have hr9 : Rd (w3.alloc (.cells (zrow 12) 5)) (w3.alloc (.cells (zrow 12) 5)).heap.size (some ⟨w3.heap.size, 0, none⟩) (vn (List.replicate 12 0)) := zrow_rd 12 w3
      have hr11 := Rd.go hr5 ((Below.refl _ _).alloc (Nat.le_refl _) (.cells (zrow 12) 5))
      refine hK.out _ _ ?_ (fun hHeld => ?_)
      · exact hw8
      clear hK K
      try simp only [Act.put, zq1, zq2, zq3, zq4, zq5, zq6]
      generalize w3.alloc (.cells (zrow 12) 5) = w7 at *
      generalize w3.heap.size = b10 at *
      refine wpAnyH_ready (rs := [2]) (by kernel_rfl) (by simp) ?_
      refine AllReadyH.cons rfl (fun K hK => ?_) (AllReadyH.nil)
      try simp only [zq1, zq2, zq3]
      go_simp
      refine (gseal_z0 _ _ _ hr11 hr9).mono ?_
      rintro e w12 ⟨C, c, ⟨rfl, hcZ, hrZ⟩, hb13⟩
      have hw14 : Below w0.heap.size w0 w12 := hw8.trans (hb13.mono hw8.size)
      have hr15 := Rd.go hr11 hb13
      have hr16 := Rd.go hr9 hb13
      refine hK.out _ _ ?_ (fun hHeld => ?_)
      · exact hw14
      clear hK K
      try simp only [Act.put, zq1, zq2, zq3, zq4, zq5, zq6]
      clear hb13
      refine wpAnyH_take (i := 3) (v := ?_) rfl (by kernel_rfl) (by kernel_rfl) (by kernel_rfl) (fun _ _ _ h => h) (Or.inl ⟨by rfl, ?_⟩) hHeld ?_
      rotate_left
      · intro w' hSw
        (try dsimp only at hSw)
        go_simp
        try with_reducible rfl
      try simp only [Act.put, zq1, zq2, zq3, zq4, zq5, zq6]
      refine wpAnyH_take (i := 4) (v := ?_) rfl (by kernel_rfl) (by kernel_rfl) (by kernel_rfl) (fun _ _ _ h => h) (Or.inl ⟨by rfl, ?_⟩) hHeld ?_
      rotate_left
      · intro w' hSw
        (try dsimp only at hSw)
        go_simp
        try with_reducible rfl
      try simp only [Act.put, zq1, zq2, zq3, zq4, zq5, zq6]
      refine wpAnyH_take (i := 5) (v := ?_) rfl (by kernel_rfl) (by kernel_rfl) (by kernel_rfl) (fun _ _ _ h => h) (Or.inl ⟨by rfl, ?_⟩) hHeld ?_
      rotate_left
      · intro w' hSw
        (try dsimp only at hSw)
        go_simp
        try with_reducible rfl
      try simp only [Act.put, zq1, zq2, zq3, zq4, zq5, zq6]
      refine wpAnyH_take (i := 6) (v := ?_) rfl (by kernel_rfl) (by kernel_rfl) (by kernel_rfl) (fun _ _ _ h => h) (Or.inl ⟨by rfl, ?_⟩) hHeld ?_
      rotate_left
      · intro w' hSw
        (try dsimp only at hSw)
        go_simp
        try with_reducible rfl
      try simp only [Act.put, zq1, zq2, zq3, zq4, zq5, zq6]
      refine wpAnyH_take (i := 7) (v := ?_) rfl (by kernel_rfl) (by kernel_rfl) (by kernel_rfl) (fun _ _ _ h => h) (Or.inl ⟨by rfl, ?_⟩) hHeld ?_
      rotate_left
      · intro w' hSw
        (try dsimp only at hSw)
        go_simp
        try with_reducible rfl
      try simp only [Act.put, zq1, zq2, zq3, zq4, zq5, zq6]
      refine wpAnyH_done (by kernel_rfl) ?_ _
      refine NoPanic.normal ?_
      go_wp2_with fail
      go_meet
      refine ⟨_, _, rfl, rfl, hcZ, Lib.hid hrZ, Lib.hid hw14⟩
    · try simp only [zq1, zq2, zq3]
      go_simp
      have hw18 : Below w0.heap.size w0 (ws1.alloc (.cells (zrow 12) 5)) := hs2.alloc hs2.size _
      have hr19 : Rd (ws1.alloc (.cells (zrow 12) 5)) (ws1.alloc (.cells (zrow 12) 5)).heap.size (some ⟨ws1.heap.size, 0, none⟩) (vn (List.replicate 12 0)) := zrow_rd 12 ws1
      refine hK.out _ _ ?_ (fun hHeld => ?_)
      · exact hw18
      clear hK K
      try simp only [Act.put, zq1, zq2, zq3, zq4, zq5, zq6]
      generalize ws1.alloc (.cells (zrow 12) 5) = w17 at *
      generalize ws1.heap.size = b20 at *
      refine wpAnyH_ready (rs := [0]) (by kernel_rfl) (by simp) ?_
      refine AllReadyH.cons rfl (fun K hK => ?_) (AllReadyH.nil)
      try simp only [zq1, zq2, zq3]
      go_simp
      have hw22 : Below w0.heap.size w0 (w17.alloc (.cells (zrow 16) 5)) := hw18.alloc hw18.size _
      have hr23 : Rd (w17.alloc (.cells (zrow 16) 5)) (w17.alloc (.cells (zrow 16) 5)).heap.size (some ⟨w17.heap.size, 0, none⟩) (vn (List.replicate 16 0)) := zrow_rd 16 w17
      have hr25 := Rd.go hr19 ((Below.refl _ _).alloc (Nat.le_refl _) (.cells (zrow 16) 5))
      refine hK.out _ _ ?_ (fun hHeld => ?_)
      · exact hw22
      clear hK K
      try simp only [Act.put, zq1, zq2, zq3, zq4, zq5, zq6]
      generalize w17.alloc (.cells (zrow 16) 5) = w21 at *
      generalize w17.heap.size = b24 at *
      refine wpAnyH_ready (rs := [2]) (by kernel_rfl) (by simp) ?_
      refine AllReadyH.cons rfl (fun K hK => ?_) (AllReadyH.nil)
      try simp only [zq1, zq2, zq3]
      go_simp
      refine (gseal_z0 _ _ _ hr23 hr25).mono ?_
      rintro e w26 ⟨C, c, ⟨rfl, hcZ, hrZ⟩, hb27⟩
      have hw28 : Below w0.heap.size w0 w26 := hw22.trans (hb27.mono hw22.size)
      have hr29 := Rd.go hr25 hb27
      have hr30 := Rd.go hr23 hb27
      refine hK.out _ _ ?_ (fun hHeld => ?_)
      · exact hw28
      clear hK K
      try simp only [Act.put, zq1, zq2, zq3, zq4, zq5, zq6]
      clear hb27
      refine wpAnyH_take (i := 3) (v := ?_) rfl (by kernel_rfl) (by kernel_rfl) (by kernel_rfl) (fun _ _ _ h => h) (Or.inl ⟨by rfl, ?_⟩) hHeld ?_
      rotate_left
      · intro w' hSw
        (try dsimp only at hSw)
        go_simp
        try with_reducible rfl
      try simp only [Act.put, zq1, zq2, zq3, zq4, zq5, zq6]
      refine wpAnyH_take (i := 4) (v := ?_) rfl (by kernel_rfl) (by kernel_rfl) (by kernel_rfl) (fun _ _ _ h => h) (Or.inl ⟨by rfl, ?_⟩) hHeld ?_
      rotate_left
      · intro w' hSw
        (try dsimp only at hSw)
        go_simp
        try with_reducible rfl
      try simp only [Act.put, zq1, zq2, zq3, zq4, zq5, zq6]
      refine wpAnyH_take (i := 5) (v := ?_) rfl (by kernel_rfl) (by kernel_rfl) (by kernel_rfl) (fun _ _ _ h => h) (Or.inl ⟨by rfl, ?_⟩) hHeld ?_
      rotate_left
      · intro w' hSw
        (try dsimp only at hSw)
        go_simp
        try with_reducible rfl
      try simp only [Act.put, zq1, zq2, zq3, zq4, zq5, zq6]
      refine wpAnyH_take (i := 6) (v := ?_) rfl (by kernel_rfl) (by kernel_rfl) (by kernel_rfl) (fun _ _ _ h => h) (Or.inl ⟨by rfl, ?_⟩) hHeld ?_
      rotate_left
      · intro w' hSw
        (try dsimp only at hSw)
        go_simp
        try with_reducible rfl
      try simp only [Act.put, zq1, zq2, zq3, zq4, zq5, zq6]
      refine wpAnyH_take (i := 7) (v := ?_) rfl (by kernel_rfl) (by kernel_rfl) (by kernel_rfl) (fun _ _ _ h => h) (Or.inl ⟨by rfl, ?_⟩) hHeld ?_
      rotate_left
      · intro w' hSw
        (try dsimp only at hSw)
        go_simp
        try with_reducible rfl
      try simp only [Act.put, zq1, zq2, zq3, zq4, zq5, zq6]
      refine wpAnyH_done (by kernel_rfl) ?_ _
      refine NoPanic.normal ?_
      go_wp2_with fail
      go_meet
      refine ⟨_, _, rfl, rfl, hcZ, Lib.hid hrZ, Lib.hid hw28⟩
  case rest =>
    obtain ⟨C, c, rfl, rfl, hc, HR, HW⟩ := hcut
    obtain ⟨u1, rfl⟩ : ∃ u1 : World, u1 = wc := ⟨_, rfl⟩
    go_upto_region 2 with fail
    go_cut [3, 4] (fun s3 s4 wx => ∃ D d, s3 = .slice D 0 d ∧ s4 = .int .i64 0 ∧ Hid (Below u1.heap.size u1 wx))
    case first =>
      refine wp_region_noPanic ?_
      refine wp_region_held_drew (S := (fun w' => Below u1.heap.size u1 w')) (by kernel_rfl) ?_ (fun hHeld => ?_)
      · exact (Below.refl u1.heap.size u1).drew
      have hs2 : Below u1.heap.size u1 u1.drew := (Below.refl u1.heap.size u1).drew
      generalize u1.drew = ws1 at *
      refine wpAnyH_take (i := 2) (v := ?_) rfl (by kernel_rfl) (by kernel_rfl) (by kernel_rfl) (fun _ _ _ h => h) (Or.inl ⟨by rfl, ?_⟩) hHeld ?_
      rotate_left
      · intro w' hSw
        (try dsimp only at hSw)
        go_simp
        try with_reducible rfl
      try simp only [Act.put, zq1, zq2, zq3, zq4, zq5, zq6]
      refine wpAnyH_ready (rs := [0, 1]) (by kernel_rfl) (by simp) ?_
      refine AllReadyH.cons rfl (fun K hK => ?_) (AllReadyH.cons rfl (fun K hK => ?_) (AllReadyH.nil))
      · try simp only [zq1, zq2, zq3]
        go_simp
        have hw4 : Below u1.heap.size u1 (ws1.alloc (.cells (zrow 16) 5)) := hs2.alloc hs2.size _
        have hr5 : Rd (ws1.alloc (.cells (zrow 16) 5)) (ws1.alloc (.cells (zrow 16) 5)).heap.size (some ⟨ws1.heap.size, 0, none⟩) (vn (List.replicate 16 0)) := zrow_rd 16 ws1
        refine hK.out _ _ ?_ (fun hHeld => ?_)
        · exact hw4
        clear hK K
        try simp only [Act.put, zq1, zq2, zq3, zq4, zq5, zq6]
        generalize ws1.alloc (.cells (zrow 16) 5) = w3 at *
        generalize ws1.heap.size = b6 at *
        refine wpAnyH_ready (rs := [1]) (by kernel_rfl) (by simp) ?_
        refine AllReadyH.cons rfl (fun K hK => ?_) (AllReadyH.nil)
        try simp only [zq1, zq2, zq3]
        go_simp
        have hw8 : Below u1.heap.size u1 (w3.alloc (.cells (zrow 12) 5)) := hw4.alloc hw4.size _
        have hr9 : Rd (w3.alloc (.cells (zrow 12) 5)) (w3.alloc (.cells (zrow 12) 5)).heap.size (some ⟨w3.heap.size, 0, none⟩) (vn (List.replicate 12 0)) := zrow_rd 12 w3
        have hr11 := Rd.go hr5 ((Below.refl _ _).alloc (Nat.le_refl _) (.cells (zrow 12) 5))
        refine hK.out _ _ ?_ (fun hHeld => ?_)
        · exact hw8
        clear hK K
        try simp only [Act.put, zq1, zq2, zq3, zq4, zq5, zq6]
        generalize w3.alloc (.cells (zrow 12) 5) = w7 at *
        generalize w3.heap.size = b10 at *
        refine wpAnyH_ready (rs := [3]) (by kernel_rfl) (by simp) ?_
        refine AllReadyH.cons rfl (fun K hK => ?_) (AllReadyH.nil)
        try simp only [zq1, zq2, zq3]
        go_simp
        refine (gopen_z0 _ _ C c hc _ hr11 hr9 (HR.out.go hw8)).mono ?_
        rintro e w12 ⟨D, d, rfl, hb13⟩
        have hw14 : Below u1.heap.size u1 w12 := hw8.trans (hb13.mono hw8.size)
        have hr15 := Rd.go hr11 hb13
        have hr16 := Rd.go hr9 hb13
        refine hK.out _ _ ?_ (fun hHeld => ?_)
        · exact hw14
        clear hK K
        try simp only [Act.put, zq1, zq2, zq3, zq4, zq5, zq6]
        clear hb13
        refine wpAnyH_take (i := 4) (v := ?_) rfl (by kernel_rfl) (by kernel_rfl) (by kernel_rfl) (fun _ _ _ h => h) (Or.inl ⟨by rfl, ?_⟩) hHeld ?_
        rotate_left
        · intro w' hSw
          (try dsimp only at hSw)
          go_simp
          try with_reducible rfl
        try simp only [Act.put, zq1, zq2, zq3, zq4, zq5, zq6]
        refine wpAnyH_take (i := 5) (v := ?_) rfl (by kernel_rfl) (by kernel_rfl) (by kernel_rfl) (fun _ _ _ h => h) (Or.inl ⟨by rfl, ?_⟩) hHeld ?_
        rotate_left
        · intro w' hSw
          (try dsimp only at hSw)
          go_simp
          try with_reducible rfl
        try simp only [Act.put, zq1, zq2, zq3, zq4, zq5, zq6]
        refine wpAnyH_take (i := 6) (v := ?_) rfl (by kernel_rfl) (by kernel_rfl) (by kernel_rfl) (fun _ _ _ h => h) (Or.inl ⟨by rfl, ?_⟩) hHeld ?_
        rotate_left
        · intro w' hSw
          (try dsimp only at hSw)
          go_simp
          try with_reducible rfl
        try simp only [Act.put, zq1, zq2, zq3, zq4, zq5, zq6]
        refine wpAnyH_take (i := 7) (v := ?_) rfl (by kernel_rfl) (by kernel_rfl) (by kernel_rfl) (fun _ _ _ h => h) (Or.inl ⟨by rfl, ?_⟩) hHeld ?_
        rotate_left
        · intro w' hSw
          (try dsimp only at hSw)
          go_simp
          try with_reducible rfl
        try simp only [Act.put, zq1, zq2, zq3, zq4, zq5, zq6]
        refine wpAnyH_take (i := 8) (v := ?_) rfl (by kernel_rfl) (by kernel_rfl) (by kernel_rfl) (fun _ _ _ h => h) (Or.inl ⟨by rfl, ?_⟩) hHeld ?_
        rotate_left
        · intro w' hSw
          (try dsimp only at hSw)
          go_simp
          try with_reducible rfl
        try simp only [Act.put, zq1, zq2, zq3, zq4, zq5, zq6]
        refine wpAnyH_done (by kernel_rfl) ?_ _
        refine NoPanic.normal ?_
        go_wp2_with fail
        go_meet
        refine ⟨_, _, rfl, rfl, Lib.hid hw14⟩
      · try simp only [zq1, zq2, zq3]
        go_simp
        have hw18 : Below u1.heap.size u1 (ws1.alloc (.cells (zrow 12) 5)) := hs2.alloc hs2.size _
        have hr19 : Rd (ws1.alloc (.cells (zrow 12) 5)) (ws1.alloc (.cells (zrow 12) 5)).heap.size (some ⟨ws1.heap.size, 0, none⟩) (vn (List.replicate 12 0)) := zrow_rd 12 ws1
        refine hK.out _ _ ?_ (fun hHeld => ?_)
        · exact hw18
        clear hK K
        try simp only [Act.put, zq1, zq2, zq3, zq4, zq5, zq6]
        generalize ws1.alloc (.cells (zrow 12) 5) = w17 at *
        generalize ws1.heap.size = b20 at *
        refine wpAnyH_ready (rs := [0]) (by kernel_rfl) (by simp) ?_
        refine AllReadyH.cons rfl (fun K hK => ?_) (AllReadyH.nil)
        try simp only [zq1, zq2, zq3]
        go_simp
        have hw22 : Below u1.heap.size u1 (w17.alloc (.cells (zrow 16) 5)) := hw18.alloc hw18.size _
        have hr23 : Rd (w17.alloc (.cells (zrow 16) 5)) (w17.alloc (.cells (zrow 16) 5)).heap.size (some ⟨w17.heap.size, 0, none⟩) (vn (List.replicate 16 0)) := zrow_rd 16 w17
        have hr25 := Rd.go hr19 ((Below.refl _ _).alloc (Nat.le_refl _) (.cells (zrow 16) 5))
        refine hK.out _ _ ?_ (fun hHeld => ?_)
        · exact hw22
        clear hK K
        try simp only [Act.put, zq1, zq2, zq3, zq4, zq5, zq6]
        generalize w17.alloc (.cells (zrow 16) 5) = w21 at *
        generalize w17.heap.size = b24 at *
        refine wpAnyH_ready (rs := [3]) (by kernel_rfl) (by simp) ?_
        refine AllReadyH.cons rfl (fun K hK => ?_) (AllReadyH.nil)
        try simp only [zq1, zq2, zq3]
        go_simp
        refine (gopen_z0 _ _ C c hc _ hr23 hr25 (HR.out.go hw22)).mono ?_
        rintro e w26 ⟨D, d, rfl, hb27⟩
        have hw28 : Below u1.heap.size u1 w26 := hw22.trans (hb27.mono hw22.size)
        have hr29 := Rd.go hr25 hb27
        have hr30 := Rd.go hr23 hb27
        refine hK.out _ _ ?_ (fun hHeld => ?_)
        · exact hw28
        clear hK K
        try simp only [Act.put, zq1, zq2, zq3, zq4, zq5, zq6]
        clear hb27
        refine wpAnyH_take (i := 4) (v := ?_) rfl (by kernel_rfl) (by kernel_rfl) (by kernel_rfl) (fun _ _ _ h => h) (Or.inl ⟨by rfl, ?_⟩) hHeld ?_
        rotate_left
        · intro w' hSw
          (try dsimp only at hSw)
          go_simp
          try with_reducible rfl
        try simp only [Act.put, zq1, zq2, zq3, zq4, zq5, zq6]
        refine wpAnyH_take (i := 5) (v := ?_) rfl (by kernel_rfl) (by kernel_rfl) (by kernel_rfl) (fun _ _ _ h => h) (Or.inl ⟨by rfl, ?_⟩) hHeld ?_
        rotate_left
        · intro w' hSw
          (try dsimp only at hSw)
          go_simp
          try with_reducible rfl
        try simp only [Act.put, zq1, zq2, zq3, zq4, zq5, zq6]
        refine wpAnyH_take (i := 6) (v := ?_) rfl (by kernel_rfl) (by kernel_rfl) (by kernel_rfl) (fun _ _ _ h => h) (Or.inl ⟨by rfl, ?_⟩) hHeld ?_
        rotate_left
        · intro w' hSw
          (try dsimp only at hSw)
          go_simp
          try with_reducible rfl
        try simp only [Act.put, zq1, zq2, zq3, zq4, zq5, zq6]
        refine wpAnyH_take (i := 7) (v := ?_) rfl (by kernel_rfl) (by kernel_rfl) (by kernel_rfl) (fun _ _ _ h => h) (Or.inl ⟨by rfl, ?_⟩) hHeld ?_
        rotate_left
        · intro w' hSw
          (try dsimp only at hSw)
          go_simp
          try with_reducible rfl
        try simp only [Act.put, zq1, zq2, zq3, zq4, zq5, zq6]
        refine wpAnyH_take (i := 8) (v := ?_) rfl (by kernel_rfl) (by kernel_rfl) (by kernel_rfl) (fun _ _ _ h => h) (Or.inl ⟨by rfl, ?_⟩) hHeld ?_
        rotate_left
        · intro w' hSw
          (try dsimp only at hSw)
          go_simp
          try with_reducible rfl
        try simp only [Act.put, zq1, zq2, zq3, zq4, zq5, zq6]
        refine wpAnyH_done (by kernel_rfl) ?_ _
        refine NoPanic.normal ?_
        go_wp2_with fail
        go_meet
        refine ⟨_, _, rfl, rfl, Lib.hid hw28⟩
    case rest =>
      obtain ⟨D, d, rfl, rfl, HW2⟩ := hcut
      replace HR := Lib.hid (HR.out.go HW2.out)
      have ra := run_str (P := Try.prog) 22 9 5 Try.underlying22 Try.underlying5 Try.underlying9 (n := 16) rfl c HR.out
      go_wp2_with fail
      go_ret
      exact ⟨rfl, HW.out.trans (HW2.out.mono HW.out.size)⟩
end Go.Proofs.Ytkfmgjipocmkjaa
