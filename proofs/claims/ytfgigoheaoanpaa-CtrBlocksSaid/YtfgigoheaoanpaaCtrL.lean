/-
  The laws' pieces of layer 5: rows, strings, known. (Printed by wip/gen/ctrlaws.py.)
-/
import Derived.Test.YtfgigoheaoanpaaCtrC
import Derived.Test.YtfgigoheaoanpaaPie
import Derived.Test.YtfgigoheaoanpaaCtrK
import Derived.Test.YtfgigoheaoanpaaZrow
import Derived.Test.YtfgigoheaoanpaaAesN
import Derived.WalkLawsBesides
namespace Go.Proofs.Ytfgigoheaoanpaa
open Go Go.RowKit
set_option linter.unusedVariables false
set_option linter.unusedSimpArgs false

def outL : List UInt8 := [3, 136, 218, 206, 96, 182, 163, 146, 243, 40, 194, 185, 113, 178, 254, 120]
theorem outL_eq : u8s (crL (encK (List.replicate 16 0)) (stF (List.replicate 12 0)) (List.replicate 16 0) 16) = outL := by
  have e : crL (encK (List.replicate 16 0)) (stF (List.replicate 12 0)) (List.replicate 16 0) 16 = (List.range 16).map outZ := crL_Z
  rw [e]
  decide

theorem ccrypt_z (b0 b1 b2 : Nat) (w : World) (h0 : Rd w w.heap.size (some ⟨b0, 0, none⟩) (vn (List.replicate 16 0))) (h1 : Rd w w.heap.size (some ⟨b1, 0, none⟩) (vn (List.replicate 12 0))) (h2 : Rd w w.heap.size (some ⟨b2, 0, none⟩) (vn (List.replicate 16 0))) :
    Calls Try.prog 13 #[.slice (some ⟨b0, 0, none⟩) 16 16, .slice (some ⟨b1, 0, none⟩) 12 12, .slice (some ⟨b2, 0, none⟩) 16 16] w fun e w' => ∃ A c, e = .returned (.tuple #[.slice A 16 c, .int .i64 0]) ∧ Rd w' w'.heap.size A (vb outL) ∧ Below w.heap.size w w' := by
  have hz : ∀ n, ∀ x ∈ List.replicate n (0 : Nat), x < 256 := fun n x hx => by rw [List.mem_replicate] at hx; omega
  refine (ccrypt_any _ (List.replicate 16 0) 16 16 (by simp) (hz 16) (.inl rfl) (by omega) _ (List.replicate 12 0) 12 (by simp) (hz 12) (by omega) _ (List.replicate 16 0) 16 16 (by simp) (hz 16) (by omega) (by omega) w h0 h1 h2).mono ?_
  rintro e w' ⟨v, rfl, ho, hb⟩
  obtain ⟨A, c, rfl, _, hr⟩ := Rd.of_own ho
  refine ⟨A, c, rfl, ?_, hb⟩
  rw [← outL_eq, u8s_vb _ (crL_lt (encK _) (encK_lt _ (hz 16)) _ (stF_lt _ (hz 12)) _ (hz 16) 16)]
  exact hr

set_option maxRecDepth 100000 in
set_option maxHeartbeats 20000000 in
theorem known05_any (w : World) :
    Calls Try.prog 12 #[] w fun e w' => e = .returned (.bool true) ∧ Below w.heap.size w w' := by
  obtain ⟨w0, hw0⟩ : ∃ w0, w0 = w := ⟨_, rfl⟩
  rw [← hw0]
  clear hw0 w
  have mk16 : ∀ w : World, (Instr.makeSlice 22 (.int .i64 16) (.int .i64 16)).run Try.prog w = .ok (.slice (some ⟨w.heap.size, 0, none⟩) 16 16) (w.alloc (.cells (zrow 16) 5)) := zrow_make 16 (by omega)
  have mk12 : ∀ w : World, (Instr.makeSlice 22 (.int .i64 12) (.int .i64 12)).run Try.prog w = .ok (.slice (some ⟨w.heap.size, 0, none⟩) 12 12) (w.alloc (.cells (zrow 12) 5)) := zrow_make 12 (by omega)
  go_enter Try.func12, Try.ntmps12
  go_upto_region 1 with fail
  go_cut [1, 2] (fun s1 s2 wx => ∃ A c, s1 = .slice A 16 c ∧ s2 = .int .i64 0 ∧ Hid (Rd wx wx.heap.size A (vb outL)) ∧ Hid (Below w0.heap.size w0 wx))
  case first =>
    refine wp_region_noPanic ?_
    refine wp_region_held_drew (S := (fun w' => Below w0.heap.size w0 w')) (by kernel_rfl) ?_ (fun hHeld => ?_)
    · exact (Below.refl w0.heap.size w0).drew
    have hs2 : Below w0.heap.size w0 w0.drew := (Below.refl w0.heap.size w0).drew
    generalize w0.drew = ws1 at *
    refine wpAnyH_ready (rs := [0, 1, 2]) (by kernel_rfl) (by simp) ?_
    refine AllReadyH.cons rfl (fun K hK => ?_) (AllReadyH.cons rfl (fun K hK => ?_) (AllReadyH.cons rfl (fun K hK => ?_) (AllReadyH.nil)))
    · try simp only [zq1, zq2, zq3]
      go_simp
      have hw4 : Below w0.heap.size w0 (ws1.alloc (.cells (zrow 16) 5)) := hs2.alloc hs2.size _
      have hr5 : Rd (ws1.alloc (.cells (zrow 16) 5)) (ws1.alloc (.cells (zrow 16) 5)).heap.size (some ⟨ws1.heap.size, 0, none⟩) (vn (List.replicate 16 0)) := zrow_rd 16 ws1
      refine hK.out _ _ ?_ (fun hHeld => ?_)
      · exact hw4
      clear hK K
      try simp only [Act.put, zq1, zq2, zq3, zq4, zq5, zq6]
      generalize ws1.alloc (.cells (zrow 16) 5) = w3 at *
      generalize ws1.heap.size = b6 at *
      refine wpAnyH_ready (rs := [1, 2]) (by kernel_rfl) (by simp) ?_
      refine AllReadyH.cons rfl (fun K hK => ?_) (AllReadyH.cons rfl (fun K hK => ?_) (AllReadyH.nil))
      · try simp only [zq1, zq2, zq3]
        go_simp
        have hw8 : Below w0.heap.size w0 (w3.alloc (.cells (zrow 12) 5)) := hw4.alloc hw4.size _
        have hr9 : Rd (w3.alloc (.cells (zrow 12) 5)) (w3.alloc (.cells (zrow 12) 5)).heap.size (some ⟨w3.heap.size, 0, none⟩) (vn (List.replicate 12 0)) := zrow_rd 12 w3
        have hr11 := Rd.go hr5 ((Below.refl _ _).alloc (Nat.le_refl _) (.cells (zrow 12) 5))
        refine hK.out _ _ ?_ (fun hHeld => ?_)
        · exact hw8
        clear hK K
        try simp only [Act.put, zq1, zq2, zq3, zq4, zq5, zq6]
        generalize w3.alloc (.cells (zrow 12) 5) = w7 at *
        generalize w3.heap.size = b10 at *
        refine wpAnyH_ready (rs := [2]) (by kernel_rfl) (by simp) ?_
        refine AllReadyH.cons rfl (fun K hK => ?_) (AllReadyH.nil)
        try simp only [zq1, zq2, zq3]
        go_simp
        have hw13 : Below w0.heap.size w0 (w7.alloc (.cells (zrow 16) 5)) := hw8.alloc hw8.size _
        have hr14 : Rd (w7.alloc (.cells (zrow 16) 5)) (w7.alloc (.cells (zrow 16) 5)).heap.size (some ⟨w7.heap.size, 0, none⟩) (vn (List.replicate 16 0)) := zrow_rd 16 w7
        have hr16 := Rd.go hr11 ((Below.refl _ _).alloc (Nat.le_refl _) (.cells (zrow 16) 5))
        have hr17 := Rd.go hr9 ((Below.refl _ _).alloc (Nat.le_refl _) (.cells (zrow 16) 5))
        refine hK.out _ _ ?_ (fun hHeld => ?_)
        · exact hw13
        clear hK K
        try simp only [Act.put, zq1, zq2, zq3, zq4, zq5, zq6]
        generalize w7.alloc (.cells (zrow 16) 5) = w12 at *
        generalize w7.heap.size = b15 at *
        refine wpAnyH_ready (rs := [3]) (by kernel_rfl) (by simp) ?_
        refine AllReadyH.cons rfl (fun K hK => ?_) (AllReadyH.nil)
        try simp only [zq1, zq2, zq3]
        go_simp
        refine (ccrypt_z _ _ _ _ hr16 hr17 hr14).mono ?_
        rintro e w18 ⟨A, c, rfl, hrZ, hb19⟩
        have hw20 : Below w0.heap.size w0 w18 := hw13.trans (hb19.mono hw13.size)
        have hr21 := Rd.go hr16 hb19
        have hr22 := Rd.go hr17 hb19
        have hr23 := Rd.go hr14 hb19
        refine hK.out _ _ ?_ (fun hHeld => ?_)
        · exact hw20
        clear hK K
        try simp only [Act.put, zq1, zq2, zq3, zq4, zq5, zq6]
        clear hb19
        refine wpAnyH_take (i := 4) (v := ?_) rfl (by kernel_rfl) (by kernel_rfl) (by kernel_rfl) (fun _ _ _ h => h) (Or.inl ⟨by rfl, ?_⟩) hHeld ?_
        rotate_left
        · intro w' hSw
          (try dsimp only at hSw)
          go_simp
          try with_reducible rfl
        try simp only [Act.put, zq1, zq2, zq3, zq4, zq5, zq6]
        refine wpAnyH_take (i := 5) (v := ?_) rfl (by kernel_rfl) (by kernel_rfl) (by kernel_rfl) (fun _ _ _ h => h) (Or.inl ⟨by rfl, ?_⟩) hHeld ?_
        rotate_left
        · intro w' hSw
          (try dsimp only at hSw)
          go_simp
          try with_reducible rfl
        try simp only [Act.put, zq1, zq2, zq3, zq4, zq5, zq6]
        refine wpAnyH_take (i := 6) (v := ?_) rfl (by kernel_rfl) (by kernel_rfl) (by kernel_rfl) (fun _ _ _ h => h) (Or.inl ⟨by rfl, ?_⟩) hHeld ?_
        rotate_left
        · intro w' hSw
          (try dsimp only at hSw)
          go_simp
          try with_reducible rfl
        try simp only [Act.put, zq1, zq2, zq3, zq4, zq5, zq6]
        refine wpAnyH_take (i := 7) (v := ?_) rfl (by kernel_rfl) (by kernel_rfl) (by kernel_rfl) (fun _ _ _ h => h) (Or.inl ⟨by rfl, ?_⟩) hHeld ?_
        rotate_left
        · intro w' hSw
          (try dsimp only at hSw)
          go_simp
          try with_reducible rfl
        try simp only [Act.put, zq1, zq2, zq3, zq4, zq5, zq6]
        refine wpAnyH_take (i := 8) (v := ?_) rfl (by kernel_rfl) (by kernel_rfl) (by kernel_rfl) (fun _ _ _ h => h) (Or.inl ⟨by rfl, ?_⟩) hHeld ?_
        rotate_left
        · intro w' hSw
          (try dsimp only at hSw)
          go_simp
          try with_reducible rfl
        try simp only [Act.put, zq1, zq2, zq3, zq4, zq5, zq6]
        refine wpAnyH_done (by kernel_rfl) ?_ _
        refine NoPanic.normal ?_
        go_wp2_with fail
        go_meet
        refine ⟨_, _, rfl, rfl, Lib.hid hrZ, Lib.hid hw20⟩
      · try simp only [zq1, zq2, zq3]
        go_simp
        have hw25 : Below w0.heap.size w0 (w3.alloc (.cells (zrow 16) 5)) := hw4.alloc hw4.size _
        have hr26 : Rd (w3.alloc (.cells (zrow 16) 5)) (w3.alloc (.cells (zrow 16) 5)).heap.size (some ⟨w3.heap.size, 0, none⟩) (vn (List.replicate 16 0)) := zrow_rd 16 w3
        have hr28 := Rd.go hr5 ((Below.refl _ _).alloc (Nat.le_refl _) (.cells (zrow 16) 5))
        refine hK.out _ _ ?_ (fun hHeld => ?_)
        · exact hw25
        clear hK K
        try simp only [Act.put, zq1, zq2, zq3, zq4, zq5, zq6]
        generalize w3.alloc (.cells (zrow 16) 5) = w24 at *
        generalize w3.heap.size = b27 at *
        refine wpAnyH_ready (rs := [1]) (by kernel_rfl) (by simp) ?_
        refine AllReadyH.cons rfl (fun K hK => ?_) (AllReadyH.nil)
        try simp only [zq1, zq2, zq3]
        go_simp
        have hw30 : Below w0.heap.size w0 (w24.alloc (.cells (zrow 12) 5)) := hw25.alloc hw25.size _
        have hr31 : Rd (w24.alloc (.cells (zrow 12) 5)) (w24.alloc (.cells (zrow 12) 5)).heap.size (some ⟨w24.heap.size, 0, none⟩) (vn (List.replicate 12 0)) := zrow_rd 12 w24
        have hr33 := Rd.go hr28 ((Below.refl _ _).alloc (Nat.le_refl _) (.cells (zrow 12) 5))
        have hr34 := Rd.go hr26 ((Below.refl _ _).alloc (Nat.le_refl _) (.cells (zrow 12) 5))
        refine hK.out _ _ ?_ (fun hHeld => ?_)
        · exact hw30
        clear hK K
        try simp only [Act.put, zq1, zq2, zq3, zq4, zq5, zq6]
        generalize w24.alloc (.cells (zrow 12) 5) = w29 at *
        generalize w24.heap.size = b32 at *
        refine wpAnyH_ready (rs := [3]) (by kernel_rfl) (by simp) ?_
        refine AllReadyH.cons rfl (fun K hK => ?_) (AllReadyH.nil)
        try simp only [zq1, zq2, zq3]
        go_simp
        refine (ccrypt_z _ _ _ _ hr33 hr31 hr34).mono ?_
        rintro e w35 ⟨A, c, rfl, hrZ, hb36⟩
        have hw37 : Below w0.heap.size w0 w35 := hw30.trans (hb36.mono hw30.size)
        have hr38 := Rd.go hr33 hb36
        have hr39 := Rd.go hr34 hb36
        have hr40 := Rd.go hr31 hb36
        refine hK.out _ _ ?_ (fun hHeld => ?_)
        · exact hw37
        clear hK K
        try simp only [Act.put, zq1, zq2, zq3, zq4, zq5, zq6]
        clear hb36
        refine wpAnyH_take (i := 4) (v := ?_) rfl (by kernel_rfl) (by kernel_rfl) (by kernel_rfl) (fun _ _ _ h => h) (Or.inl ⟨by rfl, ?_⟩) hHeld ?_
        rotate_left
        · intro w' hSw
          (try dsimp only at hSw)
          go_simp
          try with_reducible rfl
        try simp only [Act.put, zq1, zq2, zq3, zq4, zq5, zq6]
        refine wpAnyH_take (i := 5) (v := ?_) rfl (by kernel_rfl) (by kernel_rfl) (by kernel_rfl) (fun _ _ _ h => h) (Or.inl ⟨by rfl, ?_⟩) hHeld ?_
        rotate_left
        · intro w' hSw
          (try dsimp only at hSw)
          go_simp
          try with_reducible rfl
        try simp only [Act.put, zq1, zq2, zq3, zq4, zq5, zq6]
        refine wpAnyH_take (i := 6) (v := ?_) rfl (by kernel_rfl) (by kernel_rfl) (by kernel_rfl) (fun _ _ _ h => h) (Or.inl ⟨by rfl, ?_⟩) hHeld ?_
        rotate_left
        · intro w' hSw
          (try dsimp only at hSw)
          go_simp
          try with_reducible rfl
        try simp only [Act.put, zq1, zq2, zq3, zq4, zq5, zq6]
        refine wpAnyH_take (i := 7) (v := ?_) rfl (by kernel_rfl) (by kernel_rfl) (by kernel_rfl) (fun _ _ _ h => h) (Or.inl ⟨by rfl, ?_⟩) hHeld ?_
        rotate_left
        · intro w' hSw
          (try dsimp only at hSw)
          go_simp
          try with_reducible rfl
        try simp only [Act.put, zq1, zq2, zq3, zq4, zq5, zq6]
        refine wpAnyH_take (i := 8) (v := ?_) rfl (by kernel_rfl) (by kernel_rfl) (by kernel_rfl) (fun _ _ _ h => h) (Or.inl ⟨by rfl, ?_⟩) hHeld ?_
        rotate_left
        · intro w' hSw
          (try dsimp only at hSw)
          go_simp
          try with_reducible rfl
        try simp only [Act.put, zq1, zq2, zq3, zq4, zq5, zq6]
        refine wpAnyH_done (by kernel_rfl) ?_ _
        refine NoPanic.normal ?_
        go_wp2_with fail
        go_meet
        refine ⟨_, _, rfl, rfl, Lib.hid hrZ, Lib.hid hw37⟩
    · try simp only [zq1, zq2, zq3]
      go_simp
      have hw42 : Below w0.heap.size w0 (ws1.alloc (.cells (zrow 12) 5)) := hs2.alloc hs2.size _
      have hr43 : Rd (ws1.alloc (.cells (zrow 12) 5)) (ws1.alloc (.cells (zrow 12) 5)).heap.size (some ⟨ws1.heap.size, 0, none⟩) (vn (List.replicate 12 0)) := zrow_rd 12 ws1
      refine hK.out _ _ ?_ (fun hHeld => ?_)
      · exact hw42
      clear hK K
      try simp only [Act.put, zq1, zq2, zq3, zq4, zq5, zq6]
      generalize ws1.alloc (.cells (zrow 12) 5) = w41 at *
      generalize ws1.heap.size = b44 at *
      refine wpAnyH_ready (rs := [0, 2]) (by kernel_rfl) (by simp) ?_
      refine AllReadyH.cons rfl (fun K hK => ?_) (AllReadyH.cons rfl (fun K hK => ?_) (AllReadyH.nil))
      · try simp only [zq1, zq2, zq3]
        go_simp
        have hw46 : Below w0.heap.size w0 (w41.alloc (.cells (zrow 16) 5)) := hw42.alloc hw42.size _
        have hr47 : Rd (w41.alloc (.cells (zrow 16) 5)) (w41.alloc (.cells (zrow 16) 5)).heap.size (some ⟨w41.heap.size, 0, none⟩) (vn (List.replicate 16 0)) := zrow_rd 16 w41
        have hr49 := Rd.go hr43 ((Below.refl _ _).alloc (Nat.le_refl _) (.cells (zrow 16) 5))
        refine hK.out _ _ ?_ (fun hHeld => ?_)
        · exact hw46
        clear hK K
        try simp only [Act.put, zq1, zq2, zq3, zq4, zq5, zq6]
        generalize w41.alloc (.cells (zrow 16) 5) = w45 at *
        generalize w41.heap.size = b48 at *
        refine wpAnyH_ready (rs := [2]) (by kernel_rfl) (by simp) ?_
        refine AllReadyH.cons rfl (fun K hK => ?_) (AllReadyH.nil)
        try simp only [zq1, zq2, zq3]
        go_simp
        have hw51 : Below w0.heap.size w0 (w45.alloc (.cells (zrow 16) 5)) := hw46.alloc hw46.size _
        have hr52 : Rd (w45.alloc (.cells (zrow 16) 5)) (w45.alloc (.cells (zrow 16) 5)).heap.size (some ⟨w45.heap.size, 0, none⟩) (vn (List.replicate 16 0)) := zrow_rd 16 w45
        have hr54 := Rd.go hr49 ((Below.refl _ _).alloc (Nat.le_refl _) (.cells (zrow 16) 5))
        have hr55 := Rd.go hr47 ((Below.refl _ _).alloc (Nat.le_refl _) (.cells (zrow 16) 5))
        refine hK.out _ _ ?_ (fun hHeld => ?_)
        · exact hw51
        clear hK K
        try simp only [Act.put, zq1, zq2, zq3, zq4, zq5, zq6]
        generalize w45.alloc (.cells (zrow 16) 5) = w50 at *
        generalize w45.heap.size = b53 at *
        refine wpAnyH_ready (rs := [3]) (by kernel_rfl) (by simp) ?_
        refine AllReadyH.cons rfl (fun K hK => ?_) (AllReadyH.nil)
        try simp only [zq1, zq2, zq3]
        go_simp
        refine (ccrypt_z _ _ _ _ hr55 hr54 hr52).mono ?_
        rintro e w56 ⟨A, c, rfl, hrZ, hb57⟩
        have hw58 : Below w0.heap.size w0 w56 := hw51.trans (hb57.mono hw51.size)
        have hr59 := Rd.go hr54 hb57
        have hr60 := Rd.go hr55 hb57
        have hr61 := Rd.go hr52 hb57
        refine hK.out _ _ ?_ (fun hHeld => ?_)
        · exact hw58
        clear hK K
        try simp only [Act.put, zq1, zq2, zq3, zq4, zq5, zq6]
        clear hb57
        refine wpAnyH_take (i := 4) (v := ?_) rfl (by kernel_rfl) (by kernel_rfl) (by kernel_rfl) (fun _ _ _ h => h) (Or.inl ⟨by rfl, ?_⟩) hHeld ?_
        rotate_left
        · intro w' hSw
          (try dsimp only at hSw)
          go_simp
          try with_reducible rfl
        try simp only [Act.put, zq1, zq2, zq3, zq4, zq5, zq6]
        refine wpAnyH_take (i := 5) (v := ?_) rfl (by kernel_rfl) (by kernel_rfl) (by kernel_rfl) (fun _ _ _ h => h) (Or.inl ⟨by rfl, ?_⟩) hHeld ?_
        rotate_left
        · intro w' hSw
          (try dsimp only at hSw)
          go_simp
          try with_reducible rfl
        try simp only [Act.put, zq1, zq2, zq3, zq4, zq5, zq6]
        refine wpAnyH_take (i := 6) (v := ?_) rfl (by kernel_rfl) (by kernel_rfl) (by kernel_rfl) (fun _ _ _ h => h) (Or.inl ⟨by rfl, ?_⟩) hHeld ?_
        rotate_left
        · intro w' hSw
          (try dsimp only at hSw)
          go_simp
          try with_reducible rfl
        try simp only [Act.put, zq1, zq2, zq3, zq4, zq5, zq6]
        refine wpAnyH_take (i := 7) (v := ?_) rfl (by kernel_rfl) (by kernel_rfl) (by kernel_rfl) (fun _ _ _ h => h) (Or.inl ⟨by rfl, ?_⟩) hHeld ?_
        rotate_left
        · intro w' hSw
          (try dsimp only at hSw)
          go_simp
          try with_reducible rfl
        try simp only [Act.put, zq1, zq2, zq3, zq4, zq5, zq6]
        refine wpAnyH_take (i := 8) (v := ?_) rfl (by kernel_rfl) (by kernel_rfl) (by kernel_rfl) (fun _ _ _ h => h) (Or.inl ⟨by rfl, ?_⟩) hHeld ?_
        rotate_left
        · intro w' hSw
          (try dsimp only at hSw)
          go_simp
          try with_reducible rfl
        try simp only [Act.put, zq1, zq2, zq3, zq4, zq5, zq6]
        refine wpAnyH_done (by kernel_rfl) ?_ _
        refine NoPanic.normal ?_
        go_wp2_with fail
        go_meet
        refine ⟨_, _, rfl, rfl, Lib.hid hrZ, Lib.hid hw58⟩
      · try simp only [zq1, zq2, zq3]
        go_simp
        have hw63 : Below w0.heap.size w0 (w41.alloc (.cells (zrow 16) 5)) := hw42.alloc hw42.size _
        have hr64 : Rd (w41.alloc (.cells (zrow 16) 5)) (w41.alloc (.cells (zrow 16) 5)).heap.size (some ⟨w41.heap.size, 0, none⟩) (vn (List.replicate 16 0)) := zrow_rd 16 w41
        have hr66 := Rd.go hr43 ((Below.refl _ _).alloc (Nat.le_refl _) (.cells (zrow 16) 5))
        refine hK.out _ _ ?_ (fun hHeld => ?_)
        · exact hw63
        clear hK K
        try simp only [Act.put, zq1, zq2, zq3, zq4, zq5, zq6]
        generalize w41.alloc (.cells (zrow 16) 5) = w62 at *
        generalize w41.heap.size = b65 at *
        refine wpAnyH_ready (rs := [0]) (by kernel_rfl) (by simp) ?_
        refine AllReadyH.cons rfl (fun K hK => ?_) (AllReadyH.nil)
        try simp only [zq1, zq2, zq3]
        go_simp
        have hw68 : Below w0.heap.size w0 (w62.alloc (.cells (zrow 16) 5)) := hw63.alloc hw63.size _
        have hr69 : Rd (w62.alloc (.cells (zrow 16) 5)) (w62.alloc (.cells (zrow 16) 5)).heap.size (some ⟨w62.heap.size, 0, none⟩) (vn (List.replicate 16 0)) := zrow_rd 16 w62
        have hr71 := Rd.go hr66 ((Below.refl _ _).alloc (Nat.le_refl _) (.cells (zrow 16) 5))
        have hr72 := Rd.go hr64 ((Below.refl _ _).alloc (Nat.le_refl _) (.cells (zrow 16) 5))
        refine hK.out _ _ ?_ (fun hHeld => ?_)
        · exact hw68
        clear hK K
        try simp only [Act.put, zq1, zq2, zq3, zq4, zq5, zq6]
        generalize w62.alloc (.cells (zrow 16) 5) = w67 at *
        generalize w62.heap.size = b70 at *
        refine wpAnyH_ready (rs := [3]) (by kernel_rfl) (by simp) ?_
        refine AllReadyH.cons rfl (fun K hK => ?_) (AllReadyH.nil)
        try simp only [zq1, zq2, zq3]
        go_simp
        refine (ccrypt_z _ _ _ _ hr69 hr71 hr72).mono ?_
        rintro e w73 ⟨A, c, rfl, hrZ, hb74⟩
        have hw75 : Below w0.heap.size w0 w73 := hw68.trans (hb74.mono hw68.size)
        have hr76 := Rd.go hr71 hb74
        have hr77 := Rd.go hr72 hb74
        have hr78 := Rd.go hr69 hb74
        refine hK.out _ _ ?_ (fun hHeld => ?_)
        · exact hw75
        clear hK K
        try simp only [Act.put, zq1, zq2, zq3, zq4, zq5, zq6]
        clear hb74
        refine wpAnyH_take (i := 4) (v := ?_) rfl (by kernel_rfl) (by kernel_rfl) (by kernel_rfl) (fun _ _ _ h => h) (Or.inl ⟨by rfl, ?_⟩) hHeld ?_
        rotate_left
        · intro w' hSw
          (try dsimp only at hSw)
          go_simp
          try with_reducible rfl
        try simp only [Act.put, zq1, zq2, zq3, zq4, zq5, zq6]
        refine wpAnyH_take (i := 5) (v := ?_) rfl (by kernel_rfl) (by kernel_rfl) (by kernel_rfl) (fun _ _ _ h => h) (Or.inl ⟨by rfl, ?_⟩) hHeld ?_
        rotate_left
        · intro w' hSw
          (try dsimp only at hSw)
          go_simp
          try with_reducible rfl
        try simp only [Act.put, zq1, zq2, zq3, zq4, zq5, zq6]
        refine wpAnyH_take (i := 6) (v := ?_) rfl (by kernel_rfl) (by kernel_rfl) (by kernel_rfl) (fun _ _ _ h => h) (Or.inl ⟨by rfl, ?_⟩) hHeld ?_
        rotate_left
        · intro w' hSw
          (try dsimp only at hSw)
          go_simp
          try with_reducible rfl
        try simp only [Act.put, zq1, zq2, zq3, zq4, zq5, zq6]
        refine wpAnyH_take (i := 7) (v := ?_) rfl (by kernel_rfl) (by kernel_rfl) (by kernel_rfl) (fun _ _ _ h => h) (Or.inl ⟨by rfl, ?_⟩) hHeld ?_
        rotate_left
        · intro w' hSw
          (try dsimp only at hSw)
          go_simp
          try with_reducible rfl
        try simp only [Act.put, zq1, zq2, zq3, zq4, zq5, zq6]
        refine wpAnyH_take (i := 8) (v := ?_) rfl (by kernel_rfl) (by kernel_rfl) (by kernel_rfl) (fun _ _ _ h => h) (Or.inl ⟨by rfl, ?_⟩) hHeld ?_
        rotate_left
        · intro w' hSw
          (try dsimp only at hSw)
          go_simp
          try with_reducible rfl
        try simp only [Act.put, zq1, zq2, zq3, zq4, zq5, zq6]
        refine wpAnyH_done (by kernel_rfl) ?_ _
        refine NoPanic.normal ?_
        go_wp2_with fail
        go_meet
        refine ⟨_, _, rfl, rfl, Lib.hid hrZ, Lib.hid hw75⟩
    · try simp only [zq1, zq2, zq3]
      go_simp
      have hw80 : Below w0.heap.size w0 (ws1.alloc (.cells (zrow 16) 5)) := hs2.alloc hs2.size _
      have hr81 : Rd (ws1.alloc (.cells (zrow 16) 5)) (ws1.alloc (.cells (zrow 16) 5)).heap.size (some ⟨ws1.heap.size, 0, none⟩) (vn (List.replicate 16 0)) := zrow_rd 16 ws1
      refine hK.out _ _ ?_ (fun hHeld => ?_)
      · exact hw80
      clear hK K
      try simp only [Act.put, zq1, zq2, zq3, zq4, zq5, zq6]
      generalize ws1.alloc (.cells (zrow 16) 5) = w79 at *
      generalize ws1.heap.size = b82 at *
      refine wpAnyH_ready (rs := [0, 1]) (by kernel_rfl) (by simp) ?_
      refine AllReadyH.cons rfl (fun K hK => ?_) (AllReadyH.cons rfl (fun K hK => ?_) (AllReadyH.nil))
      · try simp only [zq1, zq2, zq3]
        go_simp
        have hw84 : Below w0.heap.size w0 (w79.alloc (.cells (zrow 16) 5)) := hw80.alloc hw80.size _
        have hr85 : Rd (w79.alloc (.cells (zrow 16) 5)) (w79.alloc (.cells (zrow 16) 5)).heap.size (some ⟨w79.heap.size, 0, none⟩) (vn (List.replicate 16 0)) := zrow_rd 16 w79
        have hr87 := Rd.go hr81 ((Below.refl _ _).alloc (Nat.le_refl _) (.cells (zrow 16) 5))
        refine hK.out _ _ ?_ (fun hHeld => ?_)
        · exact hw84
        clear hK K
        try simp only [Act.put, zq1, zq2, zq3, zq4, zq5, zq6]
        generalize w79.alloc (.cells (zrow 16) 5) = w83 at *
        generalize w79.heap.size = b86 at *
        refine wpAnyH_ready (rs := [1]) (by kernel_rfl) (by simp) ?_
        refine AllReadyH.cons rfl (fun K hK => ?_) (AllReadyH.nil)
        try simp only [zq1, zq2, zq3]
        go_simp
        have hw89 : Below w0.heap.size w0 (w83.alloc (.cells (zrow 12) 5)) := hw84.alloc hw84.size _
        have hr90 : Rd (w83.alloc (.cells (zrow 12) 5)) (w83.alloc (.cells (zrow 12) 5)).heap.size (some ⟨w83.heap.size, 0, none⟩) (vn (List.replicate 12 0)) := zrow_rd 12 w83
        have hr92 := Rd.go hr87 ((Below.refl _ _).alloc (Nat.le_refl _) (.cells (zrow 12) 5))
        have hr93 := Rd.go hr85 ((Below.refl _ _).alloc (Nat.le_refl _) (.cells (zrow 12) 5))
        refine hK.out _ _ ?_ (fun hHeld => ?_)
        · exact hw89
        clear hK K
        try simp only [Act.put, zq1, zq2, zq3, zq4, zq5, zq6]
        generalize w83.alloc (.cells (zrow 12) 5) = w88 at *
        generalize w83.heap.size = b91 at *
        refine wpAnyH_ready (rs := [3]) (by kernel_rfl) (by simp) ?_
        refine AllReadyH.cons rfl (fun K hK => ?_) (AllReadyH.nil)
        try simp only [zq1, zq2, zq3]
        go_simp
        refine (ccrypt_z _ _ _ _ hr93 hr90 hr92).mono ?_
        rintro e w94 ⟨A, c, rfl, hrZ, hb95⟩
        have hw96 : Below w0.heap.size w0 w94 := hw89.trans (hb95.mono hw89.size)
        have hr97 := Rd.go hr92 hb95
        have hr98 := Rd.go hr93 hb95
        have hr99 := Rd.go hr90 hb95
        refine hK.out _ _ ?_ (fun hHeld => ?_)
        · exact hw96
        clear hK K
        try simp only [Act.put, zq1, zq2, zq3, zq4, zq5, zq6]
        clear hb95
        refine wpAnyH_take (i := 4) (v := ?_) rfl (by kernel_rfl) (by kernel_rfl) (by kernel_rfl) (fun _ _ _ h => h) (Or.inl ⟨by rfl, ?_⟩) hHeld ?_
        rotate_left
        · intro w' hSw
          (try dsimp only at hSw)
          go_simp
          try with_reducible rfl
        try simp only [Act.put, zq1, zq2, zq3, zq4, zq5, zq6]
        refine wpAnyH_take (i := 5) (v := ?_) rfl (by kernel_rfl) (by kernel_rfl) (by kernel_rfl) (fun _ _ _ h => h) (Or.inl ⟨by rfl, ?_⟩) hHeld ?_
        rotate_left
        · intro w' hSw
          (try dsimp only at hSw)
          go_simp
          try with_reducible rfl
        try simp only [Act.put, zq1, zq2, zq3, zq4, zq5, zq6]
        refine wpAnyH_take (i := 6) (v := ?_) rfl (by kernel_rfl) (by kernel_rfl) (by kernel_rfl) (fun _ _ _ h => h) (Or.inl ⟨by rfl, ?_⟩) hHeld ?_
        rotate_left
        · intro w' hSw
          (try dsimp only at hSw)
          go_simp
          try with_reducible rfl
        try simp only [Act.put, zq1, zq2, zq3, zq4, zq5, zq6]
        refine wpAnyH_take (i := 7) (v := ?_) rfl (by kernel_rfl) (by kernel_rfl) (by kernel_rfl) (fun _ _ _ h => h) (Or.inl ⟨by rfl, ?_⟩) hHeld ?_
        rotate_left
        · intro w' hSw
          (try dsimp only at hSw)
          go_simp
          try with_reducible rfl
        try simp only [Act.put, zq1, zq2, zq3, zq4, zq5, zq6]
        refine wpAnyH_take (i := 8) (v := ?_) rfl (by kernel_rfl) (by kernel_rfl) (by kernel_rfl) (fun _ _ _ h => h) (Or.inl ⟨by rfl, ?_⟩) hHeld ?_
        rotate_left
        · intro w' hSw
          (try dsimp only at hSw)
          go_simp
          try with_reducible rfl
        try simp only [Act.put, zq1, zq2, zq3, zq4, zq5, zq6]
        refine wpAnyH_done (by kernel_rfl) ?_ _
        refine NoPanic.normal ?_
        go_wp2_with fail
        go_meet
        refine ⟨_, _, rfl, rfl, Lib.hid hrZ, Lib.hid hw96⟩
      · try simp only [zq1, zq2, zq3]
        go_simp
        have hw101 : Below w0.heap.size w0 (w79.alloc (.cells (zrow 12) 5)) := hw80.alloc hw80.size _
        have hr102 : Rd (w79.alloc (.cells (zrow 12) 5)) (w79.alloc (.cells (zrow 12) 5)).heap.size (some ⟨w79.heap.size, 0, none⟩) (vn (List.replicate 12 0)) := zrow_rd 12 w79
        have hr104 := Rd.go hr81 ((Below.refl _ _).alloc (Nat.le_refl _) (.cells (zrow 12) 5))
        refine hK.out _ _ ?_ (fun hHeld => ?_)
        · exact hw101
        clear hK K
        try simp only [Act.put, zq1, zq2, zq3, zq4, zq5, zq6]
        generalize w79.alloc (.cells (zrow 12) 5) = w100 at *
        generalize w79.heap.size = b103 at *
        refine wpAnyH_ready (rs := [0]) (by kernel_rfl) (by simp) ?_
        refine AllReadyH.cons rfl (fun K hK => ?_) (AllReadyH.nil)
        try simp only [zq1, zq2, zq3]
        go_simp
        have hw106 : Below w0.heap.size w0 (w100.alloc (.cells (zrow 16) 5)) := hw101.alloc hw101.size _
        have hr107 : Rd (w100.alloc (.cells (zrow 16) 5)) (w100.alloc (.cells (zrow 16) 5)).heap.size (some ⟨w100.heap.size, 0, none⟩) (vn (List.replicate 16 0)) := zrow_rd 16 w100
        have hr109 := Rd.go hr104 ((Below.refl _ _).alloc (Nat.le_refl _) (.cells (zrow 16) 5))
        have hr110 := Rd.go hr102 ((Below.refl _ _).alloc (Nat.le_refl _) (.cells (zrow 16) 5))
        refine hK.out _ _ ?_ (fun hHeld => ?_)
        · exact hw106
        clear hK K
        try simp only [Act.put, zq1, zq2, zq3, zq4, zq5, zq6]
        generalize w100.alloc (.cells (zrow 16) 5) = w105 at *
        generalize w100.heap.size = b108 at *
        refine wpAnyH_ready (rs := [3]) (by kernel_rfl) (by simp) ?_
        refine AllReadyH.cons rfl (fun K hK => ?_) (AllReadyH.nil)
        try simp only [zq1, zq2, zq3]
        go_simp
        refine (ccrypt_z _ _ _ _ hr107 hr110 hr109).mono ?_
        rintro e w111 ⟨A, c, rfl, hrZ, hb112⟩
        have hw113 : Below w0.heap.size w0 w111 := hw106.trans (hb112.mono hw106.size)
        have hr114 := Rd.go hr109 hb112
        have hr115 := Rd.go hr110 hb112
        have hr116 := Rd.go hr107 hb112
        refine hK.out _ _ ?_ (fun hHeld => ?_)
        · exact hw113
        clear hK K
        try simp only [Act.put, zq1, zq2, zq3, zq4, zq5, zq6]
        clear hb112
        refine wpAnyH_take (i := 4) (v := ?_) rfl (by kernel_rfl) (by kernel_rfl) (by kernel_rfl) (fun _ _ _ h => h) (Or.inl ⟨by rfl, ?_⟩) hHeld ?_
        rotate_left
        · intro w' hSw
          (try dsimp only at hSw)
          go_simp
          try with_reducible rfl
        try simp only [Act.put, zq1, zq2, zq3, zq4, zq5, zq6]
        refine wpAnyH_take (i := 5) (v := ?_) rfl (by kernel_rfl) (by kernel_rfl) (by kernel_rfl) (fun _ _ _ h => h) (Or.inl ⟨by rfl, ?_⟩) hHeld ?_
        rotate_left
        · intro w' hSw
          (try dsimp only at hSw)
          go_simp
          try with_reducible rfl
        try simp only [Act.put, zq1, zq2, zq3, zq4, zq5, zq6]
        refine wpAnyH_take (i := 6) (v := ?_) rfl (by kernel_rfl) (by kernel_rfl) (by kernel_rfl) (fun _ _ _ h => h) (Or.inl ⟨by rfl, ?_⟩) hHeld ?_
        rotate_left
        · intro w' hSw
          (try dsimp only at hSw)
          go_simp
          try with_reducible rfl
        try simp only [Act.put, zq1, zq2, zq3, zq4, zq5, zq6]
        refine wpAnyH_take (i := 7) (v := ?_) rfl (by kernel_rfl) (by kernel_rfl) (by kernel_rfl) (fun _ _ _ h => h) (Or.inl ⟨by rfl, ?_⟩) hHeld ?_
        rotate_left
        · intro w' hSw
          (try dsimp only at hSw)
          go_simp
          try with_reducible rfl
        try simp only [Act.put, zq1, zq2, zq3, zq4, zq5, zq6]
        refine wpAnyH_take (i := 8) (v := ?_) rfl (by kernel_rfl) (by kernel_rfl) (by kernel_rfl) (fun _ _ _ h => h) (Or.inl ⟨by rfl, ?_⟩) hHeld ?_
        rotate_left
        · intro w' hSw
          (try dsimp only at hSw)
          go_simp
          try with_reducible rfl
        try simp only [Act.put, zq1, zq2, zq3, zq4, zq5, zq6]
        refine wpAnyH_done (by kernel_rfl) ?_ _
        refine NoPanic.normal ?_
        go_wp2_with fail
        go_meet
        refine ⟨_, _, rfl, rfl, Lib.hid hrZ, Lib.hid hw113⟩
  case rest =>
    obtain ⟨A, c, rfl, rfl, HR, HW⟩ := hcut
    have ra := run_str (P := Try.prog) 22 9 5 Try.underlying22 Try.underlying5 Try.underlying9 (n := 16) rfl c HR.out
    go_wp2_with fail
    go_ret
    exact ⟨rfl, HW.out⟩
end Go.Proofs.Ytfgigoheaoanpaa
