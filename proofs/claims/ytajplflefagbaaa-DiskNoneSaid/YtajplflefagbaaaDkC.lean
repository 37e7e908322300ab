/-
  The document's device (layer 8): its steps.
-/
import Derived.Test.YtajplflefagbaaaDkB
import Derived.Deep.DeepCutAuto
import Derived.Deep.RegionHeld3
namespace Go.Proofs.Ytajplflefagbaaa
open Go Go.RowKit
set_option linter.unusedVariables false
set_option linter.unusedSimpArgs false

theorem dev_eta (D : Dev) (h : D.down = true) : ({ D with down := true } : Dev) = D := by cases D; simp at h; simp [h]
set_option maxRecDepth 100000 in
set_option maxHeartbeats 4000000 in
theorem rdstep_any (w : World) (p n : Nat) (L : Nat → Prop) (D : Dev) (h : RD w p L n D) :
    Calls Try.prog 34 #[.pointer (some ⟨p, 0, none⟩)] w fun e w' => e = .returned (.int .i64 (D.stepE : Int)) ∧ RD w' p L n D.step ∧ Keep L w w' := by
  obtain ⟨S, h⟩ := h
  have hL := h.lp.1
  have hcs := h.ok.cs
  have hfs := h.ok.fs
  have hss := h.ok.ss
  by_cases h0 : D.cut = 0
  · have eE : D.stepE = 81 := by unfold Dev.stepE; rw [if_pos (.inl h0)]
    have eS : D.step = { D with down := true } := by unfold Dev.step; rw [if_pos (.inl h0)]
    rw [eE, eS]
    have d5 := h.c5
    rw [h0] at d5
    have f6 := h.free 6
    have d6 := h.c6
    have HR := Lib.hid h; clear h
    clear eE eS h0 hcs hfs hss
    go_enter Try.func34, Try.ntmps34
    go_upto_region 3 with fail
    have h2 := HR.out.setDown true
    have k2 : Keep L w (w.setCell ⟨p, 6, none⟩ (.bool true)) := (Keep.refl L w).setCell (fun _ => hL) _
    have d6' := h2.c6
    clear d6 d5 f6
    generalize w.setCell ⟨p, 6, none⟩ (.bool true) = w2 at *
    have HR2 := Lib.hid h2; clear h2
    go_wp2_with fail
    go_ret
    exact ⟨rfl, ⟨S, HR2.out⟩, k2⟩
  · by_cases hd : D.down = true
    · have eE : D.stepE = 81 := by unfold Dev.stepE; rw [if_pos (.inr hd)]
      have eS : D.step = D := by unfold Dev.step; rw [if_pos (.inr hd), dev_eta D hd]
      rw [eE, eS]
      have d5 := h.c5
      have d6 := h.c6
      rw [hd] at d6
      have HR := Lib.hid h; clear h
      clear eE eS hd hcs hfs hss
      go_enter Try.func34, Try.ntmps34
      go_wp2_with fail
      go_ret
      exact ⟨rfl, ⟨S, HR.out⟩, Keep.refl _ _⟩
    · have hd : D.down = false := by simpa using hd
      have hno : ¬ (D.cut = 0 ∨ D.down = true) := fun h => h.elim h0 (fun h => by rw [hd] at h; cases h)
      have eE : D.stepE = if D.fail = 1 then 80 else 0 := by unfold Dev.stepE; rw [if_neg hno]
      have eS : D.step = { D with cut := if 0 < D.cut then D.cut - 1 else D.cut, steps := (D.steps + 1) % 18446744073709551616, fail := D.fail - 1 } := by unfold Dev.step; rw [if_neg hno]
      obtain ⟨E, hE⟩ : ∃ E, E = D.stepE := ⟨_, rfl⟩
      obtain ⟨T, hT⟩ : ∃ T, T = D.step := ⟨_, rfl⟩
      rw [← hE, ← hT]
      rw [eE] at hE
      rw [eS] at hT
      have HE := Lib.hid hE; clear hE
      have HT := Lib.hid hT; clear hT
      have d5 := h.c5
      have d6 := h.c6
      rw [hd] at d6
      have f5 := h.free 5
      have HR := Lib.hid h; clear h
      clear eE eS hd hno
      obtain ⟨c, hc⟩ : ∃ c, c = D.cut := ⟨_, rfl⟩
      obtain ⟨c2, hc2⟩ : ∃ c2, c2 = if 0 < D.cut then D.cut - 1 else D.cut := ⟨_, rfl⟩
      rw [← hc] at d5 hcs h0
      rw [← hc] at hc2
      have hwc : 0 < c → IntKind.i64.wrap (c - 1) = c2 := fun h => by rw [IntWalk.i64_in _ (by omega), hc2, if_pos h]
      have hwu : IntKind.u64.wrap ((D.steps : Int) + 1) = (((D.steps + 1) % 18446744073709551616 : Nat) : Int) := by rw [IntKind.wrap_u64]; omega
      have hst : (D.steps + 1) % 18446744073709551616 < 18446744073709551616 := Nat.mod_lt _ (by decide)
      obtain ⟨s, hs⟩ : ∃ s, s = D.steps := ⟨_, rfl⟩
      obtain ⟨s2, hs2⟩ : ∃ s2, s2 = (D.steps + 1) % 18446744073709551616 := ⟨_, rfl⟩
      rw [← hs2] at hwu hst
      rw [← hs] at hwu
      obtain ⟨f, hf⟩ : ∃ f, f = D.fail := ⟨_, rfl⟩
      rw [← hf] at hfs
      have hc2b : -1 ≤ c2 ∧ c2 ≤ 9223372036854775807 := by rw [hc2]; split <;> omega
      have HC := Lib.hid (And.intro hc hc2); clear hc hc2
      have HS := Lib.hid (And.intro hs hs2); clear hs hs2 hss
      have HF := Lib.hid hf; clear hf
      go_enter Try.func34, Try.ntmps34
      by_cases hcp : 0 < c
      · have hw := hwc hcp
        clear hwc
        go_upto_region 7 with fail
        have h2 := HR.out.setCut c2 hc2b
        have k2 : Keep L w (w.setCell ⟨p, 5, none⟩ (.int .i64 c2)) := (Keep.refl L w).setCell (fun _ => hL) _
        clear d5 d6 f5 HR
        generalize w.setCell ⟨p, 5, none⟩ (.int .i64 c2) = w2 at *
        have HR2 := Lib.hid h2; clear h2
        have d3 := HR2.out.c3
        have f3 := HR2.out.free 3
        rw [← HS.out.1] at d3
        go_upto_region 8 with fail
        have h3 := HR2.out.setSteps s2 hst
        have k3 : Keep L w (w2.setCell ⟨p, 3, none⟩ (.int .u64 (s2 : Int))) := k2.setCell (fun _ => hL) _
        clear d3 f3 k2 HR2
        generalize w2.setCell ⟨p, 3, none⟩ (.int .u64 (s2 : Int)) = w3 at *
        have HR3 := Lib.hid h3; clear h3
        have d4 := HR3.out.c4
        rw [← HF.out] at d4
        have f4 := HR3.out.free 4
        by_cases hf0 : f = 0
        · have d4z : w3.cell? ⟨p, 4, none⟩ = some (.int .i64 0) := by rw [d4, hf0]; rfl
          clear f4 d4
          go_wp2_with fail
          go_ret
          have e1 : E = 0 := by rw [HE.out, ← HF.out, hf0]; rfl
          have e2 : T = { D with cut := c2, steps := s2 } := by
            have e3 : D.fail - 1 = D.fail := by rw [← HF.out, hf0]
            rw [HT.out, HC.out.2, HC.out.1, HS.out.2, e3]
          rw [e1, e2]
          exact ⟨rfl, ⟨S, HR3.out⟩, k3⟩
        · have hfi : ¬ (f : Int) = 0 := by omega
          obtain ⟨f2, hf2⟩ : ∃ f2, f2 = f - 1 := ⟨_, rfl⟩
          have hwf : IntKind.i64.wrap ((f : Int) - 1) = (f2 : Int) := by rw [IntWalk.i64_in _ (by omega)]; omega
          have hwf2 : (f : Int) - 1 = (f2 : Int) := by omega
          have hf2b : f2 ≤ 9223372036854775807 := by omega
          have HF2 := Lib.hid hf2; clear hf2
          go_upto_region 11 with fail
          have h4 := HR3.out.setFail f2 hf2b
          have k4 : Keep L w (w3.setCell ⟨p, 4, none⟩ (.int .i64 (f2 : Int))) := k3.setCell (fun _ => hL) _
          clear d4 f4 k3 HR3
          generalize w3.setCell ⟨p, 4, none⟩ (.int .i64 (f2 : Int)) = w4 at *
          have HR4 := Lib.hid h4; clear h4
          have d4 := HR4.out.c4
          by_cases hf1 : f = 1
          · have h20 : f2 = 0 := by have := HF2.out; omega
            have d4z : w4.cell? ⟨p, 4, none⟩ = some (.int .i64 0) := by rw [d4, h20]; rfl
            clear d4
            go_wp2_with fail
            go_ret
            have e1 : E = 80 := by rw [HE.out, ← HF.out, if_pos hf1]
            have e2 : T = { D with cut := c2, steps := s2, fail := f2 } := by rw [HT.out, HC.out.2, HC.out.1, HS.out.2, HF2.out, HF.out]
            rw [e1, e2]
            exact ⟨rfl, ⟨S, HR4.out⟩, k4⟩
          · have h20 : ¬ (f2 : Int) = 0 := by have := HF2.out; omega
            go_wp2_with fail
            go_ret
            have e1 : E = 0 := by rw [HE.out, ← HF.out, if_neg hf1]
            have e2 : T = { D with cut := c2, steps := s2, fail := f2 } := by rw [HT.out, HC.out.2, HC.out.1, HS.out.2, HF2.out, HF.out]
            rw [e1, e2]
            exact ⟨rfl, ⟨S, HR4.out⟩, k4⟩
      · have hw2 : c2 = c := by rw [HC.out.2, if_neg hcp]
        clear hwc
        go_upto_region 7 with fail
        have h2 : RDs S w p L n { D with cut := c2 } := by
          have : ({ D with cut := c2 } : Dev) = D := by rw [hw2, HC.out.1]
          rw [this]; exact HR.out
        have k2 : Keep L w w := Keep.refl L w
        clear d5 d6 f5 HR
        obtain ⟨w2, hw2'⟩ : ∃ w2, w2 = w := ⟨_, rfl⟩
        rw [← hw2'] at h2
        have k2 : Keep L w w2 := by rw [hw2']; exact Keep.refl L w
        conv => rw [← hw2']
        have HW := Lib.hid hw2'; clear hw2'
        have HR2 := Lib.hid h2; clear h2
        have d3 := HR2.out.c3
        have f3 := HR2.out.free 3
        rw [← HS.out.1] at d3
        go_upto_region 8 with fail
        have h3 := HR2.out.setSteps s2 hst
        have k3 : Keep L w (w2.setCell ⟨p, 3, none⟩ (.int .u64 (s2 : Int))) := k2.setCell (fun _ => hL) _
        clear d3 f3 k2 HR2
        generalize w2.setCell ⟨p, 3, none⟩ (.int .u64 (s2 : Int)) = w3 at *
        have HR3 := Lib.hid h3; clear h3
        have d4 := HR3.out.c4
        rw [← HF.out] at d4
        have f4 := HR3.out.free 4
        by_cases hf0 : f = 0
        · have d4z : w3.cell? ⟨p, 4, none⟩ = some (.int .i64 0) := by rw [d4, hf0]; rfl
          clear f4 d4
          go_wp2_with fail
          go_ret
          have e1 : E = 0 := by rw [HE.out, ← HF.out, hf0]; rfl
          have e2 : T = { D with cut := c2, steps := s2 } := by
            have e3 : D.fail - 1 = D.fail := by rw [← HF.out, hf0]
            rw [HT.out, HC.out.2, HC.out.1, HS.out.2, e3]
          rw [e1, e2]
          exact ⟨rfl, ⟨S, HR3.out⟩, k3⟩
        · have hfi : ¬ (f : Int) = 0 := by omega
          obtain ⟨f2, hf2⟩ : ∃ f2, f2 = f - 1 := ⟨_, rfl⟩
          have hwf : IntKind.i64.wrap ((f : Int) - 1) = (f2 : Int) := by rw [IntWalk.i64_in _ (by omega)]; omega
          have hwf2 : (f : Int) - 1 = (f2 : Int) := by omega
          have hf2b : f2 ≤ 9223372036854775807 := by omega
          have HF2 := Lib.hid hf2; clear hf2
          go_upto_region 11 with fail
          have h4 := HR3.out.setFail f2 hf2b
          have k4 : Keep L w (w3.setCell ⟨p, 4, none⟩ (.int .i64 (f2 : Int))) := k3.setCell (fun _ => hL) _
          clear d4 f4 k3 HR3
          generalize w3.setCell ⟨p, 4, none⟩ (.int .i64 (f2 : Int)) = w4 at *
          have HR4 := Lib.hid h4; clear h4
          have d4 := HR4.out.c4
          by_cases hf1 : f = 1
          · have h20 : f2 = 0 := by have := HF2.out; omega
            have d4z : w4.cell? ⟨p, 4, none⟩ = some (.int .i64 0) := by rw [d4, h20]; rfl
            clear d4
            go_wp2_with fail
            go_ret
            have e1 : E = 80 := by rw [HE.out, ← HF.out, if_pos hf1]
            have e2 : T = { D with cut := c2, steps := s2, fail := f2 } := by rw [HT.out, HC.out.2, HC.out.1, HS.out.2, HF2.out, HF.out]
            rw [e1, e2]
            exact ⟨rfl, ⟨S, HR4.out⟩, k4⟩
          · have h20 : ¬ (f2 : Int) = 0 := by have := HF2.out; omega
            go_wp2_with fail
            go_ret
            have e1 : E = 0 := by rw [HE.out, ← HF.out, if_neg hf1]
            have e2 : T = { D with cut := c2, steps := s2, fail := f2 } := by rw [HT.out, HC.out.2, HC.out.1, HS.out.2, HF2.out, HF.out]
            rw [e1, e2]
            exact ⟨rfl, ⟨S, HR4.out⟩, k4⟩
end Go.Proofs.Ytajplflefagbaaa
