/-
  The landed code's device (layer 8): a step; Fail and Cut. (Printed by wip/gen/dcstep.py.)
-/
import Derived.Test.YtpepbffhhfgdpaaFoldA
import Derived.Deep.DeepCutAuto
import Derived.Deep.RegionHeld3
namespace Go.Proofs.Ytpepbffhhfgdpaa
open Go Go.RowKit
set_option linter.unusedVariables false
set_option linter.unusedSimpArgs false

theorem Turn.drewN {g : Nat} {a b : World} (h : Turn g a b) (n : Nat) : Turn g a (b.drewN n) := ⟨h.os, h.tape, h.output, h.size, h.block⟩
theorem dev_etaD (D : Dev) (h : D.down = true) : ({ D with down := true } : Dev) = D := by cases D; simp at h; simp [h]
section
variable {S : Cs} {w w' : World} {d n : Nat} {L : Nat → Prop} {D : Dev}
theorem CDs.cutOut (h : CDs S w d L n D) : D.cut = 0 ↔ S.cu = true ∧ S.la ≤ D.steps := by
  rw [h.rc.1]
  by_cases hc : S.cu = true
  · rw [if_pos hc]
    exact ⟨fun e => ⟨hc, by omega⟩, fun e => by omega⟩
  · rw [if_neg hc]
    exact ⟨fun e => by omega, fun e => absurd e.1 hc⟩
theorem CDs.failNow (h : CDs S w d L n D) : D.fail = 1 ↔ S.fl = D.steps + 1 := by rw [h.rf.1]; omega
theorem CDs.setDown (h : CDs S w d L n D) (x : Bool) : CDs S (w.setCell ⟨d, 7, none⟩ (.bool x)) d L n { D with down := x } :=
  h.setp rfl rfl rfl ⟨rfl, rfl, rfl, rfl, rfl⟩ h.ss ⟨h.rf.1, h.rf.2, h.ok.fs⟩ ⟨h.rc.1, h.rc.2, h.ok.cs.2⟩ (heap_setCell_same _ _ _ _ _ _ h.hp) (turn_setCell _ _ _ _)
theorem CDs.setSteps (h : CDs S w d L n D) (x : Nat) (hx : x = D.steps + 1) (hl : x ≤ 1000001) : CDs S (w.setCell ⟨d, 3, none⟩ (.int .u64 (x : Int))) d L n { D with cut := if 0 < D.cut then D.cut - 1 else D.cut, steps := x, fail := D.fail - 1 } := by
  have h1 := h.rf
  have h2 := h.rc
  have h3 := h.ok.fs
  have h4 := h.ok.cs
  refine h.setp rfl rfl rfl ⟨rfl, rfl, rfl, rfl, rfl⟩ (by show x < _; omega) ⟨by show D.fail - 1 = S.fl - x; omega, h1.2, by show D.fail - 1 ≤ _; omega⟩ ⟨?_, h2.2, ?_⟩ (heap_setCell_same _ _ _ _ _ _ h.hp) (turn_setCell _ _ _ _)
  · show (if 0 < D.cut then D.cut - 1 else D.cut) = if S.cu = true then ((S.la - x : Nat) : Int) else -1
    by_cases hc : S.cu = true
    · rw [if_pos hc]
      rw [if_pos hc] at h2
      split <;> omega
    · rw [if_neg hc]
      rw [if_neg hc] at h2
      split <;> omega
  · show (if 0 < D.cut then D.cut - 1 else D.cut) ≤ _
    split <;> omega
end
set_option maxRecDepth 100000 in
set_option maxHeartbeats 8000000 in
theorem cdstep0 (S : Cs) (w : World) (d n : Nat) (L : Nat → Prop) (D : Dev) (h : CDs S w d L n D) (hm : D.load ≤ 1000000) :
    Calls Try.prog 48 #[.pointer (some ⟨d, 0, none⟩)] w fun e w' => e = .returned (.int .i64 (D.stepE : Int)) ∧ CDs S w' d L n D.step ∧ Turn d w w' := by
  have hst := load_steps D
  have hco := h.cutOut
  have hfn := h.failNow
  have hss := h.ss
  have hla := h.rc.2
  have hfl := h.rf.2
  have d3 := h.c3
  have d5 := h.c5
  have d6 := h.c6
  have d7 := h.c7
  have f3 := h.free 3
  have f7 := h.free 7
  by_cases hc : S.cu = true
  · rw [hc] at d5
    by_cases hle : S.la ≤ D.steps
    · have h0 : D.cut = 0 := hco.2 ⟨hc, hle⟩
      have eE : D.stepE = 81 := by unfold Dev.stepE; rw [if_pos (.inl h0)]
      have eS : D.step = { D with down := true } := by unfold Dev.step; rw [if_pos (.inl h0)]
      rw [eE, eS]
      have H := Lib.hid h; clear h
      obtain ⟨st, hs0⟩ : ∃ st, st = D.steps := ⟨_, rfl⟩
      obtain ⟨la, hl0⟩ : ∃ la, la = S.la := ⟨_, rfl⟩
      rw [← hs0] at d3 hle
      rw [← hl0] at d6 hle
      clear eE eS h0 hco hfn hc hm hst hfl hss hla hs0 hl0
      have hli : (la : Int) ≤ (st : Int) := by omega
      go_enter Try.func48, Try.ntmps48
      go_upto_region 1 with fail
      go_quiet (fail)
      clear d5 d6 hli hle
      go_upto_region 3 with fail
      have HB := Lib.hid ((H.out.call (bdrewN (Below.refl _ _) nq)).setDown true)
      have HT : Hid (Turn d w ((w.drewN nq).setCell ⟨d, 7, none⟩ (.bool true))) := Lib.hid (show Turn d w _ from ⟨rfl, rfl, rfl, by rw [World.size_setCell]; rfl, fun k hk => (heap_setCell_other _ _ _ _ hk).trans rfl⟩)
      go_wp2_with fail
      go_ret
      exact ⟨rfl, HB.out, HT.out⟩
    · have h0 : ¬ D.cut = 0 := fun e => (fun h => hle h.2) (hco.1 e)
      clear f7
      by_cases hd : D.down = true
      · have eE : D.stepE = 81 := by unfold Dev.stepE; rw [if_pos (.inr hd)]
        have eS : D.step = D := by unfold Dev.step; rw [if_pos (.inr hd), dev_etaD D hd]
        rw [eE, eS]
        rw [hd] at d7
        have H := Lib.hid h; clear h
        obtain ⟨st, hs0⟩ : ∃ st, st = D.steps := ⟨_, rfl⟩
        obtain ⟨la, hl0⟩ : ∃ la, la = S.la := ⟨_, rfl⟩
        rw [← hs0] at d3 hle
        rw [← hl0] at d6 hle
        have hli : ¬ (la : Int) ≤ (st : Int) := by omega
        clear eE eS h0 hco hfn hc hm hst hfl hd f3 hss hla hs0 hl0
        go_enter Try.func48, Try.ntmps48
        go_upto_region 1 with fail
        go_quiet (fail)
        clear d5 d3 d6
        have HB := Lib.hid (H.out.call (bdrewN (Below.refl _ _) nq))
        go_wp2_with fail
        go_ret
        exact ⟨rfl, HB.out, (Turn.refl d w).drewN nq⟩
      · have hd : D.down = false := by simpa using hd
        have hno : ¬ (D.cut = 0 ∨ D.down = true) := fun h => h.elim h0 (fun h => by rw [hd] at h; cases h)
        have eE : D.stepE = if D.fail = 1 then 80 else 0 := by unfold Dev.stepE; rw [if_neg hno]
        have eS : D.step = { D with cut := if 0 < D.cut then D.cut - 1 else D.cut, steps := D.steps + 1, fail := D.fail - 1 } := by
          unfold Dev.step; rw [if_neg hno, Nat.mod_eq_of_lt (by omega)]
        rw [eE, eS]
        rw [hd] at d7
        obtain ⟨s2, hs2⟩ : ∃ s2, s2 = D.steps + 1 := ⟨_, rfl⟩
        have HNX := Lib.hid (fun (W : World) (hW : CDs S W d L n D) => hW.setSteps s2 hs2 (by omega))
        rw [← hs2] at hfn ⊢
        have H := Lib.hid h; clear h
        have hw2 : IntKind.u64.wrap (s2 : Int) = (s2 : Int) := IntWalk.u64_in _ (by omega)
        have hw3 : (D.steps : Int) + 1 = (s2 : Int) := by omega
        have HFN := Lib.hid hfn; clear hfn
        obtain ⟨T, hT⟩ : ∃ T, T = ({ D with cut := if 0 < D.cut then D.cut - 1 else D.cut, steps := s2, fail := D.fail - 1 } : Dev) := ⟨_, rfl⟩
        rw [← hT] at HNX ⊢
        obtain ⟨E, hE⟩ : ∃ E, E = if D.fail = 1 then 80 else 0 := ⟨_, rfl⟩
        rw [← hE]
        have HE := Lib.hid hE; clear hE
        obtain ⟨st, hs0⟩ : ∃ st, st = D.steps := ⟨_, rfl⟩
        obtain ⟨la, hl0⟩ : ∃ la, la = S.la := ⟨_, rfl⟩
        rw [← hs0] at d3 hw3 hle
        rw [← hl0] at d6 hle
        have hli : ¬ (la : Int) ≤ (st : Int) := by omega
        have hT2 : T.steps = s2 := by rw [hT]
        have HT2 := Lib.hid hT2; clear hT2
        clear eE eS h0 hco hc hm hst hd hno hss hla hfl hs0 hl0 hT hs2
        go_enter Try.func48, Try.ntmps48
        go_upto_region 1 with fail
        go_quiet (fail)
        clear d5 d6
        have HB := Lib.hid (HNX.out _ (H.out.call (bdrewN (Below.refl _ _) nq)))
        have HT : Hid (Turn d w ((w.drewN nq).setCell ⟨d, 3, none⟩ (.int .u64 (s2 : Int)))) := Lib.hid (show Turn d w _ from ⟨rfl, rfl, rfl, by rw [World.size_setCell]; rfl, fun k hk => (heap_setCell_other _ _ _ _ hk).trans rfl⟩)
        clear HNX H
        go_upto_region 6 with fail
        clear d3 d7 f3 hw2 hw3
        generalize (w.drewN nq).setCell ⟨d, 3, none⟩ (.int .u64 (s2 : Int)) = w2 at *
        have d3 := HB.out.c3
        have d4 := HB.out.c4
        rw [HT2.out] at d3
        obtain ⟨fl, hfl⟩ : ∃ fl, fl = S.fl := ⟨_, rfl⟩
        rw [← hfl] at d4 HFN
        clear hfl
        by_cases hf : fl = s2
        · have hE : E = 80 := by rw [HE.out, if_pos (HFN.out.2 hf)]
          subst hf
          have HE2 := Lib.hid hE
          clear hE HFN HE
          go_quiet (fail)
          go_wp2_with fail
          go_ret
          exact ⟨by rw [HE2.out]; rfl, HB.out.call (bdrewN (Below.refl _ _) _), HT.out.drewN _⟩
        · have hE : E = 0 := by rw [HE.out, if_neg (fun e => hf (HFN.out.1 e))]
          have hfi : ¬ (s2 : Int) = (fl : Int) := by omega
          have HE2 := Lib.hid hE
          clear hE HFN HE hf
          go_quiet (fail)
          go_wp2_with fail
          go_ret
          exact ⟨by rw [HE2.out]; rfl, HB.out.call (bdrewN (Below.refl _ _) _), HT.out.drewN _⟩
  · have hc : S.cu = false := by simpa using hc
    rw [hc] at d5
    have h0 : ¬ D.cut = 0 := fun e => (fun h => by rw [hc] at h; cases h.1) (hco.1 e)
    clear f7
    by_cases hd : D.down = true
    · have eE : D.stepE = 81 := by unfold Dev.stepE; rw [if_pos (.inr hd)]
      have eS : D.step = D := by unfold Dev.step; rw [if_pos (.inr hd), dev_etaD D hd]
      rw [eE, eS]
      rw [hd] at d7
      have H := Lib.hid h; clear h
      obtain ⟨st, hs0⟩ : ∃ st, st = D.steps := ⟨_, rfl⟩
      obtain ⟨la, hl0⟩ : ∃ la, la = S.la := ⟨_, rfl⟩
      rw [← hs0] at d3
      rw [← hl0] at d6
      clear eE eS h0 hco hfn hc hm hst hfl hd f3 hss hla hs0 hl0
      go_enter Try.func48, Try.ntmps48
      go_upto_region 1 with fail
      go_quiet (fail)
      clear d5 d3 d6
      have HB := Lib.hid (H.out.call (bdrewN (Below.refl _ _) nq))
      go_wp2_with fail
      go_ret
      exact ⟨rfl, HB.out, (Turn.refl d w).drewN nq⟩
    · have hd : D.down = false := by simpa using hd
      have hno : ¬ (D.cut = 0 ∨ D.down = true) := fun h => h.elim h0 (fun h => by rw [hd] at h; cases h)
      have eE : D.stepE = if D.fail = 1 then 80 else 0 := by unfold Dev.stepE; rw [if_neg hno]
      have eS : D.step = { D with cut := if 0 < D.cut then D.cut - 1 else D.cut, steps := D.steps + 1, fail := D.fail - 1 } := by
        unfold Dev.step; rw [if_neg hno, Nat.mod_eq_of_lt (by omega)]
      rw [eE, eS]
      rw [hd] at d7
      obtain ⟨s2, hs2⟩ : ∃ s2, s2 = D.steps + 1 := ⟨_, rfl⟩
      have HNX := Lib.hid (fun (W : World) (hW : CDs S W d L n D) => hW.setSteps s2 hs2 (by omega))
      rw [← hs2] at hfn ⊢
      have H := Lib.hid h; clear h
      have hw2 : IntKind.u64.wrap (s2 : Int) = (s2 : Int) := IntWalk.u64_in _ (by omega)
      have hw3 : (D.steps : Int) + 1 = (s2 : Int) := by omega
      have HFN := Lib.hid hfn; clear hfn
      obtain ⟨T, hT⟩ : ∃ T, T = ({ D with cut := if 0 < D.cut then D.cut - 1 else D.cut, steps := s2, fail := D.fail - 1 } : Dev) := ⟨_, rfl⟩
      rw [← hT] at HNX ⊢
      obtain ⟨E, hE⟩ : ∃ E, E = if D.fail = 1 then 80 else 0 := ⟨_, rfl⟩
      rw [← hE]
      have HE := Lib.hid hE; clear hE
      obtain ⟨st, hs0⟩ : ∃ st, st = D.steps := ⟨_, rfl⟩
      obtain ⟨la, hl0⟩ : ∃ la, la = S.la := ⟨_, rfl⟩
      rw [← hs0] at d3 hw3
      rw [← hl0] at d6
      have hT2 : T.steps = s2 := by rw [hT]
      have HT2 := Lib.hid hT2; clear hT2
      clear eE eS h0 hco hc hm hst hd hno hss hla hfl hs0 hl0 hT hs2
      go_enter Try.func48, Try.ntmps48
      go_upto_region 1 with fail
      go_quiet (fail)
      clear d5 d6
      have HB := Lib.hid (HNX.out _ (H.out.call (bdrewN (Below.refl _ _) nq)))
      have HT : Hid (Turn d w ((w.drewN nq).setCell ⟨d, 3, none⟩ (.int .u64 (s2 : Int)))) := Lib.hid (show Turn d w _ from ⟨rfl, rfl, rfl, by rw [World.size_setCell]; rfl, fun k hk => (heap_setCell_other _ _ _ _ hk).trans rfl⟩)
      clear HNX H
      go_upto_region 6 with fail
      clear d3 d7 f3 hw2 hw3
      generalize (w.drewN nq).setCell ⟨d, 3, none⟩ (.int .u64 (s2 : Int)) = w2 at *
      have d3 := HB.out.c3
      have d4 := HB.out.c4
      rw [HT2.out] at d3
      obtain ⟨fl, hfl⟩ : ∃ fl, fl = S.fl := ⟨_, rfl⟩
      rw [← hfl] at d4 HFN
      clear hfl
      by_cases hf : fl = s2
      · have hE : E = 80 := by rw [HE.out, if_pos (HFN.out.2 hf)]
        subst hf
        have HE2 := Lib.hid hE
        clear hE HFN HE
        go_quiet (fail)
        go_wp2_with fail
        go_ret
        exact ⟨by rw [HE2.out]; rfl, HB.out.call (bdrewN (Below.refl _ _) _), HT.out.drewN _⟩
      · have hE : E = 0 := by rw [HE.out, if_neg (fun e => hf (HFN.out.1 e))]
        have hfi : ¬ (s2 : Int) = (fl : Int) := by omega
        have HE2 := Lib.hid hE
        clear hE HFN HE hf
        go_quiet (fail)
        go_wp2_with fail
        go_ret
        exact ⟨by rw [HE2.out]; rfl, HB.out.call (bdrewN (Below.refl _ _) _), HT.out.drewN _⟩
theorem cdstep_any (w : World) (d n : Nat) (L : Nat → Prop) (D : Dev) (h : CD w d L n D) (hm : D.load ≤ 1000000) : Calls Try.prog 31 #[.pointer (some ⟨d, 0, none⟩)] w fun e w' => e = .returned (.int .i64 (D.stepE : Int)) ∧ CD w' d (ext L w w') n D.step ∧ Keep L w w' := by
  obtain ⟨S, h⟩ := h
  have hs := cdstep0 S w d n L D h hm
  have hlt := h.lt
  have hd := h.ld.1
  clear h
  generalize D.stepE = E at *
  go_enter Try.func31, Try.ntmps31
  go_wp2_with fail
  refine hs.mono ?_
  rintro e w1 ⟨rfl, h1, ht⟩
  go_wp2_with fail
  go_ret
  exact ⟨rfl, h1.ext hlt (Nat.le_of_eq ht.size.symm), ht.keepL hd⟩
section
variable {S : Cs} {w w' : World} {d n : Nat} {L : Nat → Prop} {D : Dev}
theorem CDs.setFailC (h : CDs S w d L n D) (x : Nat) (f : Nat) (hx : x < 18446744073709551616) (hf : f = x - D.steps) (hb : f ≤ 9223372036854775807) : CDs { S with fl := x } (w.setCell ⟨d, 4, none⟩ (.int .u64 (x : Int))) d L n { D with fail := f } :=
  h.setp rfl rfl rfl ⟨rfl, rfl, rfl, rfl, rfl⟩ h.ss ⟨hf, hx, hb⟩ ⟨h.rc.1, h.rc.2, h.ok.cs.2⟩ (heap_setCell_same _ _ _ _ _ _ h.hp) (turn_setCell _ _ _ _)
theorem CDs.setCutC (h : CDs S w d L n D) (b : Bool) (x : Nat) (c : Int) (hx : x < 18446744073709551616) (hc : c = if b = true then ((x - D.steps : Nat) : Int) else -1) (hb : c ≤ 9223372036854775807) : CDs { S with cu := b, la := x } ((w.setCell ⟨d, 5, none⟩ (.bool b)).setCell ⟨d, 6, none⟩ (.int .u64 (x : Int))) d L n { D with cut := c } :=
  h.setp rfl rfl rfl ⟨rfl, rfl, rfl, rfl, rfl⟩ h.ss ⟨h.rf.1, h.rf.2, h.ok.fs⟩ ⟨hc, hx, hb⟩ (heap_setCell_same _ _ _ _ _ _ (heap_setCell_same _ _ _ _ _ _ h.hp)) ((turn_setCell _ _ _ _).trans (turn_setCell _ _ _ _))
end
set_option maxRecDepth 100000 in
set_option maxHeartbeats 8000000 in
theorem cdfail0 (S : Cs) (w : World) (d n : Nat) (L : Nat → Prop) (D : Dev) (h : CDs S w d L n D) (i : Int) (hi : -9223372036854775808 ≤ i ∧ i ≤ 9223372036854775807) : Calls Try.prog 27 #[.pointer (some ⟨d, 0, none⟩), .int .i64 i] w fun e w' => e = .returned (.tuple #[]) ∧ (∃ S', CDs S' w' d L n (D.setFail i)) ∧ Turn d w w' := by
  have d3 := h.c3
  have d4 := h.c4
  have f4 := h.free 4
  have hss := h.ss
  have H1 := Lib.hid (h.setFailC 0 0 (by decide) (by omega) (by decide))
  have HT1 : Hid (Turn d w (w.setCell ⟨d, 4, none⟩ (.int .u64 ((0 : Nat) : Int)))) := Lib.hid (turn_setCell _ _ _ _)
  by_cases h1 : 1 ≤ i
  · obtain ⟨m, rfl⟩ : ∃ m : Nat, i = (m : Int) := ⟨i.toNat, by omega⟩
    obtain ⟨x, hx⟩ : ∃ x, x = D.steps + m := ⟨_, rfl⟩
    have HX := Lib.hid hx
    have h2 := H1.out.setFailC x m (by omega) (by show m = x - D.steps; omega) (by omega)
    have H2 := Lib.hid h2; clear h2
    have hw1 : IntKind.u64.wrap (m : Int) = (m : Int) := IntWalk.u64_in _ (by omega)
    have hw2 : IntKind.u64.wrap ((D.steps : Int) + (m : Int)) = (x : Int) := by rw [IntWalk.u64_in _ (by omega)]; omega
    clear h hx
    obtain ⟨st, hst⟩ : ∃ st, st = D.steps := ⟨_, rfl⟩
    rw [← hst] at d3 hw2
    clear hst hss
    go_enter Try.func27, Try.ntmps27
    go_wp2_with fail
    refine bodyPost_end (results_none rfl _ _ _) rfl ?_
    exact ⟨rfl, ⟨_, H2.out⟩, HT1.out.trans (turn_setCell _ _ _ _)⟩
  · have e : D.setFail i = { D with fail := 0 } := by unfold Dev.setFail; rw [show i.toNat = 0 from by omega]
    rw [e]
    clear h e hss d3
    go_enter Try.func27, Try.ntmps27
    go_wp2_with fail
    refine bodyPost_end (results_none rfl _ _ _) rfl ?_
    exact ⟨rfl, ⟨_, H1.out⟩, HT1.out⟩
theorem cdfail_any (w : World) (d n : Nat) (L : Nat → Prop) (D : Dev) (h : CD w d L n D) (i : Int) (hi : -9223372036854775808 ≤ i ∧ i ≤ 9223372036854775807) : Calls Try.prog 27 #[.pointer (some ⟨d, 0, none⟩), .int .i64 i] w fun e w' => e = .returned (.tuple #[]) ∧ CD w' d (ext L w w') n (D.setFail i) ∧ Keep L w w' := by
  obtain ⟨S, h⟩ := h
  exact (cdfail0 S w d n L D h i hi).mono fun e w' ⟨he, ⟨S', h'⟩, ht⟩ => ⟨he, h'.ext h.lt (Nat.le_of_eq ht.size.symm), ht.keepL h.ld.1⟩
set_option maxRecDepth 100000 in
set_option maxHeartbeats 8000000 in
theorem cdcut0 (S : Cs) (w : World) (d n : Nat) (L : Nat → Prop) (D : Dev) (h : CDs S w d L n D) (i : Int) (hi : -9223372036854775808 ≤ i ∧ i ≤ 9223372036854775807) : Calls Try.prog 28 #[.pointer (some ⟨d, 0, none⟩), .int .i64 i] w fun e w' => e = .returned (.tuple #[]) ∧ (∃ S', CDs S' w' d L n (D.setCut i)) ∧ Turn d w w' := by
  have d3 := h.c3
  have d5 := h.c5
  have d6 := h.c6
  have f5 := h.free 5
  have f6 := h.free 6
  have hss := h.ss
  have H1 := Lib.hid (h.setCutC false 0 (-1) (by decide) rfl (by decide))
  have HT1 : Hid (Turn d w ((w.setCell ⟨d, 5, none⟩ (.bool false)).setCell ⟨d, 6, none⟩ (.int .u64 ((0 : Nat) : Int)))) := Lib.hid ((turn_setCell _ _ _ _).trans (turn_setCell _ _ _ _))
  by_cases h1 : 0 ≤ i
  · obtain ⟨m, rfl⟩ : ∃ m : Nat, i = (m : Int) := ⟨i.toNat, by omega⟩
    obtain ⟨x, hx⟩ : ∃ x, x = D.steps + m := ⟨_, rfl⟩
    have h2 := H1.out.setCutC true x (m : Int) (by omega) (by show (m : Int) = ((x - D.steps : Nat) : Int); omega) (by omega)
    have e : D.setCut (m : Int) = { D with cut := (m : Int) } := by unfold Dev.setCut; rw [show max (m : Int) (-1) = (m : Int) from by omega]
    rw [e]
    have H2 := Lib.hid h2; clear h2 e
    have hw1 : IntKind.u64.wrap (m : Int) = (m : Int) := IntWalk.u64_in _ (by omega)
    have hw2 : IntKind.u64.wrap ((D.steps : Int) + (m : Int)) = (x : Int) := by rw [IntWalk.u64_in _ (by omega)]; omega
    clear h hx
    obtain ⟨st, hst⟩ : ∃ st, st = D.steps := ⟨_, rfl⟩
    rw [← hst] at d3 hw2
    clear hst hss
    go_enter Try.func28, Try.ntmps28
    go_wp2_with fail
    refine bodyPost_end (results_none rfl _ _ _) rfl ?_
    exact ⟨rfl, ⟨_, H2.out⟩, HT1.out.trans ((turn_setCell _ _ _ _).trans (turn_setCell _ _ _ _))⟩
  · have e : D.setCut i = { D with cut := -1 } := by unfold Dev.setCut; rw [show max i (-1) = -1 from by omega]
    rw [e]
    clear h e hss d3
    go_enter Try.func28, Try.ntmps28
    go_wp2_with fail
    refine bodyPost_end (results_none rfl _ _ _) rfl ?_
    exact ⟨rfl, ⟨_, H1.out⟩, HT1.out⟩
theorem cdcut_any (w : World) (d n : Nat) (L : Nat → Prop) (D : Dev) (h : CD w d L n D) (i : Int) (hi : -9223372036854775808 ≤ i ∧ i ≤ 9223372036854775807) : Calls Try.prog 28 #[.pointer (some ⟨d, 0, none⟩), .int .i64 i] w fun e w' => e = .returned (.tuple #[]) ∧ CD w' d (ext L w w') n (D.setCut i) ∧ Keep L w w' := by
  obtain ⟨S, h⟩ := h
  exact (cdcut0 S w d n L D h i hi).mono fun e w' ⟨he, ⟨S', h'⟩, ht⟩ => ⟨he, h'.ext h.lt (Nat.le_of_eq ht.size.symm), ht.keepL h.ld.1⟩
end Go.Proofs.Ytpepbffhhfgdpaa
