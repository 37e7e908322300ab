/-
  They only rise: the numbers that are reserved rise by one, none comes twice, what is committed is never above them, and neither falls: RegsRise, for every input.
-/
import Derived.Test.YtpepbffhhfgdpaaFoldD
import Derived.Test.YtpepbffhhfgdpaaFoldA
namespace Go.Proofs.Ytpepbffhhfgdpaa
open Go Go.RowKit Go.ChangeShapes Go.WideShapes Go.ChangeAt Go.Deep
set_option linter.unusedVariables false
set_option linter.unusedSimpArgs false

/-- The code's registers beside the code's device, in a law's memory. -/
structure RS (w wr : World) (r d : Nat) (R L : Nat → Prop) (G : Rg) (D : Dev) : Prop where
  cg : CG wr r d R G
  cd : CD wr d L 8 D
  bel : Below w.heap.size w wr
  dis : ∀ b, R b → ¬ L b
  low : ∀ b, L b → w.heap.size ≤ b
  rlow : ∀ b, R b → w.heap.size ≤ b
section
variable {w wr w5 : World} {r d : Nat} {R L : Nat → Prop} {G G5 : Rg} {D D5 : Dev}
theorem RS.call (h : RS w wr r d R L G D) (hb : Below wr.heap.size wr w5) : RS w w5 r d R L G D := ⟨h.cg.call hb, h.cd.call hb, h.bel.trans (hb.mono h.bel.size), h.dis, h.low, h.rlow⟩
theorem RS.both (h : RS w wr r d R L G D) (hg : CG w5 r d R G5) (hd : CD w5 d (ext L wr w5) 8 D5) (hk : Keep (fun b => L b ∨ R b) wr w5) : RS w w5 r d R (ext L wr w5) G5 D5 :=
  ⟨hg, hd, Keep.toBelow h.bel hk (fun b hb => hb.elim (h.low b) (h.rlow b)) h.bel.size, fun b hb hl => hl.elim (h.dis b hb) (fun hl => by have := h.cg.lt b hb; omega), fun b hb => hb.elim (h.low b) (fun hb => Nat.le_trans h.bel.size hb.1), h.rlow⟩
theorem RS.dev (h : RS w wr r d R L G D) (hd : CD w5 d (ext L wr w5) 8 D5) (hk : Keep L wr w5) : RS w w5 r d R (ext L wr w5) G D5 :=
  h.both (h.cg.keep hk h.dis) hd (hk.mono fun _ _ h => .inl h)
end
theorem res_rise (l t c : Nat) (D : Dev) (h : (Rg.mk l t c []).resE D = 0) : t < l ∧ (Rg.mk l t c []).resN D = t + 1 ∧ (Rg.mk l t c []).resG D = Rg.mk l (t + 1) c [] := by
  refine ⟨?_, by unfold Rg.resN; rw [if_pos h], by unfold Rg.resG; rw [if_pos h]⟩
  rcases Nat.lt_or_ge t l with h1 | h1
  · exact h1
  · unfold Rg.resE at h; rw [if_pos (show (Rg.mk l t c []).limit ≤ _ from h1)] at h; cases h
theorem adv_rise (l t c k : Nat) (D : Dev) (h : (Rg.mk l t c []).advE D k = 0) : c < k ∧ k ≤ t ∧ (Rg.mk l t c []).advG D k = Rg.mk l t k [] := by
  have h1 : ¬ (k ≤ c ∨ t < k) := fun h1 => by unfold Rg.advE at h; rw [if_pos h1] at h; cases h
  exact ⟨by omega, by omega, by unfold Rg.advG; rw [if_pos h]⟩

set_option maxRecDepth 100000 in
set_option maxHeartbeats 40000000 in
theorem orise_any (lim : Nat) (A : Option Addr) (len cap : Nat) (O : Nat → OpR) (w : World) (hlim : lim < 18446744073709551616) (hlen : len ≤ 140737488351360) (hO : ∀ i, i < len → (O i).Ok w ∧ ∃ ad, A = some ad ∧ (O i).At w ad i) :
    Calls Try.prog 5 #[.int .u64 (lim : Int), .slice A len cap] w fun e w' => e = .returned (.bool true) ∧ Below w.heap.size w w' := by
  have hhv := heavy9_any none [] 0 0 A len cap O w rfl (by decide) (fun i hi => absurd hi (Nat.not_lt_zero _)) hlen hO
  have HO := Lib.hid hO; clear hO
  have HH := Lib.hid hhv; clear hhv
  go_enter Try.func5, Try.ntmps5
  go_wp2_with fail
  refine HH.out.mono ?_
  rintro e w1 hq
  obtain ⟨b, rfl, hbl, hb1⟩ := hq
  have HB1 := Lib.hid hb1; clear hb1 HH
  cases b
  · have hl4 := (hbl rfl).2
    clear hbl
    have hnew := cdnew_any w1 8 (by decide) (by decide)
    rw [show ((8 : Nat) : Int) = 8 from rfl] at hnew
    have HNW := Lib.hid hnew; clear hnew
    go_wp2_with fail
    refine HNW.out.mono ?_
    rintro e w2 ⟨d, rfl, hcd, hb2⟩
    have hgn := cgnew_any w2 d 8 _ _ hcd lim hlim none [] 0 0 rfl (Nat.le_refl _) (by decide) (fun i hi => absurd hi (Nat.not_lt_zero _)) (fun i hi => absurd hi (Nat.not_lt_zero _))
    have HGN := Lib.hid hgn
    have HC2 := Lib.hid (And.intro hcd (And.intro hb2 (HB1.out.trans (hb2.mono HB1.out.size)))); clear hgn hcd hb2 HNW
    go_wp2_with fail
    refine HGN.out.mono ?_
    rintro e w3 ⟨r, rfl, hcg, hb3⟩
    have hRS : RS w w3 r d (fun b => w2.heap.size ≤ b ∧ b < w3.heap.size) (fun b => w1.heap.size ≤ b ∧ b < w2.heap.size) (Rg.mk lim 0 0 []) (Dev.new 8) :=
      ⟨hcg, HC2.out.1.call hb3, HC2.out.2.2.trans (hb3.mono HC2.out.2.2.size), fun b h h2 => by omega, fun b h => Nat.le_trans HB1.out.size h.1, fun b h => Nat.le_trans HC2.out.2.2.size h.1⟩
    have HX := Lib.hid (And.intro hRS (show (Dev.new 8).load ≤ 0 from Nat.le_refl _)); clear hRS hcg hb3 HGN HC2
    generalize (fun b => w2.heap.size ≤ b ∧ b < w3.heap.size) = R at *
    go_wp2_with fail
    go_loopw [9, 10, 43] (fun x y i wr => ∃ (j t c : Nat) (L : Nat → Prop) (D : Dev), j ≤ len ∧ i = .int .i64 (j : Int) ∧ x = .int .u64 (t : Int) ∧ y = .int .u64 (c : Int) ∧ RS w wr r d R L (Rg.mk lim t c []) D ∧ D.load ≤ j) (fun _ _ i _ => len - (intOf i).toNat)
    case atStart => exact ⟨0, 0, 0, _, _, Nat.zero_le _, rfl, rfl, rfl, HX.out⟩
    case round =>
      rename World => wr
      obtain ⟨j, t, c, L, D, hj, rfl, rfl, rfl, hrs⟩ := hrel
      clear HX
      have HRS := Lib.hid hrs; clear hrs
      by_cases hlt : j < len
      · have hji : (j : Int) < (len : Int) := by omega
        obtain ⟨hok, ad, hA, hat⟩ := HO.out j hlt
        have HAT := Lib.hid hat
        obtain ⟨c0, hcs⟩ := (hat.keepW HRS.out.1.bel).cells
        have c1 := hcs 1 _ (by decide) (hat.keepW HRS.out.1.bel).c1
        have c2 := hcs 2 _ (by decide) (hat.keepW HRS.out.1.bel).c2
        have c7 := hcs 7 _ (by decide) (hat.keepW HRS.out.1.bel).c7
        obtain ⟨o, ho⟩ : ∃ o, o = O j := ⟨_, rfl⟩
        rw [← ho] at hok c0 c1 c2 c7 HAT
        clear hat hcs ho
        obtain ⟨k, hk⟩ : ∃ k, k = o.k := ⟨_, rfl⟩
        obtain ⟨nn, hnn⟩ : ∃ nn, nn = o.n := ⟨_, rfl⟩
        obtain ⟨sz, hsz⟩ : ∃ sz, sz = o.s := ⟨_, rfl⟩
        rw [← hk] at c0
        rw [← hnn] at c1
        rw [← hsz] at c2
        have hszb := hok.hs
        rw [← hsz] at hszb
        have hnb := hok.hn
        rw [← hnn] at hnb
        have HMK := Lib.hid hok.ho.hm
        have HNN := Lib.hid hnn
        have hlt1 := HRS.out.1.cg.ok.r
        have hlt2 := HRS.out.1.cg.ok.c
        have hlt3 := HRS.out.1.cg.ok.l
        replace hlt1 : t ≤ lim := hlt1
        replace hlt2 : c ≤ t := hlt2
        replace hlt3 : lim < 18446744073709551616 := hlt3
        clear hk hsz hok hnn
        have HA := Lib.hid hA
        by_cases k1 : k = 1
        · subst k1
          have hq := cgreserve_any wr r d 8 R L (Rg.mk lim t c []) D HRS.out.1.cg HRS.out.1.cd HRS.out.1.dis (by have := HRS.out.2; omega)
          by_cases hE : (Rg.mk lim t c []).resE D = 0
          · obtain ⟨y1, y2, y3⟩ := res_rise lim t c D hE
            rw [hE, y2, y3] at hq
            have HQ0 := Lib.hid hq; clear hq y2 y3
            have hwr : IntKind.u64.wrap ((t : Int) + 1) = ((t + 1 : Nat) : Int) := by rw [IntWalk.u64_in _ (by omega)]; omega
            obtain ⟨t1, ht1⟩ : ∃ t1, t1 = t + 1 := ⟨_, rfl⟩
            rw [← ht1] at hwr HQ0
            have hl1 : ¬ (lim : Int) < (t1 : Int) := by omega
            clear ht1 hE
            go_wp2_with fail
            refine HQ0.out.mono ?_
            rintro e wq ⟨rfl, hg5, hd5, hk5⟩
            have HQ := Lib.hid (And.intro (HRS.out.1.both hg5 hd5 hk5) (Nat.le_trans (load_resD (Rg.mk lim t c []) D) (Nat.succ_le_succ HRS.out.2))); clear hg5 hd5 hk5 HQ0 HRS
            have hr1 := cgreserved_any wq r d R _ HQ.out.1.cg
            rw [show (Rg.mk lim (t1) (c) []).res = t1 from rfl] at hr1
            have HR1 := Lib.hid hr1; clear hr1
            go_wp2_with fail
            refine HR1.out.mono ?_
            rintro e wy ⟨rfl, hby⟩
            have HQ2 := Lib.hid (And.intro (HQ.out.1.call hby) HQ.out.2); clear hby HR1 HQ
            have hr2 := cgcommitted_any wy r d R _ HQ2.out.1.cg
            rw [show (Rg.mk lim (t1) (c) []).com = c from rfl] at hr2
            have HR2 := Lib.hid hr2; clear hr2
            go_wp2_with fail
            refine HR2.out.mono ?_
            rintro e wv ⟨rfl, hbv⟩
            have HF := Lib.hid (And.intro (HQ2.out.1.call hbv) HQ2.out.2); clear hbv HR2 HQ2
            go_wp2_with fail
            (try clear hA)
            (try rw [← HA.out])
            go_roundw
            case rel => exact ⟨j + 1, t1, c, _, _, by omega, by go_num, rfl, rfl, HF.out⟩
            case measure => simp [intOf]; omega
          · have e2 : (Rg.mk lim t c []).resN D = 0 := by unfold Rg.resN; rw [if_neg hE]
            have e3 : (Rg.mk lim t c []).resG D = Rg.mk lim t c [] := by unfold Rg.resG; rw [if_neg hE]
            rw [e2, e3] at hq
            obtain ⟨E, hEe⟩ : ∃ E, E = (Rg.mk lim t c []).resE D := ⟨_, rfl⟩
            rw [← hEe] at hq hE
            have HQ0 := Lib.hid hq; clear hq e2 e3 hEe
            have hEi : ¬ (E : Int) = 0 := by omega
            have hEb : ((E : Int) == 0) = false := by rw [beq_eq_false_iff_ne]; exact hEi
            go_wp2_with fail
            refine HQ0.out.mono ?_
            rintro e wq ⟨rfl, hg5, hd5, hk5⟩
            have HQ := Lib.hid (And.intro (HRS.out.1.both hg5 hd5 hk5) (Nat.le_trans (load_resD (Rg.mk lim t c []) D) (Nat.succ_le_succ HRS.out.2))); clear hg5 hd5 hk5 HQ0 HRS
            have hr1 := cgreserved_any wq r d R _ HQ.out.1.cg
            rw [show (Rg.mk lim (t) (c) []).res = t from rfl] at hr1
            have HR1 := Lib.hid hr1; clear hr1
            go_wp2_with fail
            refine HR1.out.mono ?_
            rintro e wy ⟨rfl, hby⟩
            have HQ2 := Lib.hid (And.intro (HQ.out.1.call hby) HQ.out.2); clear hby HR1 HQ
            have hr2 := cgcommitted_any wy r d R _ HQ2.out.1.cg
            rw [show (Rg.mk lim (t) (c) []).com = c from rfl] at hr2
            have HR2 := Lib.hid hr2; clear hr2
            go_wp2_with fail
            refine HR2.out.mono ?_
            rintro e wv ⟨rfl, hbv⟩
            have HF := Lib.hid (And.intro (HQ2.out.1.call hbv) HQ2.out.2); clear hbv HR2 HQ2
            go_wp2_with fail
            (try clear hA)
            (try rw [← HA.out])
            go_roundw
            case rel => exact ⟨j + 1, t, c, _, _, by omega, by go_num, rfl, rfl, HF.out⟩
            case measure => simp [intOf]; omega
        by_cases k2 : k = 2
        · subst k2
          have hq := cgadvance_any wr r d 8 R L (Rg.mk lim t c []) D nn hnb HRS.out.1.cg HRS.out.1.cd HRS.out.1.dis (by have := HRS.out.2; omega)
          by_cases hE : (Rg.mk lim t c []).advE D nn = 0
          · obtain ⟨y1, y2, y3⟩ := adv_rise lim t c nn D hE
            rw [hE, y3] at hq
            have HQ0 := Lib.hid hq; clear hq y3
            have hl1 : ¬ (nn : Int) ≤ (c : Int) := by omega
            have hl2 : ¬ (t : Int) < (nn : Int) := by omega
            clear hE
            go_wp2_with fail
            refine HQ0.out.mono ?_
            rintro e wq ⟨rfl, hg5, hd5, hk5⟩
            have HQ := Lib.hid (And.intro (HRS.out.1.both hg5 hd5 hk5) (Nat.le_trans (load_advD (Rg.mk lim t c []) D nn) (Nat.succ_le_succ HRS.out.2))); clear hg5 hd5 hk5 HQ0 HRS
            have c1' : wq.cell? ⟨(ad.add (j * 8)).block, (ad.add (j * 8)).off + 1, none⟩ = some (.int .u64 (nn : Int)) := by
              obtain ⟨_, hcs⟩ := (HAT.out.keepW HQ.out.1.bel).cells
              have := hcs 1 _ (by decide) (HAT.out.keepW HQ.out.1.bel).c1
              rw [← HNN.out] at this
              exact this
            have hr1 := cgreserved_any wq r d R _ HQ.out.1.cg
            rw [show (Rg.mk lim (t) (nn) []).res = t from rfl] at hr1
            have HR1 := Lib.hid hr1; clear hr1
            go_wp2_with fail
            refine HR1.out.mono ?_
            rintro e wy ⟨rfl, hby⟩
            have HQ2 := Lib.hid (And.intro (HQ.out.1.call hby) HQ.out.2); clear hby HR1 HQ
            have hr2 := cgcommitted_any wy r d R _ HQ2.out.1.cg
            rw [show (Rg.mk lim (t) (nn) []).com = nn from rfl] at hr2
            have HR2 := Lib.hid hr2; clear hr2
            go_wp2_with fail
            refine HR2.out.mono ?_
            rintro e wv ⟨rfl, hbv⟩
            have HF := Lib.hid (And.intro (HQ2.out.1.call hbv) HQ2.out.2); clear hbv HR2 HQ2
            go_wp2_with fail
            (try clear hA)
            (try rw [← HA.out])
            go_roundw
            case rel => exact ⟨j + 1, t, nn, _, _, by omega, by go_num, rfl, rfl, HF.out⟩
            case measure => simp [intOf]; omega
          · have e3 : (Rg.mk lim t c []).advG D nn = Rg.mk lim t c [] := by unfold Rg.advG; rw [if_neg hE]
            rw [e3] at hq
            obtain ⟨E, hEe⟩ : ∃ E, E = (Rg.mk lim t c []).advE D nn := ⟨_, rfl⟩
            rw [← hEe] at hq hE
            have HQ0 := Lib.hid hq; clear hq e3 hEe
            have hEi : ¬ (E : Int) = 0 := by omega
            have hEb : ((E : Int) == 0) = false := by rw [beq_eq_false_iff_ne]; exact hEi
            go_wp2_with fail
            refine HQ0.out.mono ?_
            rintro e wq ⟨rfl, hg5, hd5, hk5⟩
            have HQ := Lib.hid (And.intro (HRS.out.1.both hg5 hd5 hk5) (Nat.le_trans (load_advD (Rg.mk lim t c []) D nn) (Nat.succ_le_succ HRS.out.2))); clear hg5 hd5 hk5 HQ0 HRS
            have hr1 := cgreserved_any wq r d R _ HQ.out.1.cg
            rw [show (Rg.mk lim (t) (c) []).res = t from rfl] at hr1
            have HR1 := Lib.hid hr1; clear hr1
            go_wp2_with fail
            refine HR1.out.mono ?_
            rintro e wy ⟨rfl, hby⟩
            have HQ2 := Lib.hid (And.intro (HQ.out.1.call hby) HQ.out.2); clear hby HR1 HQ
            have hr2 := cgcommitted_any wy r d R _ HQ2.out.1.cg
            rw [show (Rg.mk lim (t) (c) []).com = c from rfl] at hr2
            have HR2 := Lib.hid hr2; clear hr2
            go_wp2_with fail
            refine HR2.out.mono ?_
            rintro e wv ⟨rfl, hbv⟩
            have HF := Lib.hid (And.intro (HQ2.out.1.call hbv) HQ2.out.2); clear hbv HR2 HQ2
            go_wp2_with fail
            (try clear hA)
            (try rw [← HA.out])
            go_roundw
            case rel => exact ⟨j + 1, t, c, _, _, by omega, by go_num, rfl, rfl, HF.out⟩
            case measure => simp [intOf]; omega
        by_cases k3 : k = 3
        · subst k3
          have hq := cdfail_any wr d 8 L D HRS.out.1.cd sz hszb
          have HQ0 := Lib.hid hq; clear hq
          go_wp2_with fail
          refine HQ0.out.mono ?_
          rintro e wq ⟨rfl, hd5, hk5⟩
          have HQ := Lib.hid (And.intro (HRS.out.1.dev hd5 hk5) ((Nat.le_succ_of_le HRS.out.2))); clear hd5 hk5 HQ0 HRS
          have hr1 := cgreserved_any wq r d R _ HQ.out.1.cg
          rw [show (Rg.mk lim (t) (c) []).res = t from rfl] at hr1
          have HR1 := Lib.hid hr1; clear hr1
          go_wp2_with fail
          refine HR1.out.mono ?_
          rintro e wy ⟨rfl, hby⟩
          have HQ2 := Lib.hid (And.intro (HQ.out.1.call hby) HQ.out.2); clear hby HR1 HQ
          have hr2 := cgcommitted_any wy r d R _ HQ2.out.1.cg
          rw [show (Rg.mk lim (t) (c) []).com = c from rfl] at hr2
          have HR2 := Lib.hid hr2; clear hr2
          go_wp2_with fail
          refine HR2.out.mono ?_
          rintro e wv ⟨rfl, hbv⟩
          have HF := Lib.hid (And.intro (HQ2.out.1.call hbv) HQ2.out.2); clear hbv HR2 HQ2
          go_wp2_with fail
          (try clear hA)
          (try rw [← HA.out])
          go_roundw
          case rel => exact ⟨j + 1, t, c, _, _, by omega, by go_num, rfl, rfl, HF.out⟩
          case measure => simp [intOf]; omega
        by_cases k4 : k = 4
        · subst k4
          have hq := cdcut_any wr d 8 L D HRS.out.1.cd sz hszb
          have HQ0 := Lib.hid hq; clear hq
          go_wp2_with fail
          refine HQ0.out.mono ?_
          rintro e wq ⟨rfl, hd5, hk5⟩
          have HQ := Lib.hid (And.intro (HRS.out.1.dev hd5 hk5) ((Nat.le_succ_of_le HRS.out.2))); clear hd5 hk5 HQ0 HRS
          have hr1 := cgreserved_any wq r d R _ HQ.out.1.cg
          rw [show (Rg.mk lim (t) (c) []).res = t from rfl] at hr1
          have HR1 := Lib.hid hr1; clear hr1
          go_wp2_with fail
          refine HR1.out.mono ?_
          rintro e wy ⟨rfl, hby⟩
          have HQ2 := Lib.hid (And.intro (HQ.out.1.call hby) HQ.out.2); clear hby HR1 HQ
          have hr2 := cgcommitted_any wy r d R _ HQ2.out.1.cg
          rw [show (Rg.mk lim (t) (c) []).com = c from rfl] at hr2
          have HR2 := Lib.hid hr2; clear hr2
          go_wp2_with fail
          refine HR2.out.mono ?_
          rintro e wv ⟨rfl, hbv⟩
          have HF := Lib.hid (And.intro (HQ2.out.1.call hbv) HQ2.out.2); clear hbv HR2 HQ2
          go_wp2_with fail
          (try clear hA)
          (try rw [← HA.out])
          go_roundw
          case rel => exact ⟨j + 1, t, c, _, _, by omega, by go_num, rfl, rfl, HF.out⟩
          case measure => simp [intOf]; omega
        have hmrd := HMK.out.1
        have hmas : o.o.ml.length ≠ 0 → ∀ a, o.o.M = some a → ¬ L a.block := fun h0 a e hl => by
          obtain ⟨a', e', h1, _⟩ := hmrd.at_ (k := 0) (by simp [vb]; omega)
          rw [e] at e'; cases e'
          have := HRS.out.1.low _ hl; omega
        have hq := cdcrash_any wr d 8 L D HRS.out.1.cd o.o.M o.o.ml o.o.ml.length o.o.mc rfl HMK.out.2.1 HMK.out.2.2 (hmrd.go HRS.out.1.bel) hmas (by have := load_waits D; have := HRS.out.2; omega)
        have HQ0 := Lib.hid hq; clear hq hmrd hmas
        obtain ⟨MM, hMM⟩ : ∃ MM, MM = o.o.M := ⟨_, rfl⟩
        obtain ⟨ML, hML⟩ : ∃ ML, ML = o.o.ml.length := ⟨_, rfl⟩
        obtain ⟨MC, hMC⟩ : ∃ MC, MC = o.o.mc := ⟨_, rfl⟩
        rw [← hMM, ← hML, ← hMC] at HQ0 c7
        clear hMM hML hMC
        go_wp2_with fail
        refine HQ0.out.mono ?_
        rintro e wq ⟨rfl, hd5, hk5⟩
        have HQ := Lib.hid (And.intro (HRS.out.1.dev hd5 hk5) ((Nat.le_succ_of_le (Nat.le_trans (load_crash D (o.o.ml.map UInt8.toNat)) HRS.out.2)))); clear hd5 hk5 HQ0 HRS
        have hr1 := cgreserved_any wq r d R _ HQ.out.1.cg
        rw [show (Rg.mk lim (t) (c) []).res = t from rfl] at hr1
        have HR1 := Lib.hid hr1; clear hr1
        go_wp2_with fail
        refine HR1.out.mono ?_
        rintro e wy ⟨rfl, hby⟩
        have HQ2 := Lib.hid (And.intro (HQ.out.1.call hby) HQ.out.2); clear hby HR1 HQ
        have hr2 := cgcommitted_any wy r d R _ HQ2.out.1.cg
        rw [show (Rg.mk lim (t) (c) []).com = c from rfl] at hr2
        have HR2 := Lib.hid hr2; clear hr2
        go_wp2_with fail
        refine HR2.out.mono ?_
        rintro e wv ⟨rfl, hbv⟩
        have HF := Lib.hid (And.intro (HQ2.out.1.call hbv) HQ2.out.2); clear hbv HR2 HQ2
        go_wp2_with fail
        (try clear hA)
        (try rw [← HA.out])
        go_roundw
        case rel => exact ⟨j + 1, t, c, _, _, by omega, by go_num, rfl, rfl, HF.out⟩
        case measure => simp [intOf]; omega
      · have hji : ¬ (j : Int) < (len : Int) := by omega
        go_wp2_with fail
        refine (known09_any wr).mono ?_
        rintro e wk ⟨rfl, hbk⟩
        go_wp2_with fail
        go_ret
        exact ⟨rfl, HRS.out.1.bel.trans (hbk.mono HRS.out.1.bel.size)⟩
  · clear hbl
    go_wp2_with fail
    refine (known09_any w1).mono ?_
    rintro e wk ⟨rfl, hbk⟩
    go_wp2_with fail
    go_ret
    exact ⟨rfl, HB1.out.trans (hbk.mono HB1.out.size)⟩
set_option maxRecDepth 100000 in
theorem orise_lifted (os : Os) (started : os.Started) (H : Type) (enc : TypeId × Value → H) :
    ReturnsInHanded {} Try.checked os 5 .any (Rows.regsRiseSpec.pre6 enc Try.prog Try.f5 Rows.regsRiseRow.domain false) (Rows.regsRiseSpec.post enc Try.prog Try.f5 false true false false) := by
  refine returnsInHanded_of_change_sized (C := Try.checked) Try.own started (by kernel_rfl) Try.func5
    (ChangeSpec.witness6 (enc := enc) (C := Try.checked) false ⟨#[], #[.int .u64 0, .slice none 0 0], []⟩ 8 (by kernel_rfl) (by kernel_rfl) (by kernel_rfl) (by kernel_rfl)) ?_
  intro W base args ds gs before hval0 hW _ hsz0 _
  have hsz : (DataW.weightsEach Try.prog (Try.f5.params.toList ++ Rows.regsRiseSpec.plain.varTypes Try.prog) (ds ++ gs)).all (· ≤ reachBytes) = true := hsz0
  have hval : ∀ (j : Nat) t v, Try.f5.params[j]? = some t → args[j]? = some v → Value.okWide Try.prog W .any base t v := hval0
  have hW' := hW
  obtain ⟨p, q, hA0, hV, rfl, _, _⟩ := hW
  have hA : DataW.TrodAll enc Try.prog W 0 (fun _ => true) true Try.f5.params.toList args.toList ds p := hA0
  rw [Try.params5] at hA hval hsz
  have hlt := hW'.lt
  clear hA0 hval0 hsz0
  obtain ⟨v0, vs0, d0, ds0, p0, q0, hv0, rfl, rfl, h0, r0⟩ := trodAll_cons hA
  obtain ⟨v1, vs1, d1, ds1, p1, q1, hv1, rfl, rfl, h1, r1⟩ := trodAll_cons r0
  subst hv1
  obtain ⟨rfl, rfl, rfl⟩ := trodAll_nil r1
  obtain rfl : args = #[v0, v1] := by cases args; simp_all
  obtain ⟨rfl, rfl⟩ := trodVars_none hV
  obtain ⟨a0, rfl, rfl, rfl, w0⟩ := open_int Try.underlying22 (hval 0 22 v0 rfl rfl) h0
  have b0 : 0 ≤ a0 ∧ a0 ≤ 18446744073709551615 := by simpa [Lit.wf, IntKind.min, IntKind.max, IntKind.signed, IntKind.bits] using w0
  obtain ⟨n0, rfl⟩ : ∃ n0 : Nat, a0 = n0 := ⟨a0.toNat, by omega⟩
  obtain ⟨A1, len1, cap1, rfl, le1, _, hs1⟩ := open_elems Try.underlying24 (hval 1 24 v1 rfl rfl) h1 (fun m hm => by have := List.all_eq_true.1 hsz m (DataW.weights_mem_each (j := 1) (t := 24) rfl rfl m hm); simpa using this) (of_decide_eq_true (by kernel_rfl))
  obtain ⟨O1, hk1⟩ := structs_opr Try.underlying43 Try.underlying41 Try.underlying3 Try.underlying22 Try.underlying3 Try.underlying3 Try.underlying3 Try.underlying3 Try.underlying31 Try.underlying31 Try.underlying5 Try.cellsU8 Try.bytesU8 (by kernel_rfl) rfl (by kernel_rfl) hs1
  refine (orise_any n0 A1 len1 cap1 O1 W (by omega) (by unfold reachBytes at le1; omega) hk1).mono fun e W' ⟨he, hb⟩ => ⟨_, he, ?_⟩
  exact law_post 4 Try.underlying4 (by kernel_rfl) rfl Try.laidOut (by kernel_rfl) hW' ⟨rfl, rfl, rfl⟩ hb

theorem orise_holds : Rows.RegsRiseSaid :=
  OpenClaim.holds_of_wide 5 Try.f5 rfl rfl rfl rfl rfl rfl rfl ⟨rfl, rfl, rfl, rfl, rfl⟩ rfl rfl rfl rfl rfl (by kernel_rfl) Try.func5 (by kernel_rfl)
    (of_decide_eq_true (by kernel_rfl)) (by unfold Func.isWrapper; first | (rw [if_pos (by decide +kernel)]; kernel_rfl) | (rw [if_neg (by decide +kernel)]; exact ⟨rfl, rfl⟩))
    (fun os started H enc _ => orise_lifted os started H enc)
end Go.Proofs.Ytpepbffhhfgdpaa
