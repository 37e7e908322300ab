/-
  The document's device (layer 8): Sync.
-/
import Derived.Test.YtajplflefagbaaaDkE
namespace Go.Proofs.Ytajplflefagbaaa
open Go Go.RowKit
set_option linter.unusedVariables false
set_option linter.unusedSimpArgs false

/-- The first j of a, the rest of b. -/
def mixL {α : Type} (a b : List α) (j : Nat) : List α := a.take j ++ b.drop j
theorem mixL_zero {α : Type} (a b : List α) : mixL a b 0 = b := by simp [mixL]
theorem mixL_all {α : Type} (a b : List α) (n : Nat) (ha : a.length = n) (hb : b.length = n) : mixL a b n = a := by
  unfold mixL; rw [List.take_of_length_le (by omega), List.drop_of_length_le (by omega), List.append_nil]
theorem mixL_succ {α : Type} (a b : List α) (n j : Nat) (d : α) (ha : a.length = n) (hb : b.length = n) (hj : j < n) : (mixL a b j).set j (a.getD j d) = mixL a b (j + 1) := by
  unfold mixL
  rw [List.set_append_right _ _ (by rw [List.length_take]; omega), List.length_take, Nat.min_eq_left (by omega), Nat.sub_self]
  have h1 : b.drop j = b[j]'(by omega) :: b.drop (j + 1) := List.drop_eq_getElem_cons (by omega)
  have h2 : a.take (j + 1) = a.take j ++ [a[j]'(by omega)] := List.take_succ_eq_append_getElem (by omega)
  rw [h1, h2, List.set_cons_zero, List.append_assoc, List.getD_eq_getElem?_getD, List.getElem?_eq_getElem (by omega)]
  rfl
set_option maxRecDepth 100000 in
set_option maxHeartbeats 8000000 in
theorem rdsync_any (w : World) (p n : Nat) (L : Nat → Prop) (D : Dev) (h : RD w p L n D) (hnn : n ≤ 100000) :
    Calls Try.prog 33 #[.pointer (some ⟨p, 0, none⟩)] w fun e w' => e = .returned (.int .i64 (D.stepE : Int)) ∧ RD w' p (ext L w w') n D.sync ∧ Keep L w w' := by
  have more : ∀ (w' : World) (D' : Dev), RD w' p L n D' → Keep L w w' → RD w' p (ext L w w') n D' := fun w' D' h' hk => h'.more (fun b hb => .inl hb) (fun b hb => hb.elim (fun hl => Nat.lt_of_lt_of_le (h.lt b hl) hk.size) (fun hb => hb.2))
  have hs := rdstep_any w p n L D h
  have eW : D.sync = if D.stepE = 0 then { D.step with firm := D.step.now, waits := [] } else D.step := rfl
  rw [eW]
  have HS := Lib.hid hs; clear hs
  obtain ⟨E, hE⟩ : ∃ E, E = D.stepE := ⟨_, rfl⟩
  rw [← hE] at HS
  rw [← hE]
  obtain ⟨D1, hD1⟩ : ∃ D1, D1 = D.step := ⟨_, rfl⟩
  rw [← hD1] at HS
  rw [← hD1]
  have hL : L p := by obtain ⟨S, h⟩ := h; exact h.lp.1
  have HLT := Lib.hid h.lt
  have HO := Lib.hid more; clear more
  clear hE hD1 h eW
  by_cases h0 : E = 0
  · rw [if_pos h0]
    subst h0
    go_enter Try.func33, Try.ntmps33
    go_wp2_with fail
    refine HS.out.mono ?_
    rintro e w2 ⟨rfl, hrd, hk2⟩
    clear HS
    have HN : Hid (D1.now.length = n ∧ D1.firm.length = n) := Lib.hid ⟨hrd.ok.nl, hrd.ok.fl⟩
    have h20 : RD w2 p (ext L w w2) n { D1 with firm := mixL D1.now D1.firm 0 } := by rw [mixL_zero]; exact HO.out _ _ hrd hk2
    have HR := Lib.hid h20; clear h20 hrd
    have HK := Lib.hid hk2; clear hk2
    go_wp2_with fail
    go_loopw [4] (fun i wr => ∃ m : Nat, m ≤ n ∧ i = .int .i64 m ∧ RD wr p (ext L w wr) n { D1 with firm := mixL D1.now D1.firm m } ∧ Keep L w wr) (fun i _ => n - (intOf i).toNat)
    case atStart => exact ⟨0, Nat.zero_le _, rfl, HR.out, HK.out⟩
    case round =>
      rename_i wr _ _
      obtain ⟨m, hm, rfl, ⟨S, hrd⟩, hk⟩ := hrel
      clear HR HK w2
      have HR := Lib.hid hrd; clear hrd
      have HK := Lib.hid hk; clear hk
      have d0 := HR.out.c0
      by_cases hlt : m < n
      · have hrow := (HR.out.rn m hlt).rd
        have hlen := HR.out.ok.nr m hlt
        obtain ⟨bn, hbn⟩ : ∃ bn, bn = S.bn := ⟨_, rfl⟩
        obtain ⟨cn, hcn⟩ : ∃ cn, cn = S.cn := ⟨_, rfl⟩
        obtain ⟨bf, hbf⟩ : ∃ bf, bf = S.bf := ⟨_, rfl⟩
        obtain ⟨cf, hcf⟩ : ∃ cf, cf = S.cf := ⟨_, rfl⟩
        obtain ⟨gk, hgk⟩ : ∃ gk, gk = S.g m := ⟨_, rfl⟩
        obtain ⟨ck, hck⟩ : ∃ ck, ck = S.cg m := ⟨_, rfl⟩
        obtain ⟨hk, hhk⟩ : ∃ hk, hk = S.h m := ⟨_, rfl⟩
        obtain ⟨hc, hhc⟩ : ∃ hc, hc = S.ch m := ⟨_, rfl⟩
        obtain ⟨l, hl⟩ : ∃ l, l = D1.now.getD m [] := ⟨_, rfl⟩
        have hrow2 : Rd wr wr.heap.size (some ⟨gk, 0, none⟩) (vb l) := by rw [hgk, hl]; exact hrow
        have hlen2 : l.length = 256 := by rw [hl]; exact hlen
        clear hrow hlen
        have hheld : ∀ W : World, Below wr.heap.size wr W → W.cell? ⟨p, 1, none⟩ = some (.slice (some ⟨bf, 0, none⟩) n cf) ∧ W.cell? ⟨p, 0, none⟩ = some (.slice (some ⟨bn, 0, none⟩) n cn) ∧ W.cell? ⟨bn, m, none⟩ = some (.slice (some ⟨gk, 0, none⟩) 256 ck) ∧
            W.cell? ⟨bf, m, none⟩ = some (.slice (some ⟨hk, 0, none⟩) 256 hc) ∧ W.frozen? ⟨bf, m, none⟩ = false := fun W hb => by
          have := HR.out.call hb
          rw [hbn, hcn, hbf, hcf, hgk, hck, hhk, hhc]
          exact ⟨this.c1, this.c0, this.sn.cellAt m hlt, this.sf.cellAt m hlt, this.sf.free m⟩
        have HC : Hid (∀ W : World, Below wr.heap.size wr W → Calls Try.prog 30 #[.slice (some ⟨gk, 0, none⟩) 256 ck] W fun e w' => e = .returned (.slice (some ⟨W.heap.size, 0, none⟩) 256 259) ∧ w'.ownsRow W.heap.size 5 1 (.slice (some ⟨W.heap.size, 0, none⟩) 256 259) 256 (vb l) ∧ Below W.heap.size W w') :=
          Lib.hid fun W hb => copyx_any _ (vb l) 256 ck (by simp [vb, hlen2]) (vb_onec l) W (by decide) (hrow2.go hb)
        have hpb : Hid (p ≠ bf ∧ bn ≠ bf) := Lib.hid ⟨fun e => (by have h7 := HR.out.lp.2; rw [e, hbf, HR.out.lbf.2] at h7; cases h7), fun e => (by have h7 := HR.out.lbn.2; rw [← hbn, e, hbf, HR.out.lbf.2] at h7; cases h7)⟩
        rw [← hbn, ← hcn] at d0
        have HE := Lib.hid (And.intro hbf (And.intro hl hlen2)); clear hbn hcn hbf hcf hgk hck hhk hhc hl hlen2 hrow2
        have HH := Lib.hid hheld; clear hheld
        have hmi : (m : Int) < (n : Int) := by omega
        go_upto_region 7 with fail
        clear d0
        go_region_held3 (fun w' => w'.cell? ⟨p, 1, none⟩ = some (.slice (some ⟨bf, 0, none⟩) n cf) ∧ w'.cell? ⟨p, 0, none⟩ = some (.slice (some ⟨bn, 0, none⟩) n cn) ∧ w'.cell? ⟨bn, m, none⟩ = some (.slice (some ⟨gk, 0, none⟩) 256 ck))
          (first
            | exact ⟨(HH.out _ ((Below.refl _ _).drew)).1, (HH.out _ ((Below.refl _ _).drew)).2.1, (HH.out _ ((Below.refl _ _).drew)).2.2.1⟩
            | exact ⟨(HH.out _ (by assumption)).1, (HH.out _ (by assumption)).2.1, (HH.out _ (by assumption)).2.2.1⟩
            | exact ⟨(World.cell?_setCell_other _ _ _ _ (fun e => hpb.out.1 (congrArg Addr.block e).symm)).trans (HH.out _ (by assumption)).1, (World.cell?_setCell_other _ _ _ _ (fun e => hpb.out.1 (congrArg Addr.block e).symm)).trans (HH.out _ (by assumption)).2.1, (World.cell?_setCell_other _ _ _ _ (fun e => hpb.out.2 (congrArg Addr.block e).symm)).trans (HH.out _ (by assumption)).2.2.1⟩)
          ((go_at_call 30; refine (HC.out _ ((Below.refl _ _).drew)).mono ?_; rintro e w3 ⟨rfl, ho3, hb3⟩; have hbw3 : Below wr.heap.size wr w3 := (Below.refl _ _).drew.trans (hb3.mono (Nat.le_refl _)); have hfc := (HH.out _ hbw3).2.2.2.1; have hff := (HH.out _ hbw3).2.2.2.2))
        have hrow : Row w3 wr.heap.size l := by obtain ⟨_, e3, _, hr3⟩ := Row.of_own ho3 (by decide); injection e3 with e3; injection e3 with e3; rw [← e3] at hr3; exact hr3
        have hz3 : wr.heap.size < w3.heap.size := hrow.lt
        have hex : ∀ x, ext L w wr x → x < wr.heap.size := HR.out.lt
        have h4 := (HR.out.call hbw3).newFirm (M := ext L w w3) (k := m) (b := wr.heap.size) (c := 259) (l := l) hlt (fun hx => by have := hex _ hx; omega) hrow HE.out.2.2 (fun x hx => hx.imp id fun h => ⟨h.1, by omega⟩) (.inr ⟨HK.out.size, by omega⟩) (fun x hx => hx.elim (fun hl => by have := hex x (.inl hl); omega) (fun h => h.2))
        rw [← HE.out.1] at h4
        have hk4 : Keep L w (w3.setCell ⟨bf, m, none⟩ (.slice (some ⟨wr.heap.size, 0, none⟩) 256 259)) := (HK.out.call hbw3).setCell (a := ⟨bf, m, none⟩) (fun hlt => by
          have := HR.out.lbf.1
          rw [← HE.out.1] at this
          exact this.elim id fun h => by have : bf < w.heap.size := hlt; omega) _
        have hz4 : (w3.setCell ⟨bf, m, none⟩ (.slice (some ⟨wr.heap.size, 0, none⟩) 256 259)).heap.size = w3.heap.size := World.size_setCell _ _ _
        have hR4 : RD (w3.setCell ⟨bf, m, none⟩ (.slice (some ⟨wr.heap.size, 0, none⟩) 256 259)) p (ext L w (w3.setCell ⟨bf, m, none⟩ (.slice (some ⟨wr.heap.size, 0, none⟩) 256 259))) n { D1 with firm := mixL D1.now D1.firm (m + 1) } := by
          rw [← mixL_succ D1.now D1.firm n m [] HN.out.1 HN.out.2 hlt, ← HE.out.2.1]
          exact ⟨_, h4.more (fun x hx => hx.imp id fun h => ⟨h.1, by rw [hz4]; exact h.2⟩) (fun x hx => h4.lt x (hx.imp id fun h => ⟨h.1, by have := h.2; rw [hz4] at this; exact this⟩))⟩
        clear h4 hrow hz3 hex hfc hff ho3 hb3 hbw3 HC HH hpb
        have HF := Lib.hid (And.intro hR4 hk4); clear hR4 hk4 hz4
        generalize w3.setCell ⟨bf, m, none⟩ (.slice (some ⟨wr.heap.size, 0, none⟩) 256 259) = w4 at *
        clear HR HK HE
        go_wp2_with fail
        go_roundw
        case rel => exact ⟨m + 1, by omega, by go_num, HF.out.1, HF.out.2⟩
        case measure => simp [intOf]; omega
      · have hmn : m = n := by omega
        have hmi : ¬ (m : Int) < (n : Int) := by omega
        have hR5 : RDs S wr p (ext L w wr) n { D1 with firm := D1.now } := by have := HR.out; rwa [hmn, mixL_all D1.now D1.firm n HN.out.1 HN.out.2] at this
        clear hmn hlt hm
        have HR5 := Lib.hid hR5; clear hR5
        have d2 := HR.out.c2
        have f2 := HR.out.free 2
        go_upto_region 8 with fail
        clear d0
        go_upto_region 9 with fail
        have h6 := HR5.out.noWaits
        have hk6 : Keep L w (wr.setCell ⟨p, 2, none⟩ (.slice none 0 0)) := HK.out.setCell (a := ⟨p, 2, none⟩) (fun _ => hL) _
        have hz6 : (wr.setCell ⟨p, 2, none⟩ (.slice none 0 0)).heap.size = wr.heap.size := World.size_setCell _ _ _
        have HF : Hid (RD (wr.setCell ⟨p, 2, none⟩ (.slice none 0 0)) p (ext L w (wr.setCell ⟨p, 2, none⟩ (.slice none 0 0))) n { D1 with firm := D1.now, waits := [] } ∧ Keep L w (wr.setCell ⟨p, 2, none⟩ (.slice none 0 0))) :=
          Lib.hid ⟨⟨_, h6.more (fun x hx => hx.imp id fun h => ⟨h.1, by rw [hz6]; exact h.2⟩) (fun x hx => h6.lt x (hx.imp id fun h => ⟨h.1, by have := h.2; rw [hz6] at this; exact this⟩))⟩, hk6⟩
        clear h6 hk6 hz6 d2 f2
        generalize wr.setCell ⟨p, 2, none⟩ (.slice none 0 0) = w6 at *
        go_wp2_with fail
        go_ret
        exact ⟨rfl, HF.out⟩
  · rw [if_neg h0]
    have hEi : ¬ (E : Int) = 0 := by omega
    go_enter Try.func33, Try.ntmps33
    go_wp2_with fail
    refine HS.out.mono ?_
    rintro e w2 ⟨rfl, hrd, hk2⟩
    have HR := Lib.hid hrd; clear hrd
    have HK := Lib.hid hk2; clear hk2
    go_wp2_with fail
    go_ret
    exact ⟨rfl, HO.out _ _ HR.out HK.out, HK.out⟩
end Go.Proofs.Ytajplflefagbaaa
