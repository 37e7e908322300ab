/-
  Several texts in one:
  The document's device (layer 8): Sync.
  Crashes and foreign bytes, plain, step by step; a byte more in a row of a device (layer 8).
  The landed code's device (layer 8): Foreign. (Printed by wip/gen/dcforeign.py.)
-/
import Derived.Test.YtpepbffhhfgdpaaDkE
import Derived.Test.YtpepbffhhfgdpaaDcD
namespace Go.Proofs.Ytpepbffhhfgdpaa
open Go Go.RowKit
set_option linter.unusedVariables false
set_option linter.unusedSimpArgs false

/-- The first j of a, the rest of b. -/
def mixL {α : Type} (a b : List α) (j : Nat) : List α := a.take j ++ b.drop j
theorem mixL_zero {α : Type} (a b : List α) : mixL a b 0 = b := by simp [mixL]
theorem mixL_all {α : Type} (a b : List α) (n : Nat) (ha : a.length = n) (hb : b.length = n) : mixL a b n = a := by
  unfold mixL; rw [List.take_of_length_le (by omega), List.drop_of_length_le (by omega), List.append_nil]
theorem mixL_succ {α : Type} (a b : List α) (n j : Nat) (d : α) (ha : a.length = n) (hb : b.length = n) (hj : j < n) : (mixL a b j).set j (a.getD j d) = mixL a b (j + 1) := by
  unfold mixL
  rw [List.set_append_right _ _ (by rw [List.length_take]; omega), List.length_take, Nat.min_eq_left (by omega), Nat.sub_self]
  have h1 : b.drop j = b[j]'(by omega) :: b.drop (j + 1) := List.drop_eq_getElem_cons (by omega)
  have h2 : a.take (j + 1) = a.take j ++ [a[j]'(by omega)] := List.take_succ_eq_append_getElem (by omega)
  rw [h1, h2, List.set_cons_zero, List.append_assoc, List.getD_eq_getElem?_getD, List.getElem?_eq_getElem (by omega)]
  rfl
set_option maxRecDepth 100000 in
set_option maxHeartbeats 8000000 in
theorem rdsync_any (w : World) (p n : Nat) (L : Nat → Prop) (D : Dev) (h : RD w p L n D) (hnn : n ≤ 100000) :
    Calls Try.prog 40 #[.pointer (some ⟨p, 0, none⟩)] w fun e w' => e = .returned (.int .i64 (D.stepE : Int)) ∧ RD w' p (ext L w w') n D.sync ∧ Keep L w w' := by
  have more : ∀ (w' : World) (D' : Dev), RD w' p L n D' → Keep L w w' → RD w' p (ext L w w') n D' := fun w' D' h' hk => h'.more (fun b hb => .inl hb) (fun b hb => hb.elim (fun hl => Nat.lt_of_lt_of_le (h.lt b hl) hk.size) (fun hb => hb.2))
  have hs := rdstep_any w p n L D h
  have eW : D.sync = if D.stepE = 0 then { D.step with firm := D.step.now, waits := [] } else D.step := rfl
  rw [eW]
  have HS := Lib.hid hs; clear hs
  obtain ⟨E, hE⟩ : ∃ E, E = D.stepE := ⟨_, rfl⟩
  rw [← hE] at HS
  rw [← hE]
  obtain ⟨D1, hD1⟩ : ∃ D1, D1 = D.step := ⟨_, rfl⟩
  rw [← hD1] at HS
  rw [← hD1]
  have hL : L p := by obtain ⟨S, h⟩ := h; exact h.lp.1
  have HLT := Lib.hid h.lt
  have HO := Lib.hid more; clear more
  clear hE hD1 h eW
  by_cases h0 : E = 0
  · rw [if_pos h0]
    subst h0
    go_enter Try.func40, Try.ntmps40
    go_wp2_with fail
    refine HS.out.mono ?_
    rintro e w2 ⟨rfl, hrd, hk2⟩
    clear HS
    have HN : Hid (D1.now.length = n ∧ D1.firm.length = n) := Lib.hid ⟨hrd.ok.nl, hrd.ok.fl⟩
    have h20 : RD w2 p (ext L w w2) n { D1 with firm := mixL D1.now D1.firm 0 } := by rw [mixL_zero]; exact HO.out _ _ hrd hk2
    have HR := Lib.hid h20; clear h20 hrd
    have HK := Lib.hid hk2; clear hk2
    go_wp2_with fail
    go_loopw [4] (fun i wr => ∃ m : Nat, m ≤ n ∧ i = .int .i64 m ∧ RD wr p (ext L w wr) n { D1 with firm := mixL D1.now D1.firm m } ∧ Keep L w wr) (fun i _ => n - (intOf i).toNat)
    case atStart => exact ⟨0, Nat.zero_le _, rfl, HR.out, HK.out⟩
    case round =>
      rename_i wr _ _
      obtain ⟨m, hm, rfl, ⟨S, hrd⟩, hk⟩ := hrel
      clear HR HK w2
      have HR := Lib.hid hrd; clear hrd
      have HK := Lib.hid hk; clear hk
      have d0 := HR.out.c0
      by_cases hlt : m < n
      · have hrow := (HR.out.rn m hlt).rd
        have hlen := HR.out.ok.nr m hlt
        obtain ⟨bn, hbn⟩ : ∃ bn, bn = S.bn := ⟨_, rfl⟩
        obtain ⟨cn, hcn⟩ : ∃ cn, cn = S.cn := ⟨_, rfl⟩
        obtain ⟨bf, hbf⟩ : ∃ bf, bf = S.bf := ⟨_, rfl⟩
        obtain ⟨cf, hcf⟩ : ∃ cf, cf = S.cf := ⟨_, rfl⟩
        obtain ⟨gk, hgk⟩ : ∃ gk, gk = S.g m := ⟨_, rfl⟩
        obtain ⟨ck, hck⟩ : ∃ ck, ck = S.cg m := ⟨_, rfl⟩
        obtain ⟨hk, hhk⟩ : ∃ hk, hk = S.h m := ⟨_, rfl⟩
        obtain ⟨hc, hhc⟩ : ∃ hc, hc = S.ch m := ⟨_, rfl⟩
        obtain ⟨l, hl⟩ : ∃ l, l = D1.now.getD m [] := ⟨_, rfl⟩
        have hrow2 : Rd wr wr.heap.size (some ⟨gk, 0, none⟩) (vb l) := by rw [hgk, hl]; exact hrow
        have hlen2 : l.length = 256 := by rw [hl]; exact hlen
        clear hrow hlen
        have hheld : ∀ W : World, Below wr.heap.size wr W → W.cell? ⟨p, 1, none⟩ = some (.slice (some ⟨bf, 0, none⟩) n cf) ∧ W.cell? ⟨p, 0, none⟩ = some (.slice (some ⟨bn, 0, none⟩) n cn) ∧ W.cell? ⟨bn, m, none⟩ = some (.slice (some ⟨gk, 0, none⟩) 256 ck) ∧
            W.cell? ⟨bf, m, none⟩ = some (.slice (some ⟨hk, 0, none⟩) 256 hc) ∧ W.frozen? ⟨bf, m, none⟩ = false := fun W hb => by
          have := HR.out.call hb
          rw [hbn, hcn, hbf, hcf, hgk, hck, hhk, hhc]
          exact ⟨this.c1, this.c0, this.sn.cellAt m hlt, this.sf.cellAt m hlt, this.sf.free m⟩
        have HC : Hid (∀ W : World, Below wr.heap.size wr W → Calls Try.prog 10 #[.slice (some ⟨gk, 0, none⟩) 256 ck] W fun e w' => e = .returned (.slice (some ⟨W.heap.size, 0, none⟩) 256 259) ∧ w'.ownsRow W.heap.size 5 1 (.slice (some ⟨W.heap.size, 0, none⟩) 256 259) 256 (vb l) ∧ Below W.heap.size W w') :=
          Lib.hid fun W hb => copyx_any _ (vb l) 256 ck (by simp [vb, hlen2]) (vb_onec l) W (by decide) (hrow2.go hb)
        have hpb : Hid (p ≠ bf ∧ bn ≠ bf) := Lib.hid ⟨fun e => (by have h7 := HR.out.lp.2; rw [e, hbf, HR.out.lbf.2] at h7; cases h7), fun e => (by have h7 := HR.out.lbn.2; rw [← hbn, e, hbf, HR.out.lbf.2] at h7; cases h7)⟩
        rw [← hbn, ← hcn] at d0
        have HE := Lib.hid (And.intro hbf (And.intro hl hlen2)); clear hbn hcn hbf hcf hgk hck hhk hhc hl hlen2 hrow2
        have HH := Lib.hid hheld; clear hheld
        have hmi : (m : Int) < (n : Int) := by omega
        go_upto_region 7 with fail
        clear d0
        go_region_held3 (fun w' => w'.cell? ⟨p, 1, none⟩ = some (.slice (some ⟨bf, 0, none⟩) n cf) ∧ w'.cell? ⟨p, 0, none⟩ = some (.slice (some ⟨bn, 0, none⟩) n cn) ∧ w'.cell? ⟨bn, m, none⟩ = some (.slice (some ⟨gk, 0, none⟩) 256 ck))
          (first
            | exact ⟨(HH.out _ ((Below.refl _ _).drew)).1, (HH.out _ ((Below.refl _ _).drew)).2.1, (HH.out _ ((Below.refl _ _).drew)).2.2.1⟩
            | exact ⟨(HH.out _ (by assumption)).1, (HH.out _ (by assumption)).2.1, (HH.out _ (by assumption)).2.2.1⟩
            | exact ⟨(World.cell?_setCell_other _ _ _ _ (fun e => hpb.out.1 (congrArg Addr.block e).symm)).trans (HH.out _ (by assumption)).1, (World.cell?_setCell_other _ _ _ _ (fun e => hpb.out.1 (congrArg Addr.block e).symm)).trans (HH.out _ (by assumption)).2.1, (World.cell?_setCell_other _ _ _ _ (fun e => hpb.out.2 (congrArg Addr.block e).symm)).trans (HH.out _ (by assumption)).2.2.1⟩)
          ((go_at_call 10; refine (HC.out _ ((Below.refl _ _).drew)).mono ?_; rintro e w3 ⟨rfl, ho3, hb3⟩; have hbw3 : Below wr.heap.size wr w3 := (Below.refl _ _).drew.trans (hb3.mono (Nat.le_refl _)); have hfc := (HH.out _ hbw3).2.2.2.1; have hff := (HH.out _ hbw3).2.2.2.2))
        have hrow : Row w3 wr.heap.size l := by obtain ⟨_, e3, _, hr3⟩ := Row.of_own ho3 (by decide); injection e3 with e3; injection e3 with e3; rw [← e3] at hr3; exact hr3
        have hz3 : wr.heap.size < w3.heap.size := hrow.lt
        have hex : ∀ x, ext L w wr x → x < wr.heap.size := HR.out.lt
        have h4 := (HR.out.call hbw3).newFirm (M := ext L w w3) (k := m) (b := wr.heap.size) (c := 259) (l := l) hlt (fun hx => by have := hex _ hx; omega) hrow HE.out.2.2 (fun x hx => hx.imp id fun h => ⟨h.1, by omega⟩) (.inr ⟨HK.out.size, by omega⟩) (fun x hx => hx.elim (fun hl => by have := hex x (.inl hl); omega) (fun h => h.2))
        rw [← HE.out.1] at h4
        have hk4 : Keep L w (w3.setCell ⟨bf, m, none⟩ (.slice (some ⟨wr.heap.size, 0, none⟩) 256 259)) := (HK.out.call hbw3).setCell (a := ⟨bf, m, none⟩) (fun hlt => by
          have := HR.out.lbf.1
          rw [← HE.out.1] at this
          exact this.elim id fun h => by have : bf < w.heap.size := hlt; omega) _
        have hz4 : (w3.setCell ⟨bf, m, none⟩ (.slice (some ⟨wr.heap.size, 0, none⟩) 256 259)).heap.size = w3.heap.size := World.size_setCell _ _ _
        have hR4 : RD (w3.setCell ⟨bf, m, none⟩ (.slice (some ⟨wr.heap.size, 0, none⟩) 256 259)) p (ext L w (w3.setCell ⟨bf, m, none⟩ (.slice (some ⟨wr.heap.size, 0, none⟩) 256 259))) n { D1 with firm := mixL D1.now D1.firm (m + 1) } := by
          rw [← mixL_succ D1.now D1.firm n m [] HN.out.1 HN.out.2 hlt, ← HE.out.2.1]
          exact ⟨_, h4.more (fun x hx => hx.imp id fun h => ⟨h.1, by rw [hz4]; exact h.2⟩) (fun x hx => h4.lt x (hx.imp id fun h => ⟨h.1, by have := h.2; rw [hz4] at this; exact this⟩))⟩
        clear h4 hrow hz3 hex hfc hff ho3 hb3 hbw3 HC HH hpb
        have HF := Lib.hid (And.intro hR4 hk4); clear hR4 hk4 hz4
        generalize w3.setCell ⟨bf, m, none⟩ (.slice (some ⟨wr.heap.size, 0, none⟩) 256 259) = w4 at *
        clear HR HK HE
        go_wp2_with fail
        go_roundw
        case rel => exact ⟨m + 1, by omega, by go_num, HF.out.1, HF.out.2⟩
        case measure => simp [intOf]; omega
      · have hmn : m = n := by omega
        have hmi : ¬ (m : Int) < (n : Int) := by omega
        have hR5 : RDs S wr p (ext L w wr) n { D1 with firm := D1.now } := by have := HR.out; rwa [hmn, mixL_all D1.now D1.firm n HN.out.1 HN.out.2] at this
        clear hmn hlt hm
        have HR5 := Lib.hid hR5; clear hR5
        have d2 := HR.out.c2
        have f2 := HR.out.free 2
        go_upto_region 8 with fail
        clear d0
        go_upto_region 9 with fail
        have h6 := HR5.out.noWaits
        have hk6 : Keep L w (wr.setCell ⟨p, 2, none⟩ (.slice none 0 0)) := HK.out.setCell (a := ⟨p, 2, none⟩) (fun _ => hL) _
        have hz6 : (wr.setCell ⟨p, 2, none⟩ (.slice none 0 0)).heap.size = wr.heap.size := World.size_setCell _ _ _
        have HF : Hid (RD (wr.setCell ⟨p, 2, none⟩ (.slice none 0 0)) p (ext L w (wr.setCell ⟨p, 2, none⟩ (.slice none 0 0))) n { D1 with firm := D1.now, waits := [] } ∧ Keep L w (wr.setCell ⟨p, 2, none⟩ (.slice none 0 0))) :=
          Lib.hid ⟨⟨_, h6.more (fun x hx => hx.imp id fun h => ⟨h.1, by rw [hz6]; exact h.2⟩) (fun x hx => h6.lt x (hx.imp id fun h => ⟨h.1, by have := h.2; rw [hz6] at this; exact this⟩))⟩, hk6⟩
        clear h6 hk6 hz6 d2 f2
        generalize wr.setCell ⟨p, 2, none⟩ (.slice none 0 0) = w6 at *
        go_wp2_with fail
        go_ret
        exact ⟨rfl, HF.out⟩
  · rw [if_neg h0]
    have hEi : ¬ (E : Int) = 0 := by omega
    go_enter Try.func40, Try.ntmps40
    go_wp2_with fail
    refine HS.out.mono ?_
    rintro e w2 ⟨rfl, hrd, hk2⟩
    have HR := Lib.hid hrd; clear hrd
    have HK := Lib.hid hk2; clear hk2
    go_wp2_with fail
    go_ret
    exact ⟨rfl, HO.out _ _ HR.out HK.out, HK.out⟩
end Go.Proofs.Ytpepbffhhfgdpaa
namespace Go.Proofs.Ytpepbffhhfgdpaa
open Go Go.RowKit
set_option linter.unusedVariables false
set_option linter.unusedSimpArgs false

/-- The first k writes that wait have come through. -/
def crN (ws : List (Nat × List UInt8)) (ms : List Nat) (F : List (List UInt8)) : Nat → List (List UInt8)
  | 0 => F
  | k + 1 => (crN ws ms F k).set (ws.getD k (0, [])).1 (crL8 (ms.getD k 0) ((crN ws ms F k).getD (ws.getD k (0, [])).1 []) (ws.getD k (0, [])).2)
theorem crN_cons (i : Nat) (l : List UInt8) (ws : List (Nat × List UInt8)) (m : Nat) (ms : List Nat) (F : List (List UInt8)) : ∀ k, crN ((i, l) :: ws) (m :: ms) F (k + 1) = crN ws ms (F.set i (crL8 m (F.getD i []) l)) k
  | 0 => rfl
  | k + 1 => by rw [crN, crN_cons i l ws m ms F k]; rfl
theorem crF_N : ∀ (ws : List (Nat × List UInt8)) (ms : List Nat) (F : List (List UInt8)), crF ws ms F = crN ws ms F (min ws.length ms.length)
  | [], _, F => by simp [crF, crN]
  | (_, _) :: _, [], F => by simp [crF, crN]
  | (i, l) :: ws, m :: ms, F => by
    rw [crF, crF_N ws ms, List.length_cons, List.length_cons, Nat.succ_min_succ, crN_cons]
theorem crN_len (ws : List (Nat × List UInt8)) (ms : List Nat) (F : List (List UInt8)) : ∀ k, (crN ws ms F k).length = F.length
  | 0 => rfl
  | k + 1 => by rw [crN, List.length_set, crN_len ws ms F k]
theorem crN_row (ws : List (Nat × List UInt8)) (ms : List Nat) (F : List (List UInt8)) (n : Nat) (h : ∀ i, i < n → (F.getD i []).length = 256) : ∀ k i, i < n → ((crN ws ms F k).getD i []).length = 256
  | 0, i, hi => h i hi
  | k + 1, i, hi => by
    rw [crN, getD_set]
    split
    · exact crL8_len _ _ _
    · exact crN_row ws ms F n h k i hi
/-- The first j bytes of a block have come through. -/
def crJ (m : Nat) (old new : List UInt8) (j : Nat) : List UInt8 := (List.range 256).map fun k => if k < j ∧ m / 2 ^ (k / 64) % 2 = 1 then new.getD k 0 else old.getD k 0
theorem crJ_len (m : Nat) (old new : List UInt8) (j : Nat) : (crJ m old new j).length = 256 := by simp [crJ]
theorem crJ_zero (m : Nat) (old new : List UInt8) (h : old.length = 256) : crJ m old new 0 = old := by
  apply List.ext_getElem?
  intro i
  by_cases hi : i < 256
  · simp [crJ, hi, List.getD_eq_getElem?_getD, h]
  · rw [List.getElem?_eq_none (by rw [crJ_len]; omega), List.getElem?_eq_none (by omega)]
theorem crJ_all (m : Nat) (old new : List UInt8) : crJ m old new 256 = crL8 m old new := by
  unfold crJ crL8
  apply List.map_congr_left
  intro k hk
  have := List.mem_range.1 hk
  simp [this]
theorem crJ_get (m : Nat) (old new : List UInt8) (j k : Nat) (hk : k < 256) : (crJ m old new j)[k]? = some (if k < j ∧ m / 2 ^ (k / 64) % 2 = 1 then new.getD k 0 else old.getD k 0) := by simp [crJ, hk]
theorem crJ_no (m : Nat) (old new : List UInt8) (j : Nat) (h : ¬ m / 2 ^ (j / 64) % 2 = 1) : crJ m old new (j + 1) = crJ m old new j := by
  unfold crJ
  apply List.map_congr_left
  intro k hk
  by_cases e : k = j
  · subst e; rw [if_neg (fun hh => h hh.2), if_neg (fun hh => h hh.2)]
  · have : (k < j + 1 ∧ m / 2 ^ (k / 64) % 2 = 1) ↔ (k < j ∧ m / 2 ^ (k / 64) % 2 = 1) := by constructor <;> (rintro ⟨a, b⟩; exact ⟨by omega, b⟩)
    simp only [this]
theorem crJ_yes (m : Nat) (old new : List UInt8) (j : Nat) (hj : j < 256) (h : m / 2 ^ (j / 64) % 2 = 1) : (crJ m old new j).set j (new.getD j 0) = crJ m old new (j + 1) := by
  apply List.ext_getElem?
  intro k
  by_cases hk : k < 256
  · rw [List.getElem?_set, crJ_get m old new (j + 1) k hk]
    by_cases e : j = k
    · subst e; rw [if_pos rfl, if_pos (by rw [crJ_len]; exact hk), if_pos ⟨by omega, h⟩]
    · rw [if_neg e, crJ_get m old new j k hk]
      have : (k < j + 1 ∧ m / 2 ^ (k / 64) % 2 = 1) ↔ (k < j ∧ m / 2 ^ (k / 64) % 2 = 1) := by constructor <;> (rintro ⟨a, b⟩; exact ⟨by omega, b⟩)
      simp only [this]
  · rw [List.getElem?_eq_none (by rw [List.length_set, crJ_len]; omega), List.getElem?_eq_none (by rw [crJ_len]; omega)]
/-- The first j of the foreign bytes. -/
def ovJ (old : List UInt8) (a : Nat) (b : List UInt8) (j : Nat) : List UInt8 := (List.range old.length).map fun k => if a ≤ k ∧ k < a + j then b.getD (k - a) 0 else old.getD k 0
theorem ovJ_len (old : List UInt8) (a : Nat) (b : List UInt8) (j : Nat) : (ovJ old a b j).length = old.length := by simp [ovJ]
theorem ovJ_zero (old : List UInt8) (a : Nat) (b : List UInt8) : ovJ old a b 0 = old := by
  apply List.ext_getElem?
  intro i
  by_cases hi : i < old.length
  · have : ¬ (a ≤ i ∧ i < a + 0) := by omega
    simp only [ovJ, List.getElem?_map, List.getElem?_range hi, Option.map_some, if_neg this]
    rw [List.getD_eq_getElem?_getD, List.getElem?_eq_getElem hi]; rfl
  · rw [List.getElem?_eq_none (by rw [ovJ_len]; omega), List.getElem?_eq_none (by omega)]
theorem ovJ_all (old : List UInt8) (a : Nat) (b : List UInt8) : ovJ old a b b.length = over8 old a b := rfl
theorem ovJ_get (old : List UInt8) (a : Nat) (b : List UInt8) (j k : Nat) (hk : k < old.length) : (ovJ old a b j)[k]? = some (if a ≤ k ∧ k < a + j then b.getD (k - a) 0 else old.getD k 0) := by simp [ovJ, hk]
theorem ovJ_succ (old : List UInt8) (a : Nat) (b : List UInt8) (j : Nat) (hj : a + j < old.length) : (ovJ old a b j).set (a + j) (b.getD j 0) = ovJ old a b (j + 1) := by
  apply List.ext_getElem?
  intro k
  by_cases hk : k < old.length
  · rw [List.getElem?_set, ovJ_get old a b (j + 1) k hk]
    by_cases e : a + j = k
    · subst e; rw [if_pos rfl, if_pos (by rw [ovJ_len]; exact hk), if_pos ⟨by omega, by omega⟩, Nat.add_sub_cancel_left]
    · rw [if_neg e, ovJ_get old a b j k hk]
      have : (a ≤ k ∧ k < a + (j + 1)) ↔ (a ≤ k ∧ k < a + j) := by constructor <;> (rintro ⟨x, y⟩; exact ⟨x, by omega⟩)
      simp only [this]
  · rw [List.getElem?_eq_none (by rw [List.length_set, ovJ_len]; omega), List.getElem?_eq_none (by rw [ovJ_len]; omega)]

section
variable {S : Sh} {w w' : World} {p n : Nat} {L : Nat → Prop} {D : Dev}
/-- A byte of a block's firm row. -/
theorem RDs.setFirm (h : RDs S w p L n D) {i k : Nat} (hi : i < n) (hk : k < 256) (x : UInt8) :
    RDs S (w.setCell ⟨S.h i, k, none⟩ (.int .u8 (x.toNat : Int))) p L n { D with firm := D.firm.set i ((D.firm.getD i []).set k x) } := by
  have nb : ∀ y, S.K y ≠ 10 * i + 14 → y ≠ S.h i := fun y hy e => hy (by rw [e]; exact (h.lh i hi).2)
  have hk' : ∀ y, y ≠ S.h i → (w.setCell ⟨S.h i, k, none⟩ (.int .u8 (x.toNat : Int))).heap[y]? = w.heap[y]? := fun y hy => heap_setCell_other _ _ _ _ hy
  refine ⟨⟨h.ok.nl, by simp [h.ok.fl], h.ok.nr, ?_, h.ok.wl, h.ok.fs, h.ok.cs, h.ok.ss⟩, (hk' _ (nb _ (by rw [h.lp.2]; omega))).trans h.hp, h.lp, h.lbn, h.lbf, h.lg, h.lh, h.lq, h.lw, h.sn.keep (hk' _ (nb _ (by rw [h.lbn.2]; omega))), h.sf.keep (hk' _ (nb _ (by rw [h.lbf.2]; omega))),
    fun j hj => (h.rn j hj).keep (hk' _ (nb _ (by rw [(h.lg j hj).2]; omega))), ?_, fun j hj => (h.rq j hj).keep (hk' _ (nb _ (by rw [(h.lq j hj).2]; omega))), own_same h.ww fun b hb => hk' _ (nb _ (by rw [(h.lw b hb).2]; omega)), fun b hb => by rw [World.size_setCell]; exact h.lt b hb⟩
  · intro j hj
    show ((D.firm.set i _).getD j []).length = 256
    rw [getD_set]
    split
    · rw [List.length_set]; exact h.ok.fr i hi
    · exact h.ok.fr j hj
  · intro j hj
    show Row _ (S.h j) ((D.firm.set i _).getD j [])
    rw [getD_set, h.ok.fl]
    by_cases e : j = i
    · subst e; rw [if_pos ⟨rfl, hj⟩]; exact (h.rf j hj).set k (by rw [h.ok.fr j hj]; exact hk) x
    · rw [if_neg (fun hh => e hh.1)]; exact (h.rf j hj).keep (hk' _ (nb _ (by rw [(h.lh j hj).2]; omega)))
/-- A byte of what a block tells. -/
theorem RDs.setNow (h : RDs S w p L n D) {i k : Nat} (hi : i < n) (hk : k < 256) (x : UInt8) :
    RDs S (w.setCell ⟨S.g i, k, none⟩ (.int .u8 (x.toNat : Int))) p L n { D with now := D.now.set i ((D.now.getD i []).set k x) } := by
  have nb : ∀ y, S.K y ≠ 10 * i + 13 → y ≠ S.g i := fun y hy e => hy (by rw [e]; exact (h.lg i hi).2)
  have hk' : ∀ y, y ≠ S.g i → (w.setCell ⟨S.g i, k, none⟩ (.int .u8 (x.toNat : Int))).heap[y]? = w.heap[y]? := fun y hy => heap_setCell_other _ _ _ _ hy
  refine ⟨⟨by simp [h.ok.nl], h.ok.fl, ?_, h.ok.fr, h.ok.wl, h.ok.fs, h.ok.cs, h.ok.ss⟩, (hk' _ (nb _ (by rw [h.lp.2]; omega))).trans h.hp, h.lp, h.lbn, h.lbf, h.lg, h.lh, h.lq, h.lw, h.sn.keep (hk' _ (nb _ (by rw [h.lbn.2]; omega))), h.sf.keep (hk' _ (nb _ (by rw [h.lbf.2]; omega))),
    ?_, fun j hj => (h.rf j hj).keep (hk' _ (nb _ (by rw [(h.lh j hj).2]; omega))), fun j hj => (h.rq j hj).keep (hk' _ (nb _ (by rw [(h.lq j hj).2]; omega))), own_same h.ww fun b hb => hk' _ (nb _ (by rw [(h.lw b hb).2]; omega)), fun b hb => by rw [World.size_setCell]; exact h.lt b hb⟩
  · intro j hj
    show ((D.now.set i _).getD j []).length = 256
    rw [getD_set]
    split
    · rw [List.length_set]; exact h.ok.nr i hi
    · exact h.ok.nr j hj
  · intro j hj
    show Row _ (S.g j) ((D.now.set i _).getD j [])
    rw [getD_set, h.ok.nl]
    by_cases e : j = i
    · subst e; rw [if_pos ⟨rfl, hj⟩]; exact (h.rn j hj).set k (by rw [h.ok.nr j hj]; exact hk) x
    · rw [if_neg (fun hh => e hh.1)]; exact (h.rn j hj).keep (hk' _ (nb _ (by rw [(h.lg j hj).2]; omega)))
end
/-- A slice that is owned, of elements of any size. -/
theorem Rd.of_own1 {w : World} {base e sz n : Nat} {v : Value} {xs : List Value} (h : w.ownsRow base e sz v n xs) : ∃ A c, v = .slice A n c ∧ n ≤ c ∧ (0 < n → ∃ g, A = some ⟨g, 0, none⟩) := by
  obtain ⟨_, hv⟩ := h
  rcases hv with ⟨rfl, rfl⟩ | ⟨g, cap, cur, rfl, _, _, hc, _⟩
  · exact ⟨none, 0, rfl, Nat.le_refl _, fun h => absurd h (Nat.lt_irrefl 0)⟩
  · exact ⟨_, cap, rfl, hc, fun _ => ⟨g, rfl⟩⟩
theorem set_set {α : Type} (l : List α) (i : Nat) (a b : α) : (l.set i a).set i b = l.set i b := by simp
theorem set_get {α : Type} (l : List α) (i : Nat) (d : α) (h : i < l.length) : l.set i (l.getD i d) = l := by
  rw [List.getD_eq_getElem?_getD, List.getElem?_eq_getElem h]; simp
end Go.Proofs.Ytpepbffhhfgdpaa
namespace Go.Proofs.Ytpepbffhhfgdpaa
open Go Go.RowKit
set_option linter.unusedVariables false
set_option linter.unusedSimpArgs false

/-- Only the two rows of blocks are others. -/
theorem CDs.rows {S : Cs} {w w' : World} {d n : Nat} {L : Nat → Prop} {D D' : Dev} (h : CDs S w d L n D) (ok : D'.Ok n) (e3 : D'.waits = D.waits) (e4 : D'.steps = D.steps ∧ D'.fail = D.fail ∧ D'.cut = D.cut ∧ D'.down = D.down)
    (inv : ∀ i, i < n → (∀ k, k < D.waits.length → (D.waits.getD k (0, [])).1 ≠ i) → D'.now.getD i [] = D'.firm.getD i [])
    (h1 : Fr w' S.bn 81 (n * 256) (bF D'.now)) (h2 : Fr w' S.bf 81 (n * 256) (bF D'.firm)) (hk : ∀ b, b < w.heap.size → b ≠ S.bn → b ≠ S.bf → w'.heap[b]? = w.heap[b]?) (hs : w.heap.size ≤ w'.heap.size) : CDs S w' d L n D' := by
  obtain ⟨a1, a2, a3, a4⟩ := e4
  refine ⟨ok, h.n4, h.cc, by rw [a1]; exact h.ss, by rw [a1, a2]; exact h.rf, by rw [a1, a3]; exact h.rc, by rw [e3]; exact inv, ?_, h.ld, h.ne, h.lw, h1, h2, ?_, fun b hb => Nat.lt_of_lt_of_le (h.lt b hb) hs⟩
  · have e : cCells S n D' = cCells S n D := by unfold cCells; rw [a1, a4]
    rw [e]
    exact (hk d (h.lt d h.ld.1) (fun e => h.ne.1 e.symm) (fun e => h.ne.2.1 e.symm)).trans h.hp
  · rw [e3]
    exact own_same h.ww fun b hb => hk b (h.lt b (h.lw b hb).1) (h.lw b hb).2.2.1 (h.lw b hb).2.2.2
theorem vb_oneC (l : List UInt8) : ∀ v ∈ vb l, v.oneCell' = true := fun v hv => by obtain ⟨b, _, rfl⟩ := List.mem_map.1 hv; rfl
theorem u8_one : (Try.prog.info? 5).map (·.size) = some 1 := by kernel_rfl
/-- 'b[a:]' of an array. -/
def cutA (b o a : Nat) : Option Addr := if a = 256 then some ⟨b, o, none⟩ else some ⟨b, o + a, none⟩
theorem run_cutA (b o a : Nat) (h : a ≤ 256) (W : World) : (Instr.sliceAt 81 (.pointer (some ⟨b, o, none⟩)) (some (.int .i64 (a : Int))) none none).run Try.prog W = .ok (.slice (cutA b o a) (256 - a) (256 - a)) W := by
  have hu := Try.underlying81
  have hs : (sizeOf 5).run Try.prog W = .ok 1 W := by
    have := u8_one
    cases hi : Try.prog.info? 5 with
    | none => rw [hi] at this; cases this
    | some i => rw [hi] at this; simp at this; simp [sizeOf, typeInfo, hi, this]
  have h0 : (a : Int) ≤ 256 := by omega
  by_cases e : a = 256
  · subst e
    simp [Instr.sliceAt, Instr.sureAddr, run_underlying hu, Instr.sliceBounds, run_sliceBound, hs, cutA]
  · simp [Instr.sliceAt, Instr.sureAddr, run_underlying hu, Instr.sliceBounds, run_sliceBound, hs, cutA, e, h0, show ¬ 256 = a from fun h => e h.symm, Addr.add_mid]
set_option maxRecDepth 100000 in
set_option maxHeartbeats 16000000 in
theorem cdforeign_any (w : World) (d n : Nat) (L : Nat → Prop) (D : Dev) (h : CD w d L n D) (i at_ : Int) (hi : -9223372036854775808 ≤ i ∧ i ≤ 9223372036854775807) (ha : -9223372036854775808 ≤ at_ ∧ at_ ≤ 9223372036854775807) (A : Option Addr) (b : List UInt8) (len cap : Nat) (hn : b.length = len) (hc : len ≤ cap) (hl : len ≤ 140737488351232) (hr : Rd w w.heap.size A (vb b)) (hA : b.length ≠ 0 → ∀ ad, A = some ad → ¬ L ad.block) :
    Calls Try.prog 42 #[.pointer (some ⟨d, 0, none⟩), .int .i64 i, .int .i64 at_, .slice A len cap] w fun e w' => e = .returned (.int .i64 (forE n i at_ b.length : Int)) ∧ CD w' d (ext L w w') n (D.foreign n i at_ b) ∧ Keep L w w' := by
  obtain ⟨S, h⟩ := h
  have hh := cdhas_any S w d n L D i h
  have hno : forB n i at_ b.length = false → forE n i at_ b.length = 2 ∧ D.foreign n i at_ b = D := fun h => by
    unfold forE Dev.foreign
    rw [h]; exact ⟨rfl, rfl⟩
  by_cases h1 : hasB n i = true
  · rw [h1] at hh
    have HH := Lib.hid hh; clear hh
    by_cases h2 : 0 ≤ at_
    · by_cases h4 : at_ + (len : Int) ≤ 256
      · have hf : forB n i at_ b.length = true := by unfold forB; rw [h1, hn]; simp [h2, h4]
        have eE : forE n i at_ b.length = 0 := by unfold forE; rw [if_pos hf]
        have eW : D.foreign n i at_ b = { D with now := D.now.set i.toNat (over8 (D.now.getD i.toNat []) at_.toNat b), firm := D.firm.set i.toNat (over8 (D.firm.getD i.toNat []) at_.toNat b) } := by unfold Dev.foreign; rw [if_pos hf]
        have hok := h.ok.foreign i at_ b
        rw [eW] at hok
        rw [eE, eW]
        obtain ⟨i0, i1⟩ := (hasB_iff n i).1 h1
        obtain ⟨k, rfl⟩ : ∃ k : Nat, i = (k : Int) := ⟨i.toNat, by omega⟩
        obtain ⟨a, rfl⟩ : ∃ a : Nat, at_ = (a : Int) := ⟨at_.toNat, by omega⟩
        rw [Int.toNat_natCast, Int.toNat_natCast] at hok ⊢
        have hk : k < n := by omega
        have hal : a + len ≤ 256 := by omega
        have hki : (k : Int) < (n : Int) := by omega
        have hwr : IntKind.i64.wrap (256 - (a : Int)) = 256 - (a : Int) := IntWalk.i64_in _ (by omega)
        have hle : ¬ (256 : Int) - (a : Int) < (len : Int) := by omega
        have d0 := h.c0
        have d1 := h.c1
        have hn1 := h.ok.nr k hk
        have hn2 := h.ok.fr k hk
        have hln := h.ok.nl
        have hlf := h.ok.fl
        have HFN : Hid (Fr w S.bn 81 (n * 256) (bF D.now)) := Lib.hid h.rn
        have HFF : Hid (Fr w S.bf 81 (n * 256) (bF D.firm)) := Lib.hid h.rr
        have HNE := Lib.hid h.ne
        have HSRC : Hid (∀ W : World, Turn S.bn w W → 0 < (vb b).length → ∃ ad, A = some ad ∧ ∀ j v, (vb b)[j]? = some v → W.cell? (ad.add j) = some v) := Lib.hid fun W hW h0 => by
          obtain ⟨ad, e, hlt, hcs⟩ := hr h0
          refine ⟨ad, e, fun j v hj => ?_⟩
          have h0' : b.length ≠ 0 := by rw [List.length_map] at h0; omega
          exact (hW.cell (p := ad.add j) (fun e2 => by rw [add_block] at e2; exact hA h0' ad e (by rw [e2]; exact h.ld.2.1))).trans (hcs j v hj)
        have HFIN : Hid (∀ W W2 : World, Fr W S.bn 81 (n * 256) (layF (bF D.now) (k * 256 + a) (vb b)) → Turn S.bn w W → Fr W2 S.bf 81 (n * 256) (layF (bF D.firm) (k * 256 + a) (vb b)) → Turn S.bf W W2 →
            CD W2 d (ext L w W2) n { D with now := D.now.set k (over8 (D.now.getD k []) a b), firm := D.firm.set k (over8 (D.firm.getD k []) a b) } ∧ Keep L w W2) := Lib.hid fun W W2 g1 t1 g2 t2 => by
          have hfin := h.rows (w' := W2) (D' := { D with now := D.now.set k (over8 (D.now.getD k []) a b), firm := D.firm.set k (over8 (D.firm.getD k []) a b) }) hok rfl ⟨rfl, rfl, rfl, rfl⟩ (fun i hi' hno' => by
            show (D.now.set k _).getD i [] = (D.firm.set k _).getD i []
            rw [getD_set, getD_set, hln, hlf]
            by_cases e : i = k
            · subst e; rw [if_pos ⟨rfl, hk⟩, if_pos ⟨rfl, hk⟩, h.inv i hi' hno']
            · rw [if_neg (fun h => e h.1), if_neg (fun h => e h.1)]; exact h.inv i hi' hno')
            ((g1.turn t2 h.ne.2.2).congr fun j _ => bF_over D.now k a b (by omega) hn1 (by omega) j) (g2.congr fun j _ => bF_over D.firm k a b (by omega) hn2 (by omega) j)
            (fun x _ x1 x2 => (t2.block x x2).trans (t1.block x x1)) (by rw [t2.size, t1.size]; exact Nat.le_refl _)
          exact ⟨hfin.ext h.lt (by rw [t2.size, t1.size]; exact Nat.le_refl _), Turn.keep (t1.keepL h.ld.2.1) t2 fun _ => h.ld.2.2⟩
        have HC0 : Hid (a ≤ 256) := Lib.hid (by omega)
        have HC1 : Hid ((vb b).length = Nat.min len (256 - a)) := Lib.hid (by rw [List.length_map, hn]; exact (Nat.min_eq_left (by omega)).symm)
        have HC2 : Hid (k * 256 + a + (vb b).length ≤ n * 256) := Lib.hid (by rw [List.length_map, hn]; omega)
        have HP1 : Hid (∀ (W : World) (x : Nat), Turn S.bn w W → 0 < (vb b).length → cutA x (k * 256) a = some ⟨x, k * 256 + a, none⟩ ∧ ∃ ad, A = some ad ∧ ∀ j v, (vb b)[j]? = some v → W.cell? (ad.add j) = some v) := Lib.hid fun W x hW h0 => ⟨by unfold cutA; rw [if_neg (by rw [List.length_map] at h0; omega)], HSRC.out W hW h0⟩
        have HNE2 : Hid (S.bf ≠ S.bn) := Lib.hid fun e => h.ne.2.2 e.symm
        have HDB : Hid (d ≠ S.bn) := Lib.hid fun e => h.ne.1 e.symm
        clear hok HSRC
        obtain ⟨bn, hbn⟩ : ∃ bn, bn = S.bn := ⟨_, rfl⟩
        obtain ⟨cn, hcn⟩ : ∃ cn, cn = S.cn := ⟨_, rfl⟩
        obtain ⟨bf, hbf⟩ : ∃ bf, bf = S.bf := ⟨_, rfl⟩
        obtain ⟨cf, hcf⟩ : ∃ cf, cf = S.cf := ⟨_, rfl⟩
        rw [← hbn, ← hcn] at d0
        rw [← hbf, ← hcf] at d1
        rw [← hbn] at HFN HP1 HNE2 HDB
        rw [← hbf] at HFF HNE2
        rw [← hbn, ← hbf] at HNE HFIN
        clear h eE eW hf h1 hno hn1 hn2 hln hlf hr hA h4 hn hk hal hbn hcn hbf hcf
        go_enter Try.func42, Try.ntmps42
        go_wp2_with fail
        refine HH.out.mono ?_
        rintro e w1 ⟨rfl, ew⟩
        have ew := ew.symm
        subst ew
        clear HH
        have hcut := fun (W : World) (x : Nat) => run_cutA x (k * 256) a HC0.out W
        go_wp2_with (first
          | ((with_reducible show wpList _ _ _ (⟨some 35, _, _, _, _, _⟩ :: _) _ _); refine wpList_copy_fr (o := ⟨some 35, _, _, _, _, _⟩) rfl (.tmp 33) (.tmp 34) 31 31 rfl 5 Try.underlying31 u8_one (cutA bn (k * 256) a) _ (256 - a) (256 - a) len cap rfl rfl bn (k * 256 + a) (n * 256) 81 (bF D.now) HFN.out (vb b) HC1.out (HP1.out _ _ (Turn.refl _ _)) HC2.out (vb_oneC b) ?_; intro w2 HF1 HT1; have d1' := (HT1.out.cell (p := ⟨d, 1, none⟩) HDB.out).trans d1)
          | ((with_reducible show wpList _ _ _ (⟨some 45, _, _, _, _, _⟩ :: _) _ _); refine wpList_copy_fr (o := ⟨some 45, _, _, _, _, _⟩) rfl (.tmp 43) (.tmp 44) 31 31 rfl 5 Try.underlying31 u8_one (cutA bf (k * 256) a) _ (256 - a) (256 - a) len cap rfl rfl bf (k * 256 + a) (n * 256) 81 (bF D.firm) (HFF.out.turn HT1.out HNE2.out) (vb b) HC1.out (HP1.out _ _ HT1.out) HC2.out (vb_oneC b) ?_; intro w3 HF2 HT2))
        go_ret
        exact ⟨rfl, HFIN.out _ _ HF1.out HT1.out HF2.out HT2.out⟩
      · have hz := hno (by unfold forB; rw [h1, hn]; simp; omega)
        rw [hz.1, hz.2]
        have HF := Lib.hid (And.intro (h.ext h.lt (Nat.le_refl _)) (Keep.refl L w))
        have hgt : (256 : Int) - at_ < (len : Int) := by omega
        clear h hno h1 hr hA hz h4 hn
        go_enter Try.func42, Try.ntmps42
        go_wp2_with fail
        refine HH.out.mono ?_
        rintro e w1 ⟨rfl, ew⟩
        have ew := ew.symm
        subst ew
        go_wp2_with fail
        go_ret
        exact ⟨rfl, HF.out⟩
    · have hz := hno (by unfold forB; rw [h1, hn]; simp; omega)
      rw [hz.1, hz.2]
      have HF := Lib.hid (And.intro (h.ext h.lt (Nat.le_refl _)) (Keep.refl L w))
      have hlt : at_ < 0 := by omega
      clear h hno h1 hr hA hz h2 hn
      go_enter Try.func42, Try.ntmps42
      go_wp2_with fail
      refine HH.out.mono ?_
      rintro e w1 ⟨rfl, ew⟩
      have ew := ew.symm
      subst ew
      go_wp2_with fail
      go_ret
      exact ⟨rfl, HF.out⟩
  · have h2 : hasB n i = false := by simpa using h1
    rw [h2] at hh
    have HH := Lib.hid hh; clear hh
    have hz := hno (by unfold forB; rw [h2]; rfl)
    rw [hz.1, hz.2]
    have HF := Lib.hid (And.intro (h.ext h.lt (Nat.le_refl _)) (Keep.refl L w))
    clear h hno h1 hr hA hz h2 hn
    go_enter Try.func42, Try.ntmps42
    go_wp2_with fail
    refine HH.out.mono ?_
    rintro e w1 ⟨rfl, ew⟩
    have ew := ew.symm
    subst ew
    go_wp2_with fail
    go_ret
    exact ⟨rfl, HF.out⟩
end Go.Proofs.Ytpepbffhhfgdpaa
