/-
  What the laws of layer 8 stand on: full blocks, the write that comes through in part.
-/
import Derived.Test.YtajplflefagbaaaDkG
namespace Go.Proofs.Ytajplflefagbaaa
open Go Go.RowKit
set_option linter.unusedVariables false
set_option linter.unusedSimpArgs false

theorem own_cap8 {w : World} {base e n c : Nat} {A : Option Addr} {xs : List Value} (h : w.ownsRow base e 1 (.slice A n c) n xs) : n ≤ c := by
  obtain ⟨A', c', e, hc, _⟩ := Rd.of_own1 h
  injection e with _ _ e3
  omega
def fullB (x : UInt8) : List UInt8 := List.replicate 256 x
theorem fullB_len (x : UInt8) : (fullB x).length = 256 := List.length_replicate
theorem fullB_at (x : UInt8) (k : Nat) (hk : k < 256) : (fullB x).getD k 0 = x := getD_rep _ _ _ _ hk
/-- The first j are x. -/
def fuJ (x : UInt8) (j : Nat) : List UInt8 := List.replicate j x ++ List.replicate (256 - j) 0
theorem fuJ_len (x : UInt8) (j : Nat) (hj : j ≤ 256) : (fuJ x j).length = 256 := by simp [fuJ]; omega
theorem fuJ_set (x : UInt8) (j : Nat) (hj : j < 256) : (fuJ x j).set j x = fuJ x (j + 1) := by
  unfold fuJ
  rw [List.set_append_right _ _ (by simp), List.length_replicate, Nat.sub_self, show 256 - j = (256 - (j + 1)) + 1 from by omega, List.replicate_succ, List.set_cons_zero, List.replicate_succ', List.append_assoc]
  rfl
set_option maxRecDepth 100000 in
set_option maxHeartbeats 4000000 in
theorem full_any (x : UInt8) (w : World) :
    Calls Try.prog 29 #[.int .u8 (x.toNat : Int)] w fun e w' => ∃ v, e = .returned v ∧ w'.ownsRow w.heap.size 5 1 v 256 (vb (fullB x)) ∧ Below w.heap.size w w' := by
  obtain ⟨i0, hi, hz0, hz1, hz2⟩ := info_parts info_b
  go_enter Try.func29, Try.ntmps29
  go_wp2_with (at_make; refine wpList_make_full _ rfl _ _ 34 rfl w.heap.size 5 i0 (.int .u8 0) 1 Try.underlying34 hi hz0 hz1 .i64 .i64 _ _ 256 rfl rfl rfl rfl (by rw [hz2]; omega) (by unfold maxLen; omega) (Nat.le_refl _) ?_; intro w0 hown0 hgrow0)
  have hown1 : w0.ownsRow w.heap.size 5 1 (.slice (some ⟨w.heap.size, 0, none⟩) 256 256) 256 (vb (fuJ x 0)) := by
    have e : (madeCells (Value.int .u8 0).cells (256 * 1)).toList = vb (fuJ x 0) := by
      rw [show (Value.int .u8 0).cells = #[Value.int .u8 0] from rfl, toList_madeCells_one]
      unfold fuJ vb
      rw [List.replicate_zero, List.nil_append, List.map_replicate]
      rfl
    rw [← e]; exact hown0
  have hb0 : Below w.heap.size w w0 := (Below.refl _ _).grown hgrow0 (Nat.le_refl _) (by simp)
  clear hown0 hgrow0
  have H0 := Lib.hid (And.intro hown1 hb0); clear hown1 hb0
  go_loopw [8] (fun i wr => ∃ m : Nat, m ≤ 256 ∧ i = .int .i64 m ∧
      wr.ownsRow w.heap.size 5 1 (.slice (some ⟨w.heap.size, 0, none⟩) 256 256) 256 (vb (fuJ x m)) ∧ Below w.heap.size w wr) (fun i _ => 256 - (intOf i).toNat)
  case atStart => exact ⟨0, Nat.zero_le _, rfl, H0.out⟩
  case round =>
    rename World => wr
    obtain ⟨m, hm, rfl, hown, hb⟩ := hrel
    clear H0
    by_cases hlt : m < 256
    · have hfz := hown.frozenAt m
      have hce := (hown.cellAt m (by omega)).trans (List.getElem?_eq_getElem (by rw [List.length_map, fuJ_len x m (by omega)]; exact hlt))
      have hst := hown.stored m (.int .u8 (x.toNat : Int))
      have hse : (vb (fuJ x m)).set m (.int .u8 (x.toNat : Int)) = vb (fuJ x (m + 1)) := by rw [← fuJ_set x m hlt]; simp [vb, List.map_set]
      rw [hse] at hst
      have HST := Lib.hid hst; clear hst hse
      have hmi : (m : Int) < 256 := by omega
      go_wp2_with fail
      go_roundw
      case rel => exact ⟨m + 1, by omega, by go_num, HST.out.1, hb.grown HST.out.2 hb.size (by simp)⟩
      case measure => simp [intOf]; omega
    · have hmi : ¬ (m : Int) < 256 := by omega
      have hme : m = 256 := by omega
      have hf : wr.ownsRow w.heap.size 5 1 (.slice (some ⟨w.heap.size, 0, none⟩) 256 256) 256 (vb (fullB x)) := by
        rw [hme] at hown
        have e : fuJ x 256 = fullB x := by simp [fuJ, fullB]
        rwa [e] at hown
      have HF := Lib.hid hf; clear hf hown hme
      go_wp2_with fail
      go_ret
      exact ⟨_, rfl, HF.out, hb⟩

theorem crL8_at (m : Nat) (old new : List UInt8) (k : Nat) (hk : k < 256) : (crL8 m old new).getD k 0 = if m / 2 ^ (k / 64) % 2 = 1 then new.getD k 0 else old.getD k 0 := by
  simp [crL8, List.getD_eq_getElem?_getD, hk]
theorem zeroB_at (k : Nat) (hk : k < 256) : zeroB.getD k 0 = 0 := getD_rep _ _ _ _ hk
theorem kn_has : hasB 8 1 = true := rfl
theorem kn_E : (Dev.new 8).stepE = 0 := rfl
theorem kn_wE : (Dev.new 8).writeE 8 1 (fullB 7) = 0 := by unfold Dev.writeE; rw [if_pos ⟨kn_has, fullB_len 7⟩]; rfl
theorem kn_w : (Dev.new 8).write 8 1 (fullB 7) = (Dev.new 8).step.put 1 (fullB 7) := by unfold Dev.write; rw [if_pos ⟨kn_has, fullB_len 7⟩, if_pos kn_E]; rfl
theorem kn_wl : ((Dev.new 8).write 8 1 (fullB 7)).waits.length = 1 := by rw [kn_w]; rfl
theorem kn_now : (((Dev.new 8).write 8 1 (fullB 7)).crash [2]).readB 8 1 = crL8 2 zeroB (fullB 7) := by
  rw [kn_w]
  have e : (((Dev.new 8).step.put 1 (fullB 7)).crash [2]).readE 8 1 = 0 := rfl
  unfold Dev.readB
  rw [if_pos e]
  show (((List.replicate 8 zeroB).set 1 (crL8 2 ((List.replicate 8 zeroB).getD 1 []) (fullB 7))).getD 1 []) = _
  rw [getD_set, if_pos ⟨rfl, by simp⟩, getD_rep _ _ _ _ (by decide)]
theorem kn_E2 : (((Dev.new 8).write 8 1 (fullB 7)).crash [2]).readE 8 1 = 0 := by rw [kn_w]; rfl
theorem Keep.toBelow {L : Nat → Prop} {B : Nat} {w0 w w' : World} (h : Below B w0 w) (hk : Keep L w w') (hL : ∀ b, L b → B ≤ b) (hB : B ≤ w.heap.size) : Below B w0 w' := h.trans (hk.below hL hB)
set_option maxRecDepth 100000 in
set_option maxHeartbeats 8000000 in
theorem known08_any (w : World) : Calls Try.prog 10 #[] w fun e w' => e = .returned (.bool true) ∧ Below w.heap.size w w' := by
  have hnew := cdnew_any w 8 (by decide) (by decide)
  rw [show ((8 : Nat) : Int) = 8 from rfl] at hnew
  have HN := Lib.hid hnew; clear hnew
  have HFU : Hid (∀ W : World, Calls Try.prog 29 #[.int .u8 7] W fun e w' => ∃ v, e = .returned v ∧ w'.ownsRow W.heap.size 5 1 v 256 (vb (fullB 7)) ∧ Below W.heap.size W w') := Lib.hid fun W => full_any 7 W
  go_enter Try.func10, Try.ntmps10
  go_wp2_with fail
  refine HN.out.mono ?_
  rintro e w1 ⟨d, rfl, hcd, hb1⟩
  have HC := Lib.hid hcd; clear hcd
  have HB1 := Lib.hid hb1; clear hb1 HN
  go_wp2_with fail
  refine (HFU.out w1).mono ?_
  rintro e w2 ⟨v, rfl, ho2, hb2⟩
  obtain ⟨A2, c2, rfl, _, hr2⟩ := Rd.of_own ho2
  have hc2 := own_cap8 ho2
  have hA2 : ∀ ad, A2 = some ad → ¬ (w.heap.size ≤ ad.block ∧ ad.block < w1.heap.size) := fun ad e h => by
    have := (ho2.lt ad.block (by rw [e]; rfl)).1
    omega
  have hcw := cdwrite_any w2 d 8 _ _ (HC.out.call hb2) 1 A2 (fullB 7) 256 c2 (fullB_len 7) hc2 (by decide) hr2 (fun _ => hA2) (Nat.zero_le _)
  rw [kn_wE] at hcw
  have HW := Lib.hid hcw; clear hcw ho2 hr2 hA2 hc2
  have HB2 := Lib.hid (HB1.out.trans (hb2.mono HB1.out.size)); clear hb2
  have hz2 : w.heap.size ≤ w2.heap.size := HB2.out.size
  have hz1 := HB1.out.size
  go_wp2_with fail
  refine HW.out.mono ?_
  rintro e w3 ⟨rfl, hcd3, hk3⟩
  have HB3 : Hid (Below w.heap.size w w3) := Lib.hid (Keep.toBelow HB2.out hk3 (fun b hb => hb.1) HB2.out.size)
  have HC3 := Lib.hid hcd3; clear hcd3 hk3 HW HC HB2
  have hwt := cdwaiting_any w3 d 8 _ _ HC3.out (by rw [kn_wl]; decide)
  rw [kn_wl] at hwt
  have HWT := Lib.hid hwt; clear hwt
  go_wp2_with fail
  refine HWT.out.mono ?_
  rintro e w4 ⟨rfl, hb4⟩
  have HC4 := Lib.hid (HC3.out.call hb4)
  have HB4 := Lib.hid (HB3.out.trans (hb4.mono HB3.out.size)); clear hb4 HC3 HB3 HWT
  go_wp2_with fail
  have hb5 : Below w4.heap.size w4 (w4.alloc (.cells #[.int .u8 2] 5)) := (Below.refl _ _).alloc (Nat.le_refl _) _
  have hm5 : (w4.alloc (.cells #[.int .u8 2] 5)).heap[w4.heap.size]? = some (.cells #[.int .u8 2] 5 (0, 0)) := heap_alloc_new _ _
  have hz5 : (w4.alloc (.cells #[.int .u8 2] 5)).heap.size = w4.heap.size + 1 := World.size_alloc _ _
  generalize w4.alloc (.cells #[.int .u8 2] 5) = w5 at *
  have hrm : Rd w5 w5.heap.size (some ⟨w4.heap.size, 0, none⟩) (vb [2]) := fun _ => ⟨_, rfl, by rw [hz5]; exact Nat.lt_succ_self _, fun j u hj => by
    rw [head_add, cell_of_row _ _ _ _ _ _ hm5]
    rcases j with _ | j
    · exact hj
    · exact absurd (List.getElem?_eq_some_iff.1 hj).1 (by simp)⟩
  have hcc := cdcrash_any w5 d 8 _ _ (HC4.out.call hb5) (some ⟨w4.heap.size, 0, none⟩) [2] 1 1 rfl (Nat.le_refl _) (by decide) hrm (fun _ ad e h => by cases e; have := HC4.out.lt _ h; exact absurd this (Nat.lt_irrefl _)) (by rw [kn_wl]; decide)
  rw [show ([2] : List UInt8).map UInt8.toNat = [2] from rfl] at hcc
  have HCC := Lib.hid hcc; clear hcc hrm hm5
  have HB5 := Lib.hid (HB4.out.trans (hb5.mono HB4.out.size)); clear hb5
  have HZ5 := Lib.hid hz5; clear hz5
  have HL : Hid (∀ b, ext (fun b => w.heap.size ≤ b ∧ b < w1.heap.size) w2 w3 b → w.heap.size ≤ b) := Lib.hid fun b hb => hb.elim (fun h => h.1) (fun h => Nat.le_trans hz2 h.1)
  refine HCC.out.mono ?_
  rintro e w6 ⟨rfl, hcd6, hk6⟩
  have hb6 : Below w.heap.size w w6 := Keep.toBelow HB5.out hk6 HL.out HB5.out.size
  have hrd := cdread_any w6 d 8 _ _ hcd6 1
  rw [kn_now, kn_E2] at hrd
  have HRD := Lib.hid hrd; clear hrd hcd6 hk6 HCC HC4 HB4 HB5
  have HB6 := Lib.hid hb6; clear hb6
  go_wp2_with fail
  refine HRD.out.mono ?_
  rintro e w7 ⟨v, rfl, ho7, hb7⟩
  rw [crL8_len] at ho7
  obtain ⟨e7, ho7⟩ := ho7
  obtain ⟨A7, c7, rfl, _, hg7⟩ := Rd.of_own1 ho7
  obtain ⟨g7, rfl⟩ := hg7 (by decide)
  have hat : ∀ k, k < 256 → w7.cell? ⟨g7, k, none⟩ = some (.int .u8 (((crL8 2 zeroB (fullB 7)).getD k 0).toNat : Int)) := fun k hk => by
    rw [ho7.cellAt k (by omega), List.getElem?_map, List.getD_eq_getElem?_getD, List.getElem?_eq_getElem (by rw [crL8_len]; exact hk)]; rfl
  have c1 : w7.cell? ⟨g7, 63, none⟩ = some (.int .u8 0) := by rw [hat 63 (by decide), crL8_at _ _ _ _ (by decide), if_neg (by decide), zeroB_at _ (by decide)]; rfl
  have c2 : w7.cell? ⟨g7, 64, none⟩ = some (.int .u8 7) := by rw [hat 64 (by decide), crL8_at _ _ _ _ (by decide), if_pos (by decide), fullB_at _ _ (by decide)]; rfl
  have c3 : w7.cell? ⟨g7, 127, none⟩ = some (.int .u8 7) := by rw [hat 127 (by decide), crL8_at _ _ _ _ (by decide), if_pos (by decide), fullB_at _ _ (by decide)]; rfl
  have c4 : w7.cell? ⟨g7, 128, none⟩ = some (.int .u8 0) := by rw [hat 128 (by decide), crL8_at _ _ _ _ (by decide), if_neg (by decide), zeroB_at _ (by decide)]; rfl
  clear hat ho7
  have HB7 := Lib.hid (HB6.out.trans (hb7.mono HB6.out.size)); clear hb7 HRD HB6
  go_wp2_with fail
  go_ret
  exact ⟨rfl, HB7.out⟩
end Go.Proofs.Ytajplflefagbaaa
