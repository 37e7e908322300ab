/-
  The code's cipher of a key. (Printed by wip/gen/aesnew.py.)
-/
import Derived.Test.YtfgigoheaoanpaaAesI
namespace Go.Proofs.Ytfgigoheaoanpaa
open Go Go.RowKit
set_option linter.unusedVariables false
set_option linter.unusedSimpArgs false

/-- A cipher of r rounds with the words F at block c. -/
def Ci (r : Nat) (w : World) (c : Nat) (F : Nat → Nat) : Prop :=
  ∃ g, w.heap[c]? = some (.cells #[.slice (some ⟨g, 0, none⟩) (r + 1) (r + 1)] 68 (0, 0)) ∧ HV (16 * (r + 1)) 66 w g F
theorem Ci.lt {r : Nat} {w : World} {c : Nat} {F : Nat → Nat} (h : Ci r w c F) : c < w.heap.size := by
  obtain ⟨g, h, _⟩ := h
  exact (Array.getElem?_eq_some_iff.1 h).1
theorem Ci.below {r B : Nat} {w w' : World} {c : Nat} {F : Nat → Nat} (hb : Below w.heap.size w w') (h : Ci r w c F) : Ci r w' c F := by
  have hl := h.lt
  obtain ⟨g, h1, h2⟩ := h
  exact ⟨g, (hb.block c hl).trans h1, h2.call hb⟩
theorem Ci.alloc {r : Nat} {w : World} {c : Nat} {F : Nat → Nat} (o : Obj) (h : Ci r w c F) : Ci r (w.alloc o) c F := by
  have hl := h.lt
  obtain ⟨g, h1, h2⟩ := h
  exact ⟨g, (heap_alloc_old w o hl).trans h1, h2.alloc o⟩

set_option maxRecDepth 100000 in
theorem new_none (A : Option Addr) (N cap : Nat) (h1 : N ≠ 16) (h2 : N ≠ 32) (w : World) :
    Calls Try.prog 21 #[.slice A N cap] w fun e w' => e = .returned (.tuple #[.pointer none, .int .i64 2]) ∧ w' = w := by
  have hc := Lib.hid (fun w => words_none A N cap h1 h2 w)
  clear h1 h2
  go_enter Try.func21, Try.ntmps21
  go_wp2_with fail
  refine (hc.out _).mono ?_
  rintro e w1 ⟨rfl, rfl⟩
  go_wp2_with fail
  go_ret2
  exact ⟨rfl, rfl⟩

set_option maxRecDepth 100000 in
set_option maxHeartbeats 4000000 in
theorem new16_any (A : Option Addr) (l : List Nat) (cap : Nat) (hn : l.length = 16) (hcap : 16 ≤ cap) (hl : ∀ x ∈ l, x < 256) (w : World) (h : Rd w w.heap.size A (vn l)) :
    Calls Try.prog 21 #[.slice A 16 cap] w fun e w' => ∃ c, e = .returned (.tuple #[.pointer (some ⟨c, 0, none⟩), .int .i64 0]) ∧ Ci 10 w' c (kF l) ∧ Below w.heap.size w w' := by
  have hmk : ∀ w : World, (Instr.makeSlice 64 (.int .i64 11) (.int .i64 11)).run Try.prog w = .ok (.slice (some ⟨w.heap.size, 0, none⟩) 11 11) (w.alloc (.cells (aN 176 fun _ => 0) 66)) := fun w => make_states 11 (by omega) w
  have hc := Lib.hid (words16_any A l cap hn hcap hl w h)
  clear hn hcap hl h
  go_enter Try.func21, Try.ntmps21
  go_wp2_with fail
  refine hc.out.mono ?_
  rintro e w1 ⟨rfl, h0, hb⟩
  clear hc
  have H0 := Lib.hid h0; clear h0
  have HB := Lib.hid hb; clear hb
  obtain ⟨g, hg⟩ : ∃ g, g = w.heap.size := ⟨_, rfl⟩
  rw [← hg] at H0
  have HG := Lib.hid hg
  rw [← hg]
  clear hg
  go_wp2_with fail
  clear hmk
  go_loopw [23] (fun i wr => ∃ k : Nat, k ≤ 44 ∧ i = .int .i64 k ∧ Hid (HV 176 65 wr g (kF l)) ∧ Hid (HV 176 66 wr w1.heap.size (wK (kF l) k)) ∧ Hid (Below w.heap.size w wr)) (fun i _ => 44 - (intOf i).toNat)
  case atStart =>
    refine ⟨0, by omega, rfl, Lib.hid (H0.out.alloc _), Lib.hid ?_, Lib.hid (HB.out.alloc HB.out.size _)⟩
    exact (HV.newAt rfl).congr fun i _ => by simp [wK]
  case round =>
    have hgw : g < w1.heap.size := H0.out.lt
    have hww : w.heap.size ≤ w1.heap.size := HB.out.size
    have HGW := Lib.hid hgw; clear hgw
    have HWW := Lib.hid hww; clear hww
    clear H0 HB
    obtain ⟨k, hk, rfl, H0, H1, HB⟩ := hrel
    by_cases hlt : k < 44
    · have hk0 : (0 : Int) ≤ (k : Int) := by omega
      have hk1 : (k : Int) < 44 := by omega
      have c0 := H0.out.cell (k * 4) (by omega)
      have c1 := H0.out.cell (k * 4 + 1) (by omega)
      have c2 := H0.out.cell (k * 4 + 2) (by omega)
      have c3 := H0.out.cell (k * 4 + 3) (by omega)
      obtain ⟨x, hx⟩ : ∃ x : Nat → Nat, ∀ p, x p = kF l (k * 4 + p) := ⟨fun p => kF l (k * 4 + p), fun _ => rfl⟩
      have e0 := hx 0
      rw [Nat.add_zero] at e0
      rw [← e0] at c0
      rw [← hx 1] at c1
      rw [← hx 2] at c2
      rw [← hx 3] at c3
      have HX := Lib.hid hx; clear hx e0
      go_upto_region 8 with fail
      have h8 : Has (wr.alloc (.cells (arr4 x) 65)) wr.heap.size x := Has.new
      have h0 : HV 176 65 (wr.alloc (.cells (arr4 x) 65)) g (kF l) := H0.out.alloc _
      have h1 : HV 176 66 (wr.alloc (.cells (arr4 x) 65)) w1.heap.size (wK (kF l) k) := H1.out.alloc _
      have hB : Below w.heap.size w (wr.alloc (.cells (arr4 x) 65)) := HB.out.alloc HB.out.size _
      have hne : w1.heap.size ≠ wr.heap.size := Nat.ne_of_lt H1.out.lt
      clear H0 H1 HB c0 c1 c2 c3
      have H8 := Lib.hid h8; clear h8
      have H0 := Lib.hid h0; clear h0
      have H1 := Lib.hid h1; clear h1
      have HB := Lib.hid hB; clear hB
      have HNE := Lib.hid hne; clear hne
      generalize wr.alloc (.cells (arr4 x) 65) = w2 at *
      generalize wr.heap.size = b8 at *
      obtain ⟨d, r, hr, hkd⟩ : ∃ d r, r < 4 ∧ k = 4 * d + r := ⟨k / 4, k % 4, by omega, by omega⟩
      have hd : d < 11 := by omega
      have hd0 : (0 : Int) ≤ (d : Int) := by omega
      have hd1 : (d : Int) < 11 := by omega
      have hr0 : (0 : Int) ≤ 4 * (r : Int) := by omega
      have hr1 : 4 * (r : Int) ≤ 16 := by omega
      have hr2 : ¬ 16 = 4 * r := by omega
      have e1 : IntKind.i64.wrap ((k : Int) / 4) = (d : Int) := (IntWalk.i64_in _ (by omega)).trans (by omega)
      have e2 : (k : Int) % 4 = (r : Int) := by omega
      have e3 : (k : Int).tmod 4 = (r : Int) := by rw [Int.tmod_eq_emod_of_nonneg (by omega)]; exact e2
      have e4 : IntKind.i64.wrap (4 * (r : Int)) = 4 * (r : Int) := IntWalk.i64_in _ (by omega)
      have e5 : (4 * (r : Int)).toNat = 4 * r := by omega
      have e6 : IntKind.i64.wrap (r : Int) = (r : Int) := IntWalk.i64_in _ (by omega)
      have HSRC : Hid (∀ j v, (vl 4 x)[j]? = some v → w2.drew.cell? ((⟨b8, 0, none⟩ : Addr).add j) = some v) := Lib.hid (src4 (Has.drew H8.out))
      have HKD := Lib.hid hkd; clear hkd
      go_region_held3 (fun _ => True) (trivial) ((refine step_copy_set rfl (.tmp 35) (.tmp 36) 22 22 rfl 5 Try.underlying22 size_one w1.heap.size (d * 16 + 4 * r) (16 - 4 * r) (16 - 4 * r) ⟨b8, 0, none⟩ 4 4 rfl rfl (vl 176 (wK (kF l) k)) 66 H1.out (vl 4 x) (by rw [vl_len]; exact (Nat.min_eq_left (by omega)).symm) HSRC.out (by rw [vl_len, vl_len]; omega) (vl_one _ _) ?_; intro w4 hw4))
      have H1' : Hid (HV 176 66 w4 w1.heap.size (wK (kF l) (k + 1))) := Lib.hid (HV.setRow_of hw4.out H1.out.drew (by omega) fun j hj => by
        have hkd := HKD.out
        unfold lay wK
        by_cases h1 : d * 16 + 4 * r ≤ j ∧ j < d * 16 + 4 * r + 4
        · rw [if_pos h1, if_pos (by omega), HX.out, show k * 4 + (j - (d * 16 + 4 * r)) = j from by omega]
        · rw [if_neg h1]
          by_cases h2 : j < 4 * k
          · rw [if_pos h2, if_pos (by omega)]
          · rw [if_neg h2, if_neg (by omega)])
      have H0' : Hid (HV 176 65 w4 g (kF l)) := Lib.hid (by rw [hw4.out]; exact (setRow_other _ _ _ _ (Nat.ne_of_lt HGW.out)).trans H0.out.drew)
      have HB' : Hid (Below w.heap.size w w4) := Lib.hid (by rw [hw4.out]; exact below_setRow HB.out.drew _ HWW.out _)
      clear H0 H1 HB H8 hw4 HSRC hd0 hd1 hr0 hr1 hr2 e1 e2 e3 e4 e5 e6 HKD HX
      go_wp2_with fail
      go_roundw
      case rel => exact ⟨k + 1, by omega, by go_num, H0', H1', HB'⟩
      case measure => simp [intOf]; omega
    · obtain rfl : k = 44 := by omega
      go_wp2_with fail
      go_ret2
      refine ⟨_, rfl, ⟨w1.heap.size, heap_alloc_new _ _, ?_⟩, HB.out.alloc HB.out.size _⟩
      exact HV.alloc _ (H1.out.congr fun j hj => by unfold wK; rw [if_pos (by omega)])

set_option maxRecDepth 100000 in
set_option maxHeartbeats 4000000 in
theorem new32_any (A : Option Addr) (l : List Nat) (cap : Nat) (hn : l.length = 32) (hcap : 32 ≤ cap) (hl : ∀ x ∈ l, x < 256) (w : World) (h : Rd w w.heap.size A (vn l)) :
    Calls Try.prog 21 #[.slice A 32 cap] w fun e w' => ∃ c, e = .returned (.tuple #[.pointer (some ⟨c, 0, none⟩), .int .i64 0]) ∧ Ci 14 w' c (kF l) ∧ Below w.heap.size w w' := by
  have hmk : ∀ w : World, (Instr.makeSlice 64 (.int .i64 15) (.int .i64 15)).run Try.prog w = .ok (.slice (some ⟨w.heap.size, 0, none⟩) 15 15) (w.alloc (.cells (aN 240 fun _ => 0) 66)) := fun w => make_states 15 (by omega) w
  have hc := Lib.hid (words32_any A l cap hn hcap hl w h)
  clear hn hcap hl h
  go_enter Try.func21, Try.ntmps21
  go_wp2_with fail
  refine hc.out.mono ?_
  rintro e w1 ⟨rfl, h0, hb⟩
  clear hc
  have H0 := Lib.hid h0; clear h0
  have HB := Lib.hid hb; clear hb
  obtain ⟨g, hg⟩ : ∃ g, g = w.heap.size := ⟨_, rfl⟩
  rw [← hg] at H0
  have HG := Lib.hid hg
  rw [← hg]
  clear hg
  go_wp2_with fail
  clear hmk
  go_loopw [23] (fun i wr => ∃ k : Nat, k ≤ 60 ∧ i = .int .i64 k ∧ Hid (HV 240 65 wr g (kF l)) ∧ Hid (HV 240 66 wr w1.heap.size (wK (kF l) k)) ∧ Hid (Below w.heap.size w wr)) (fun i _ => 60 - (intOf i).toNat)
  case atStart =>
    refine ⟨0, by omega, rfl, Lib.hid (H0.out.alloc _), Lib.hid ?_, Lib.hid (HB.out.alloc HB.out.size _)⟩
    exact (HV.newAt rfl).congr fun i _ => by simp [wK]
  case round =>
    have hgw : g < w1.heap.size := H0.out.lt
    have hww : w.heap.size ≤ w1.heap.size := HB.out.size
    have HGW := Lib.hid hgw; clear hgw
    have HWW := Lib.hid hww; clear hww
    clear H0 HB
    obtain ⟨k, hk, rfl, H0, H1, HB⟩ := hrel
    by_cases hlt : k < 60
    · have hk0 : (0 : Int) ≤ (k : Int) := by omega
      have hk1 : (k : Int) < 60 := by omega
      have c0 := H0.out.cell (k * 4) (by omega)
      have c1 := H0.out.cell (k * 4 + 1) (by omega)
      have c2 := H0.out.cell (k * 4 + 2) (by omega)
      have c3 := H0.out.cell (k * 4 + 3) (by omega)
      obtain ⟨x, hx⟩ : ∃ x : Nat → Nat, ∀ p, x p = kF l (k * 4 + p) := ⟨fun p => kF l (k * 4 + p), fun _ => rfl⟩
      have e0 := hx 0
      rw [Nat.add_zero] at e0
      rw [← e0] at c0
      rw [← hx 1] at c1
      rw [← hx 2] at c2
      rw [← hx 3] at c3
      have HX := Lib.hid hx; clear hx e0
      go_upto_region 8 with fail
      have h8 : Has (wr.alloc (.cells (arr4 x) 65)) wr.heap.size x := Has.new
      have h0 : HV 240 65 (wr.alloc (.cells (arr4 x) 65)) g (kF l) := H0.out.alloc _
      have h1 : HV 240 66 (wr.alloc (.cells (arr4 x) 65)) w1.heap.size (wK (kF l) k) := H1.out.alloc _
      have hB : Below w.heap.size w (wr.alloc (.cells (arr4 x) 65)) := HB.out.alloc HB.out.size _
      have hne : w1.heap.size ≠ wr.heap.size := Nat.ne_of_lt H1.out.lt
      clear H0 H1 HB c0 c1 c2 c3
      have H8 := Lib.hid h8; clear h8
      have H0 := Lib.hid h0; clear h0
      have H1 := Lib.hid h1; clear h1
      have HB := Lib.hid hB; clear hB
      have HNE := Lib.hid hne; clear hne
      generalize wr.alloc (.cells (arr4 x) 65) = w2 at *
      generalize wr.heap.size = b8 at *
      obtain ⟨d, r, hr, hkd⟩ : ∃ d r, r < 4 ∧ k = 4 * d + r := ⟨k / 4, k % 4, by omega, by omega⟩
      have hd : d < 15 := by omega
      have hd0 : (0 : Int) ≤ (d : Int) := by omega
      have hd1 : (d : Int) < 15 := by omega
      have hr0 : (0 : Int) ≤ 4 * (r : Int) := by omega
      have hr1 : 4 * (r : Int) ≤ 16 := by omega
      have hr2 : ¬ 16 = 4 * r := by omega
      have e1 : IntKind.i64.wrap ((k : Int) / 4) = (d : Int) := (IntWalk.i64_in _ (by omega)).trans (by omega)
      have e2 : (k : Int) % 4 = (r : Int) := by omega
      have e3 : (k : Int).tmod 4 = (r : Int) := by rw [Int.tmod_eq_emod_of_nonneg (by omega)]; exact e2
      have e4 : IntKind.i64.wrap (4 * (r : Int)) = 4 * (r : Int) := IntWalk.i64_in _ (by omega)
      have e5 : (4 * (r : Int)).toNat = 4 * r := by omega
      have e6 : IntKind.i64.wrap (r : Int) = (r : Int) := IntWalk.i64_in _ (by omega)
      have HSRC : Hid (∀ j v, (vl 4 x)[j]? = some v → w2.drew.cell? ((⟨b8, 0, none⟩ : Addr).add j) = some v) := Lib.hid (src4 (Has.drew H8.out))
      have HKD := Lib.hid hkd; clear hkd
      go_region_held3 (fun _ => True) (trivial) ((refine step_copy_set rfl (.tmp 35) (.tmp 36) 22 22 rfl 5 Try.underlying22 size_one w1.heap.size (d * 16 + 4 * r) (16 - 4 * r) (16 - 4 * r) ⟨b8, 0, none⟩ 4 4 rfl rfl (vl 240 (wK (kF l) k)) 66 H1.out (vl 4 x) (by rw [vl_len]; exact (Nat.min_eq_left (by omega)).symm) HSRC.out (by rw [vl_len, vl_len]; omega) (vl_one _ _) ?_; intro w4 hw4))
      have H1' : Hid (HV 240 66 w4 w1.heap.size (wK (kF l) (k + 1))) := Lib.hid (HV.setRow_of hw4.out H1.out.drew (by omega) fun j hj => by
        have hkd := HKD.out
        unfold lay wK
        by_cases h1 : d * 16 + 4 * r ≤ j ∧ j < d * 16 + 4 * r + 4
        · rw [if_pos h1, if_pos (by omega), HX.out, show k * 4 + (j - (d * 16 + 4 * r)) = j from by omega]
        · rw [if_neg h1]
          by_cases h2 : j < 4 * k
          · rw [if_pos h2, if_pos (by omega)]
          · rw [if_neg h2, if_neg (by omega)])
      have H0' : Hid (HV 240 65 w4 g (kF l)) := Lib.hid (by rw [hw4.out]; exact (setRow_other _ _ _ _ (Nat.ne_of_lt HGW.out)).trans H0.out.drew)
      have HB' : Hid (Below w.heap.size w w4) := Lib.hid (by rw [hw4.out]; exact below_setRow HB.out.drew _ HWW.out _)
      clear H0 H1 HB H8 hw4 HSRC hd0 hd1 hr0 hr1 hr2 e1 e2 e3 e4 e5 e6 HKD HX
      go_wp2_with fail
      go_roundw
      case rel => exact ⟨k + 1, by omega, by go_num, H0', H1', HB'⟩
      case measure => simp [intOf]; omega
    · obtain rfl : k = 60 := by omega
      go_wp2_with fail
      go_ret2
      refine ⟨_, rfl, ⟨w1.heap.size, heap_alloc_new _ _, ?_⟩, HB.out.alloc HB.out.size _⟩
      exact HV.alloc _ (H1.out.congr fun j hj => by unfold wK; rw [if_pos (by omega)])
end Go.Proofs.Ytfgigoheaoanpaa
