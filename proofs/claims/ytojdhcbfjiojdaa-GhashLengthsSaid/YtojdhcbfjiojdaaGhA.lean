/-
  The document's bit of an element, and elements added (layer 4).
-/
import Derived.Test.YtojdhcbfjiojdaaRow
import Derived.Test.YtojdhcbfjiojdaaGhM
import Derived.StillTailTactics
namespace Go.Proofs.Ytojdhcbfjiojdaa
open Go Go.RowKit
set_option linter.unusedVariables false
set_option linter.unusedSimpArgs false

/-- A bit as a number. -/
def bn (b : Bool) : Nat := if b then 1 else 0
theorem bn_le (b : Bool) : bn b ≤ 1 := by cases b <;> decide
theorem bn_bit (a k : Nat) : a / 2 ^ k % 2 = bn (a.testBit k) := by
  rw [Nat.testBit_eq_decide_div_mod_eq]
  unfold bn
  have : a / 2 ^ k % 2 < 2 := Nat.mod_lt _ (by omega)
  by_cases h : a / 2 ^ k % 2 = 1
  · simp [h]
  · have h0 : a / 2 ^ k % 2 = 0 := by omega
    simp [h0]

theorem shr_tmod (a k : Nat) (ha : a < 256) : (wrap64 ((a : Int) / 2 ^ k)).tmod 2 = ((a / 2 ^ k % 2 : Nat) : Int) := by
  have e : (a : Int) / 2 ^ k = ((a / 2 ^ k : Nat) : Int) := by simp
  have h := Nat.div_le_self a (2 ^ k)
  rw [e]
  generalize a / 2 ^ k = q at *
  rw [IntWalk.wrap64_in _ (by omega), Int.tmod_eq_emod_of_nonneg (by omega)]
  omega

set_option maxRecDepth 100000 in
set_option maxHeartbeats 1000000 in
theorem gbit_any (f : Nat → Nat) (i : Nat) (w : World) (hf : B16 f) (hi : i < 128) :
    Calls Try.prog 20 #[.agg (aN 16 f), .int .i64 (i : Int)] w fun e w' => e = .returned (.int .i64 (bn (hbit (hof f) i) : Int)) ∧ Below w.heap.size w w' := by
  rw [hof_bit f hf i hi, ← bn_bit]
  obtain ⟨d, hd⟩ : ∃ d, d = i / 8 := ⟨_, rfl⟩
  obtain ⟨m, hm⟩ : ∃ m, m = i % 8 := ⟨_, rfl⟩
  obtain ⟨r, hr⟩ : ∃ r, r = 7 - m := ⟨_, rfl⟩
  rw [← hd, ← hm, ← hr]
  have hi0 : (0 : Int) ≤ (i : Int) := by omega
  have hi1 : (i : Int) < 128 := by omega
  have e1 : (i : Int) / 8 = (d : Int) := by omega
  have e2 : (i : Int) % 8 = (m : Int) := by omega
  have e3 : (7 : Int) - (m : Int) = (r : Int) := by omega
  have hd1 : d < 16 := by omega
  have hm1 : m < 8 := by omega
  have hr1 : r ≤ 7 := by omega
  have hdI : (d : Int) < 16 := by omega
  have h3 : H16 (w.alloc (.cells (aN 16 f) 22)) w.heap.size f := H16.newAt rfl
  have c0 := h3.cell d hd1
  have hB : Below w.heap.size w (w.alloc (.cells (aN 16 f) 22)) := (Below.refl _ _).alloc (Nat.le_refl _) _
  have hx := hf d hd1
  have HB := Lib.hid hB; clear hB h3 hd hm hr hf hi
  generalize f d = x at *
  go_enter Try.func20, Try.ntmps20
  go_wp2_with fail
  go_ret
  exact ⟨ret_int (shr_tmod x r hx), HB.out⟩

set_option maxRecDepth 100000 in
set_option maxHeartbeats 1000000 in
theorem gadd_any (f g : Nat → Nat) (w : World) (hf : B16 f) (hg : B16 g) :
    Calls Try.prog 25 #[.agg (aN 16 f), .agg (aN 16 g)] w fun e w' => e = .returned (.agg (aN 16 fun i => f i ^^^ g i)) ∧ Below w.heap.size w w' := by
  have HF := Lib.hid hf; clear hf
  have HG := Lib.hid hg; clear hg
  go_enter Try.func25, Try.ntmps25
  go_wp2_with fail
  go_loopw [5] (fun i wr => ∃ k : Nat, k ≤ 16 ∧ i = .int .i64 k ∧ Hid (H16 wr w.heap.size (addK f g k)) ∧ Hid (H16 wr (w.heap.size + 1) g) ∧ Hid (H16 wr (w.heap.size + 1 + 1) fun _ => 0) ∧ Hid (Below w.heap.size w wr)) (fun i _ => 16 - (intOf i).toNat)
  case atStart =>
    refine ⟨0, by omega, rfl, Lib.hid ?_, Lib.hid ?_, Lib.hid ?_, Lib.hid ((((Below.refl _ _).alloc (Nat.le_refl _) _).alloc (by simp) _).alloc (by simp; omega) _)⟩
    · exact H16.alloc _ (H16.alloc _ ((H16.newAt rfl).congr fun i _ => by simp [addK]))
    · refine H16.alloc _ ?_
      exact H16.newAt (w := w.alloc (.cells (aN 16 f) 22)) (by rw [World.size_alloc])
    · exact H16.newAt (w := (w.alloc (.cells (aN 16 f) 22)).alloc (.cells (aN 16 g) 22)) (b := w.heap.size + 1 + 1) (f := fun _ => 0) (by rw [World.size_alloc, World.size_alloc])
  case round =>
    obtain ⟨k, hk, rfl, H0, H1, H2, HB⟩ := hrel
    by_cases hlt : k < 16
    · have hk16 : (k : Int) < 16 := by omega
      have c0 := H0.out.cell k hlt
      have f0 := H0.out.free k
      have c1 := H1.out.cell k hlt
      have e0 : addK f g k k = f k := by simp [addK]
      rw [e0] at c0
      clear e0
      have hx : bits .xor .u8 (f k : Int) (g k : Int) = ((addK f g (k + 1) k : Nat) : Int) := by
        rw [xor_u8 _ _ (HF.out k hlt) (HG.out k hlt)]; simp [addK]
      go_wp2_with fail
      go_still_tail 9, (by kernel_rfl)
      change wpList _ _ _ _ _ wr.drew
      have f0' : wr.drew.frozen? ⟨w.heap.size, k, none⟩ = false := f0
      have c0' : wr.drew.cell? ⟨w.heap.size, k, none⟩ = some (.int .u8 (f k : Int)) := c0
      have H0' : Hid (H16 wr.drew w.heap.size (addK f g k)) := Lib.hid H0.out
      have H1' : Hid (H16 wr.drew (w.heap.size + 1) g) := Lib.hid H1.out
      have H2' : Hid (H16 wr.drew (w.heap.size + 1 + 1) fun _ => 0) := Lib.hid H2.out
      have HB' : Hid (Below w.heap.size w wr.drew) := Lib.hid HB.out.drew
      clear H0 H1 H2 HB c0 f0 c1
      generalize wr.drew = w2 at *
      go_wp2_with fail
      go_roundw
      case rel =>
        refine ⟨k + 1, by omega, by go_num, Lib.hid ?_, Lib.hid (H1'.out.other _ (by simp) _), Lib.hid (H2'.out.other _ (by simp; omega) _), Lib.hid (HB'.out.setCell (by simp) _)⟩
        exact H0'.out.set k _ hlt rfl fun i hi hik => by
          unfold addK
          by_cases h1 : i < k
          · rw [if_pos h1, if_pos (by omega)]
          · rw [if_neg h1, if_neg (by omega)]
      case measure => simp [intOf]; omega
    · obtain rfl : k = 16 := by omega
      have d0 : wr.heap[w.heap.size]? = some (.cells (aN 16 fun i => f i ^^^ g i) 22 (0, 0)) := H0.out.congr (addK_full _ _)
      have d1 : wr.heap[w.heap.size + 1 + 1]? = some (.cells (aN 16 fun _ => 0) 22 (0, 0)) := H2.out
      go_wp2_with (first
        | (refine wpList_load_row rfl 22 (.tmp 2) rfl w.heap.size rfl 22 (aN 16 fun i => f i ^^^ g i) (0, 0) (.array 16 5) d0 Try.underlying22 rfl (by rw [aN_size]; kernel_rfl) ?_)
        | (refine wpList_store_row rfl 22 (.tmp 4) (.tmp 19) rfl (w.heap.size + 1 + 1) (aN 16 fun i => f i ^^^ g i) rfl rfl 22 _ d1 (by rw [aN_size]; kernel_rfl) (by simp only [aN_size]) (aN_one _ _) ?_))
      refine bodyPost_ret (v := .agg (aN 16 fun i => f i ^^^ g i)) (results_cell_row (p := 4) (ty := 22) (by kernel_rfl) _ _ (w.heap.size + 1 + 1) 22 (aN 16 fun i => f i ^^^ g i) (0, 0) (.array 16 5) rfl ?_ Try.underlying22 rfl (by rw [aN_size]; kernel_rfl)) rfl ⟨rfl, ?_⟩
      · exact setRow_heap _ _ _ _ _ _ d1
      · exact below_row HB.out _ (by omega) _
end Go.Proofs.Ytojdhcbfjiojdaa
