/-
  Arrays of sixteen bytes in memory; the document's round key, rows moved, columns taken.
-/
import Derived.Test.YtfgigoheaoanpaaGalD
import Derived.Test.YtfgigoheaoanpaaAesA
namespace Go.Proofs.Ytfgigoheaoanpaa
open Go Go.RowKit
set_option linter.unusedVariables false
set_option linter.unusedSimpArgs false

theorem addK_end (f g : Nat → Nat) : E16 (addK f g 16) (sAdd f g) := fun i hi => by simp [addK, sAdd, hi]

set_option maxRecDepth 100000 in
set_option maxHeartbeats 1000000 in
theorem radd_any (f : Nat → Nat) (A : Option Addr) (l : List Nat) (n cap j : Nat) (w : World) (hf : B16 f) (hl : ∀ x ∈ l, x < 256) (hn : l.length = n) (hj : 16 * j + 16 ≤ n) (hm : n ≤ 1000) (h : Rd w w.heap.size A (vn l)) :
    Calls Try.prog 32 #[.agg (aN 16 f), .slice A n cap, .int .i64 (j : Int)] w fun e w' => e = .returned (.agg (aN 16 (sAdd f (rk (fun i => l.getD i 0) j)))) ∧ Below w.heap.size w w' := by
  have HF := Lib.hid hf; clear hf
  have HL := Lib.hid hl; clear hl
  have HN := Lib.hid hn; clear hn
  go_enter Try.func32, Try.ntmps32
  go_wp2_with fail
  go_loopw [7] (fun i wr => ∃ k : Nat, k ≤ 16 ∧ i = .int .i64 k ∧ Hid (H16 wr w.heap.size (addK f (rk (fun i => l.getD i 0) j) k)) ∧ Hid (H16 wr (w.heap.size + 1) fun _ => 0) ∧ Hid (Below w.heap.size w wr)) (fun i _ => 16 - (intOf i).toNat)
  case atStart =>
    refine ⟨0, by omega, rfl, Lib.hid ?_, Lib.hid ?_, Lib.hid (((Below.refl _ _).alloc (Nat.le_refl _) _).alloc (by simp) _)⟩
    · exact H16.alloc _ ((H16.newAt rfl).congr fun i _ => by simp [addK])
    · exact H16.newAt (w := w.alloc (.cells (aN 16 f) 23)) (b := w.heap.size + 1) (f := fun _ => 0) (by rw [World.size_alloc])
  case round =>
    obtain ⟨k, hk, rfl, H0, H1, HB⟩ := hrel
    by_cases hlt : k < 16
    · have hk16 : (k : Int) < 16 := by omega
      have hk0 : (0 : Int) ≤ (k : Int) := by omega
      have hlen : 16 * j + k < l.length := by have := HN.out; omega
      obtain ⟨ad, rfl, hbd, hck⟩ := (h.below HB.out).num hlen
      have c0 := H0.out.cell k hlt
      have f0 := H0.out.free k
      have lb := getD_lt l HL.out (16 * j + k)
      have e0 : addK f (rk (fun i => l.getD i 0) j) k k = f k := by simp [addK]
      rw [e0] at c0
      have la := HF.out k hlt
      obtain ⟨v, hv⟩ : ∃ v, v = l.getD (16 * j + k) 0 := ⟨_, rfl⟩
      rw [← hv] at hck lb
      have hx : bits .xor .u8 (f k : Int) (v : Int) = ((addK f (rk (fun i => l.getD i 0) j) (k + 1) k : Nat) : Int) := by
        rw [nbits_xor _ _ la lb, hv]; simp [addK, rk]
      clear hv
      have s1 : IntKind.i64.wrap (16 * (j : Int)) = 16 * (j : Int) := IntWalk.i64_in _ (by omega)
      have s2 : IntKind.i64.wrap (16 * (j : Int) + (k : Int)) = 16 * (j : Int) + (k : Int) := IntWalk.i64_in _ (by omega)
      have s3 : (16 * (j : Int) + (k : Int)).toNat = 16 * j + k := by omega
      have s4 : 16 * (j : Int) + (k : Int) < (n : Int) := by omega
      have s5 : (0 : Int) ≤ 16 * (j : Int) + (k : Int) := by omega
      go_wp2_with fail
      go_still_tail 13, (by kernel_rfl)
      change wpList _ _ _ _ _ wr.drew
      have c0' : wr.drew.cell? ⟨w.heap.size, k, none⟩ = some (.int .u8 (f k : Int)) := c0
      have f0' : wr.drew.frozen? ⟨w.heap.size, k, none⟩ = false := f0
      have H0' : Hid (H16 wr.drew w.heap.size (addK f (rk (fun i => l.getD i 0) j) k)) := Lib.hid H0.out
      have H1' : Hid (H16 wr.drew (w.heap.size + 1) fun _ => 0) := Lib.hid H1.out
      have HB' : Hid (Below w.heap.size w wr.drew) := Lib.hid HB.out.drew
      clear H0 H1 HB c0 f0 hck s1 s2 s3 s4 s5
      generalize wr.drew = w2 at *
      go_wp2_with fail
      go_roundw
      case rel =>
        refine ⟨k + 1, by omega, by go_num, Lib.hid ?_, Lib.hid ?_, Lib.hid (HB'.out.setCell (by simp) _)⟩
        · exact H0'.out.set k _ hlt rfl fun i hi hik => by
            unfold addK
            by_cases h1 : i < k
            · rw [if_pos h1, if_pos (by omega)]
            · rw [if_neg h1, if_neg (by omega)]
        · exact H1'.out.other _ (by simp) _
      case measure => simp [intOf]; omega
    · obtain rfl : k = 16 := by omega
      have d0 : wr.heap[w.heap.size]? = some (.cells (aN 16 (sAdd f (rk (fun i => l.getD i 0) j))) 23 (0, 0)) := H0.out.congr (addK_end _ _)
      have d1 : wr.heap[w.heap.size + 1]? = some (.cells (aN 16 fun _ => 0) 23 (0, 0)) := H1.out
      go_wp2_with (first
        | (refine wpList_load_row rfl 23 (.tmp 3) rfl w.heap.size rfl 23 _ (0, 0) (.array 16 5) d0 Try.underlying23 rfl (by rw [aN_size]; kernel_rfl) ?_)
        | (refine wpList_store_row rfl 23 (.tmp 6) (.tmp 25) rfl (w.heap.size + 1) (aN 16 (sAdd f (rk (fun i => l.getD i 0) j))) rfl rfl 23 _ d1 (by rw [aN_size]; kernel_rfl) (by rw [aN_size, aN_size]) (aN_one _ _) ?_))
      refine bodyPost_ret (v := .agg (aN 16 (sAdd f (rk (fun i => l.getD i 0) j)))) (results_cell_row (p := 6) (ty := 23) (by kernel_rfl) _ _ (w.heap.size + 1) 23 (aN 16 (sAdd f (rk (fun i => l.getD i 0) j))) (0, 0) (.array 16 5) rfl ?_ Try.underlying23 rfl (by rw [aN_size]; kernel_rfl)) rfl ⟨rfl, ?_⟩
      · exact setRow_heap _ _ _ _ _ _ d1
      · exact below_setRow HB.out _ (by omega) _
end Go.Proofs.Ytfgigoheaoanpaa
