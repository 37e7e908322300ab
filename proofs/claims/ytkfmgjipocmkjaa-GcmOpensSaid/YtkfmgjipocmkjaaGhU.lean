/-
  The code's elements and their bytes.
-/
import Derived.Test.YtkfmgjipocmkjaaGhT
import Derived.Test.YtkfmgjipocmkjaaFoldA
namespace Go.Proofs.Ytkfmgjipocmkjaa
open Go Go.RowKit
set_option linter.unusedVariables false
set_option linter.unusedSimpArgs false

theorem num_byF (f : Nat → Nat) (o n : Nat) (h : ∀ i, i < n → f (o + i) < 256) : num (byF f o n) = num16 (fun i => f (o + i)) n := by
  induction n with
  | zero => rfl
  | succ n ih =>
    rw [byF_succ, num_snoc, ih fun i hi => h i (by omega), num16]
    have := h n (by omega)
    simp; omega
theorem num16_split (f : Nat → Nat) (m n : Nat) : num16 f (m + n) = num16 f m * 256 ^ n + num16 (fun i => f (m + i)) n := by
  induction n with
  | zero => simp [num16]
  | succ n ih => rw [← Nat.add_assoc, num16, num16, ih, Nat.pow_succ, Nat.add_mul, ← Nat.mul_assoc]; omega
theorem hof_hi (f : Nat → Nat) (h : B16 f) : num (byF f 0 8) = hof f / 18446744073709551616 ∧ num (byF f 8 8) = hof f % 18446744073709551616 := by
  have e := num16_split f 8 8
  have h1 := num_byF f 0 8 fun i hi => h _ (by omega)
  have h2 := num_byF f 8 8 fun i hi => h _ (by omega)
  have l2 := num16_lt (fun i => f (8 + i)) 8 fun i hi => h _ (by omega)
  have e0 : (fun i => f (0 + i)) = f := by funext i; rw [Nat.zero_add]
  rw [e0] at h1
  unfold hof
  rw [h1, h2, show (16 : Nat) = 8 + 8 from rfl, e]
  rw [show (256 : Nat) ^ 8 = 18446744073709551616 from by decide] at *
  omega
set_option maxRecDepth 100000 in
set_option maxHeartbeats 1000000 in
theorem gwords_any (f : Nat → Nat) (w : World) (hf : B16 f) :
    Calls Try.prog 47 #[.agg (aN 16 f)] w fun e w' => e = .returned (eV (hof f)) ∧ Below w.heap.size w w' := by
  obtain ⟨h1, h2⟩ := hof_hi f hf
  rw [eV, ← h1, ← h2]
  have HF := Lib.hid hf; clear hf h1 h2
  go_enter Try.func47, Try.ntmps47
  have d1 := heap_alloc_new (w.alloc (.cells (aN 16 f) 35)) (Obj.cells #[Value.int IntKind.u64 0, Value.int IntKind.u64 0] 77)
  rw [World.size_alloc] at d1
  have c1 : ∀ W : World, W.heap[w.heap.size + 1]? = some (Obj.cells #[Value.int IntKind.u64 0, Value.int IntKind.u64 0] 77 (0, 0)) → W.cell? ⟨w.heap.size + 1, 0, none⟩ = some (.int .u64 0) ∧ W.cell? ⟨w.heap.size + 1, 1, none⟩ = some (.int .u64 0) ∧ W.frozen? ⟨w.heap.size + 1, 0, none⟩ = false ∧ W.frozen? ⟨w.heap.size + 1, 1, none⟩ = false := fun W h => ⟨by rw [cell_of_row _ _ _ _ _ _ h]; rfl, by rw [cell_of_row _ _ _ _ _ _ h]; rfl, frozen_of_row _ _ _ _ _ h, frozen_of_row _ _ _ _ _ h⟩
  have d0 : H16 ((w.alloc (.cells (aN 16 f) 35)).alloc (Obj.cells #[Value.int IntKind.u64 0, Value.int IntKind.u64 0] 77)) w.heap.size f := H16.alloc _ (H16.newAt rfl)
  have db : Below w.heap.size w ((w.alloc (.cells (aN 16 f) 35)).alloc (Obj.cells #[Value.int IntKind.u64 0, Value.int IntKind.u64 0] 77)) := ((Below.refl _ _).alloc (Nat.le_refl _) _).alloc (by simp) _
  go_wp2_with fail
  generalize (w.alloc (.cells (aN 16 f) 35)).alloc (Obj.cells #[Value.int IntKind.u64 0, Value.int IntKind.u64 0] 77) = w1 at *
  refine (get_any _ (byF f 0 8) 8 16 (byF_len _ _ _) w1 (by decide) (by decide) (d0.rd HF.out 0 8 (by decide))).mono ?_
  rintro e w2 ⟨rfl, rfl⟩
  go_wp2_with fail
  refine (get_any _ (byF f 8 8) 8 8 (byF_len _ _ _) w2 (by decide) (by decide) (d0.rd HF.out 8 8 (by decide))).mono ?_
  rintro e w3 ⟨rfl, rfl⟩
  obtain ⟨k1, k2, k3, k4⟩ := c1 _ d1
  go_wp2_with fail
  refine bodyPost_ret (el_ret (p := 2) (by kernel_rfl) _ _ (w.heap.size + 1) (num (byF f 0 8)) (num (byF f 8 8)) rfl ?_) rfl ⟨rfl, ?_⟩
  · exact el_set d1
  · exact (db.setCell (by simp) _).setCell (by simp) _

theorem hby_hi (a i : Nat) (hi : i < 8) : ((UInt8.ofNat (a / 18446744073709551616 / 256 ^ (8 - 1 - i))).toNat : Nat) = hby a i := by
  unfold hby
  rw [UInt8.toNat_ofNat', show (18446744073709551616 : Nat) = 256 ^ 8 from by decide, Nat.div_div_eq_div_mul, ← Nat.pow_add, show 8 + (8 - 1 - i) = 15 - i from by omega]
theorem hby_lo (a i : Nat) (hi : i < 8) : ((UInt8.ofNat (a % 18446744073709551616 / 256 ^ (8 - 1 - i))).toNat : Nat) = hby a (8 + i) := by
  unfold hby
  rw [UInt8.toNat_ofNat', show (18446744073709551616 : Nat) = 256 ^ (8 - 1 - i) * (256 * 256 ^ i) from by rw [← Nat.mul_assoc, Nat.mul_right_comm, ← Nat.pow_add, show 8 - 1 - i + i = 7 from by omega], Nat.mod_mul_right_div_self, Nat.mod_mul_right_mod, show 15 - (8 + i) = 8 - 1 - i from by omega]
/-- Sixteen noughts. -/
def z16 : List Value := List.replicate 16 (.int .u8 0)
theorem z16_len : z16.length = 16 := rfl
theorem be_both (a : Nat) : (splice (splice z16 0 (vb (be (a / 18446744073709551616) 8))) 8 (vb (be (a % 18446744073709551616) 8))).toArray = aN 16 (hby a) := by
  have e1 : vb (be (a / 18446744073709551616) 8) = (List.range 8).map fun i => .int .u8 (hby a i : Int) := by
    rw [be_map, vb, List.map_map]
    apply List.map_congr_left
    intro i hi
    simp only [Function.comp]
    rw [hby_hi a i (List.mem_range.mp hi)]
  have e2 : vb (be (a % 18446744073709551616) 8) = (List.range 8).map fun i => .int .u8 (hby a (8 + i) : Int) := by
    rw [be_map, vb, List.map_map]
    apply List.map_congr_left
    intro i hi
    simp only [Function.comp]
    rw [hby_lo a i (List.mem_range.mp hi)]
  rw [e1, e2]
  rfl

set_option maxRecDepth 100000 in
set_option maxHeartbeats 1000000 in
theorem gbytes_any (a : Nat) (w : World) (ha : a < 2 ^ 128) :
    Calls Try.prog 51 #[eV a] w fun e w' => e = .returned (.agg (aN 16 (hby a))) ∧ Below w.heap.size w w' := by
  have hsz : (Try.prog.info? 5).map (·.size) = some 1 := by kernel_rfl
  have hAll := be_both a
  obtain ⟨a1, ha1⟩ : ∃ a1, a1 = a / 18446744073709551616 := ⟨_, rfl⟩
  obtain ⟨a2, ha2⟩ : ∃ a2, a2 = a % 18446744073709551616 := ⟨_, rfl⟩
  have l1 : a1 < 18446744073709551616 := by omega
  have l2 : a2 < 18446744073709551616 := by omega
  rw [eV, ← ha1, ← ha2]
  rw [← ha1, ← ha2] at hAll
  clear ha1 ha2 ha
  have HALL := Lib.hid hAll; clear hAll
  go_enter Try.func51, Try.ntmps51
  have d1 := H16.newAt (w := w.alloc (.cells #[.int .u64 a1, .int .u64 a2] 77)) (b := w.heap.size + 1) (f := fun _ => 0) (by rw [World.size_alloc])
  have d0 : (w.alloc (.cells #[.int .u64 a1, .int .u64 a2] 77)).heap[w.heap.size]? = _ := heap_alloc_new w _
  have d0' := (heap_alloc_old (w.alloc (.cells #[.int .u64 a1, .int .u64 a2] 77)) (.cells (aN 16 fun _ => 0) 35) (r := w.heap.size) (by simp)).trans d0
  clear d0
  have db : Below w.heap.size w ((w.alloc (.cells #[.int .u64 a1, .int .u64 a2] 77)).alloc (.cells (aN 16 fun _ => 0) 35)) := ((Below.refl _ _).alloc (Nat.le_refl _) _).alloc (by simp) _
  have ds : ((w.alloc (.cells #[.int .u64 a1, .int .u64 a2] 77)).alloc (.cells (aN 16 fun _ => 0) 35)).heap.size = w.heap.size + 1 + 1 := by simp
  go_wp2_with fail
  rw [zero16]
  generalize (w.alloc (.cells #[.int .u64 a1, .int .u64 a2] 77)).alloc (.cells (aN 16 fun _ => 0) 35) = w1 at *
  refine (put_any a1 8 w1 l1 l1 (by decide) (by decide)).mono ?_
  rintro e w2 ⟨v1, rfl, hown1, hb1⟩
  obtain ⟨A1, cap1, rfl, _, hr1⟩ := Rd.of_own hown1
  have k2 : w2.cell? ⟨w.heap.size, 1, none⟩ = some (.int .u64 (a2 : Int)) := by
    rw [hb1.cell (by show w.heap.size < _; rw [ds]; omega), cell_of_row _ _ _ _ _ _ d0']; rfl
  go_wp2_with fail
  refine (put_any a2 8 w2 l2 l2 (by decide) (by decide)).mono ?_
  rintro e w3 ⟨v2, rfl, hown2, hb2⟩
  obtain ⟨A2, cap2, rfl, _, hr2⟩ := Rd.of_own hown2
  have hR1 := hr1.go hb2
  clear k2
  have hsz3 : w1.heap.size ≤ w2.heap.size := hb1.size
  have hsz4 : w2.heap.size ≤ w3.heap.size := hb2.size
  have d5 : (w3.alloc (.cells z16.toArray 35)).heap[w3.heap.size]? = some (.cells z16.toArray 35 (0, 0)) := heap_alloc_new w3 _
  have d2 : H16 w3 (w.heap.size + 1) fun _ => 0 := (d1.call hb1).call hb2
  have hB3 : Below w.heap.size w w3 := (db.trans (hb1.mono (by omega))).trans (hb2.mono (by omega))
  have P1 : Hid (0 < (vb (be a1 8)).length → ∃ ad, A1 = some ad ∧ ∀ j v, (vb (be a1 8))[j]? = some v → (w3.alloc (.cells z16.toArray 35)).cell? (ad.add j) = some v) := Lib.hid fun h0 => by
    obtain ⟨ad, rfl, hb, hc⟩ := hR1 h0
    exact ⟨ad, rfl, fun j v hv => (((Below.refl w3.heap.size w3).alloc (Nat.le_refl _) _).cell (by rw [add_block]; exact hb)).trans (hc j v hv)⟩
  clear db hb1 hb2 d1 d0' ds hown1 hown2 hr1
  go_wp2_with (first
    | ((with_reducible show wpList _ _ _ _ _ _); refine wpList_copy_splice (o := ⟨some 22, _, _, _, _, _⟩) rfl (.tmp 20) (.tmp 21) 22 22 rfl 5 Try.underlying22 hsz (some ⟨w3.heap.size, 0, none⟩) A1 8 16 8 cap1 rfl rfl w3.heap.size 0 z16 35 d5 (vb (be a1 8)) (by simp [be_len]) (fun h0 => ⟨rfl, P1.out h0⟩) (by simp [be_len, z16_len]) (vb_onec _) w3.heap.size w3 ((Below.refl _ _).alloc (Nat.le_refl _) _) (Nat.le_refl _) ?_))
  intro w4 hw4 hb4
  have h4 := hw4.out
  have hR2 : Rd w4 w3.heap.size A2 (vb (be a2 8)) := hr2.below hb4
  clear d5
  have P2 : Hid (0 < (vb (be a2 8)).length → ∃ ad, A2 = some ad ∧ ∀ j v, (vb (be a2 8))[j]? = some v → w4.cell? (ad.add j) = some v) := Lib.hid fun h0 => by
    obtain ⟨ad, rfl, hb, hc⟩ := hR2 h0
    exact ⟨ad, rfl, hc⟩
  go_wp2_with (first
    | ((with_reducible show wpList _ _ _ _ _ _); refine wpList_copy_splice (o := ⟨some 25, _, _, _, _, _⟩) rfl (.tmp 23) (.tmp 24) 22 22 rfl 5 Try.underlying22 hsz (some ⟨w3.heap.size, 8, none⟩) A2 8 8 8 cap2 rfl rfl w3.heap.size 8 (splice z16 0 (vb (be a1 8))) 35 h4 (vb (be a2 8)) (by simp [be_len]) (fun h0 => ⟨rfl, P2.out h0⟩) (by simp [be_len, splice, z16_len]) (vb_onec _) w3.heap.size w3 hb4 (Nat.le_refl _) ?_))
  intro w5 hw5 hb5
  have h5 := hw5.out
  rw [HALL.out] at h5
  have d2' : w5.heap[w.heap.size + 1]? = some (.cells (aN 16 fun _ => 0) 35 (0, 0)) := (hb5.block _ d2.lt).trans d2
  go_wp2_with (first
    | (refine wpList_load_row rfl 35 (.tmp 7) rfl w3.heap.size rfl 35 (aN 16 (hby a)) (0, 0) (.array 16 5) h5 Try.underlying35 rfl (by rw [aN_size]; kernel_rfl) ?_)
    | (refine wpList_store_row rfl 35 (.tmp 2) (.tmp 26) rfl (w.heap.size + 1) (aN 16 (hby a)) rfl rfl 35 _ d2' (by rw [aN_size]; kernel_rfl) (by simp only [aN_size]) (aN_one _ _) ?_))
  refine bodyPost_ret (v := .agg (aN 16 (hby a))) (results_cell_row (p := 2) (ty := 35) (by kernel_rfl) _ _ (w.heap.size + 1) 35 (aN 16 (hby a)) (0, 0) (.array 16 5) rfl ?_ Try.underlying35 rfl (by rw [aN_size]; kernel_rfl)) rfl ⟨rfl, ?_⟩
  · exact setRow_heap _ _ _ _ _ _ d2'
  · exact below_row (hB3.trans (hb5.mono hB3.size)) _ (by omega) _
end Go.Proofs.Ytkfmgjipocmkjaa
