/-
  The code's steps on a state: a key added, each byte by a function, rows moved. (Printed by wip/gen/aesstate.py.)
-/
import Derived.Test.YtfgigoheaoanpaaAesB
import Derived.Test.YtfgigoheaoanpaaGalC
import Derived.StillTailTactics
import Derived.Deep.MidRow
namespace Go.Proofs.Ytfgigoheaoanpaa
open Go Go.RowKit
set_option linter.unusedVariables false
set_option linter.unusedSimpArgs false

/-- Block b holds sixteen bytes, as type t. -/
def HT (t : TypeId) (w : World) (b : Nat) (f : Nat → Nat) : Prop := w.heap[b]? = some (.cells (aN 16 f) t (0, 0))
section
variable {t : TypeId} {w w' : World} {b g : Nat} {f z : Nat → Nat}
theorem HT.lt (h : HT t w b f) : b < w.heap.size := (Array.getElem?_eq_some_iff.1 h).1
theorem HT.cell (h : HT t w b f) (k : Nat) (hk : k < 16) : w.cell? ⟨b, k, none⟩ = some (.int .u8 (f k : Int)) := by
  rw [cell_of_row _ _ _ _ _ _ h]; exact aN_get 16 f k hk
theorem HT.free (h : HT t w b f) (k : Nat) : w.frozen? ⟨b, k, none⟩ = false := frozen_of_row _ _ _ _ _ h
theorem HT.below {B : Nat} (hb : Below B w w') (h : HT t w b f) (hB : b < B) : HT t w' b f := (hb.block b hB).trans h
theorem HT.call (hb : Below w.heap.size w w') (h : HT t w b f) : HT t w' b f := h.below hb h.lt
theorem HT.alloc (o : Obj) (h : HT t w b f) : HT t (w.alloc o) b f := (heap_alloc_old w o h.lt).trans h
theorem HT.newAt (h : b = w.heap.size) : HT t (w.alloc (.cells (aN 16 f) t)) b f := h ▸ heap_alloc_new w _
theorem HT.other (h : HT t w b f) (a : Addr) (hg : b ≠ a.block) (v : Value) : HT t (w.setCell a v) b f := (heap_setCell_other _ _ _ _ hg).trans h
theorem HT.set (h : HT t w b f) (k v : Nat) (hk : k < 16) (hv : z k = v) (ho : ∀ j, j < 16 → j ≠ k → z j = f j) : HT t (w.setCell ⟨b, k, none⟩ (.int .u8 (v : Int))) b z := by
  unfold HT
  rw [heap_setCell_same _ _ _ _ _ _ h, aN_set 16 f z k v hk hv ho]
theorem HT.row (h : HT t w b f) : HT t (w.setRow b (aN 16 z)) b z := setRow_heap _ _ _ _ _ _ h
theorem HT.rowOther (h : HT t w b f) (hg : b ≠ g) (cs : Array Value) : HT t (w.setRow g cs) b f := (setRow_other _ _ _ _ hg).trans h
theorem HT.congr (h : HT t w b f) (e : E16 f z) : HT t w b z := by
  unfold HT at *
  rw [h, aN_congr e]
theorem HT.drew (h : HT t w b f) : HT t w.drew b f := h
end

/-- The first k bytes by a table. -/
def mapK (t f : Nat → Nat) (k i : Nat) : Nat := if i < k then t (f i) else f i
theorem mapK_end (t f : Nat → Nat) : E16 (mapK t f 16) (sMap t f) := fun i hi => by simp [mapK, sMap, hi]

set_option maxRecDepth 100000 in
set_option maxHeartbeats 1000000 in
theorem plus_any (f g : Nat → Nat) (w : World) (hf : B16 f) (hg : B16 g) :
    Calls Try.prog 40 #[.agg (aN 16 f), .agg (aN 16 g)] w fun e w' => e = .returned (.agg (aN 16 (sAdd f g))) ∧ Below w.heap.size w w' := by
  have HF := Lib.hid hf; clear hf
  have HG := Lib.hid hg; clear hg
  go_enter Try.func40, Try.ntmps40
  go_wp2_with fail
  go_loopw [6] (fun i wr => ∃ k : Nat, k ≤ 16 ∧ i = .int .i64 k ∧ Hid (HT 66 wr w.heap.size (addK f g k)) ∧ Hid (HT 66 wr (w.heap.size + 1) g) ∧ Hid (HT 66 wr (w.heap.size + 1 + 1) fun _ => 0) ∧ Hid (Below w.heap.size w wr)) (fun i _ => 16 - (intOf i).toNat)
  case atStart =>
    refine ⟨0, by omega, rfl, Lib.hid ?_, Lib.hid ?_, Lib.hid ?_, Lib.hid ((((Below.refl _ _).alloc (Nat.le_refl _) _).alloc (by simp) _).alloc (by simp; omega) _)⟩
    · exact HT.alloc _ (HT.alloc _ ((HT.newAt rfl).congr fun i _ => by simp [addK]))
    · refine HT.alloc _ ?_
      exact HT.newAt (w := w.alloc (.cells (aN 16 f) 66)) (by rw [World.size_alloc])
    · exact HT.newAt (w := (w.alloc (.cells (aN 16 f) 66)).alloc (.cells (aN 16 g) 66)) (b := w.heap.size + 1 + 1) (f := fun _ => 0) (by rw [World.size_alloc, World.size_alloc])
  case round =>
    obtain ⟨k, hk, rfl, H0, H1, H2, HB⟩ := hrel
    by_cases hlt : k < 16
    · have hk16 : (k : Int) < 16 := by omega
      have c0 := H0.out.cell k hlt
      have f0 := H0.out.free k
      have c1 := H1.out.cell k hlt
      have e0 : addK f g k k = f k := by simp [addK]
      rw [e0] at c0
      clear e0
      have hx : bits .xor .u8 (f k : Int) (g k : Int) = ((addK f g (k + 1) k : Nat) : Int) := by
        rw [nbits_xor _ _ (HF.out k hlt) (HG.out k hlt)]; simp [addK]
      go_wp2_with fail
      go_still_tail 8, (by kernel_rfl)
      change wpList _ _ _ _ _ wr.drew
      have f0' : wr.drew.frozen? ⟨w.heap.size, k, none⟩ = false := f0
      have c0' : wr.drew.cell? ⟨w.heap.size, k, none⟩ = some (.int .u8 (f k : Int)) := c0
      have H0' : Hid (HT 66 wr.drew w.heap.size (addK f g k)) := Lib.hid H0.out
      have H1' : Hid (HT 66 wr.drew (w.heap.size + 1) g) := Lib.hid H1.out
      have H2' : Hid (HT 66 wr.drew (w.heap.size + 1 + 1) fun _ => 0) := Lib.hid H2.out
      have HB' : Hid (Below w.heap.size w wr.drew) := Lib.hid HB.out.drew
      clear H0 H1 H2 HB c0 f0 c1
      generalize wr.drew = w2 at *
      go_wp2_with fail
      go_roundw
      case rel =>
        refine ⟨k + 1, by omega, by go_num, Lib.hid ?_, Lib.hid (H1'.out.other _ (by simp) _), Lib.hid (H2'.out.other _ (by simp; omega) _), Lib.hid (HB'.out.setCell (by simp) _)⟩
        exact H0'.out.set k _ hlt rfl fun i hi hik => by
          unfold addK
          by_cases h1 : i < k
          · rw [if_pos h1, if_pos (by omega)]
          · rw [if_neg h1, if_neg (by omega)]
      case measure => simp [intOf]; omega
    · obtain rfl : k = 16 := by omega
      have d0 : wr.heap[w.heap.size]? = some (.cells (aN 16 (sAdd f g)) 66 (0, 0)) := H0.out.congr (addK_end _ _)
      have d1 : wr.heap[w.heap.size + 1 + 1]? = some (.cells (aN 16 fun _ => 0) 66 (0, 0)) := H2.out
      go_wp2_with (first
        | (refine wpList_load_row rfl 66 (.tmp 2) rfl w.heap.size rfl 66 _ (0, 0) (.array 16 5) d0 Try.underlying66 rfl (by rw [aN_size]; kernel_rfl) ?_)
        | (refine wpList_store_row rfl 66 (.tmp 4) (.tmp 18) rfl (w.heap.size + 1 + 1) (aN 16 (sAdd f g)) rfl rfl 66 _ d1 (by rw [aN_size]; kernel_rfl) (by rw [aN_size, aN_size]) (aN_one _ _) ?_))
      refine bodyPost_ret (v := .agg (aN 16 (sAdd f g))) (results_cell_row (p := 4) (ty := 66) (by kernel_rfl) _ _ (w.heap.size + 1 + 1) 66 (aN 16 (sAdd f g)) (0, 0) (.array 16 5) rfl ?_ Try.underlying66 rfl (by rw [aN_size]; kernel_rfl)) rfl ⟨rfl, ?_⟩
      · exact setRow_heap _ _ _ _ _ _ d1
      · exact below_setRow HB.out _ (by omega) _

set_option maxRecDepth 100000 in
set_option maxHeartbeats 1000000 in
theorem each_sub (f : Nat → Nat) (w : World) (hf : B16 f) :
    Calls Try.prog 41 #[.agg (aN 16 f), .func (.func 42) #[] #[]] w fun e w' => e = .returned (.agg (aN 16 (sMap gs f))) ∧ Below w.heap.size w w' := by
  have HF := Lib.hid hf; clear hf
  go_enter Try.func41, Try.ntmps41
  go_wp2_with fail
  go_loopw [6] (fun i wr => ∃ k : Nat, k ≤ 16 ∧ i = .int .i64 k ∧ Hid (HT 66 wr w.heap.size (mapK gs f k)) ∧ Hid (HT 66 wr (w.heap.size + 1) fun _ => 0) ∧ Hid (Below w.heap.size w wr)) (fun i _ => 16 - (intOf i).toNat)
  case atStart =>
    refine ⟨0, by omega, rfl, Lib.hid ?_, Lib.hid ?_, Lib.hid (((Below.refl _ _).alloc (Nat.le_refl _) _).alloc (by simp) _)⟩
    · exact HT.alloc _ ((HT.newAt rfl).congr fun i _ => by simp [mapK])
    · exact HT.newAt (w := w.alloc (.cells (aN 16 f) 66)) (b := w.heap.size + 1) (f := fun _ => 0) (by rw [World.size_alloc])
  case round =>
    obtain ⟨k, hk, rfl, H0, H1, HB⟩ := hrel
    by_cases hlt : k < 16
    · have hk16 : (k : Int) < 16 := by omega
      have c0 := H0.out.cell k hlt
      have f0 := H0.out.free k
      have e0 : mapK gs f k k = f k := by simp [mapK]
      rw [e0] at c0
      clear e0
      have la := HF.out k hlt
      have hx : ((gs (f k) : Nat) : Int) = ((mapK gs f (k + 1) k : Nat) : Int) := by simp [mapK]
      have HX := Lib.hid hx; clear hx
      go_wp2_with fail
      refine (sub_any (f k) _ la).mono ?_
      rintro e w2 ⟨rfl, rfl⟩
      skip
      rw [HX.out]
      go_wp2_with fail
      go_roundw
      case rel =>
        refine ⟨k + 1, by omega, by go_num, Lib.hid ?_, Lib.hid (H1.out.other _ (by simp) _), Lib.hid (HB.out.setCell (by simp) _)⟩
        exact H0.out.set k _ hlt rfl fun i hi hik => by
          unfold mapK
          by_cases h1 : i < k
          · rw [if_pos h1, if_pos (by omega)]
          · rw [if_neg h1, if_neg (by omega)]
      case measure => simp [intOf]; omega
    · obtain rfl : k = 16 := by omega
      have d0 : wr.heap[w.heap.size]? = some (.cells (aN 16 (sMap gs f)) 66 (0, 0)) := H0.out.congr (mapK_end _ _)
      have d1 : wr.heap[w.heap.size + 1]? = some (.cells (aN 16 fun _ => 0) 66 (0, 0)) := H1.out
      go_wp2_with (first
        | (refine wpList_load_row rfl 66 (.tmp 2) rfl w.heap.size rfl 66 _ (0, 0) (.array 16 5) d0 Try.underlying66 rfl (by rw [aN_size]; kernel_rfl) ?_)
        | (refine wpList_store_row rfl 66 (.tmp 4) (.tmp 17) rfl (w.heap.size + 1) (aN 16 (sMap gs f)) rfl rfl 66 _ d1 (by rw [aN_size]; kernel_rfl) (by rw [aN_size, aN_size]) (aN_one _ _) ?_))
      refine bodyPost_ret (v := .agg (aN 16 (sMap gs f))) (results_cell_row (p := 4) (ty := 66) (by kernel_rfl) _ _ (w.heap.size + 1) 66 (aN 16 (sMap gs f)) (0, 0) (.array 16 5) rfl ?_ Try.underlying66 rfl (by rw [aN_size]; kernel_rfl)) rfl ⟨rfl, ?_⟩
      · exact setRow_heap _ _ _ _ _ _ d1
      · exact below_setRow HB.out _ (by omega) _

end Go.Proofs.Ytfgigoheaoanpaa
