/-
  The code's words of a key. (Printed by wip/gen/aescode.py.)
-/
import Derived.Test.YtkfmgjipocmkjaaAesH
import Derived.Test.YtkfmgjipocmkjaaFoldD
import Derived.Test.YtkfmgjipocmkjaaAesD
import Derived.Laws.MakeOwn
import Derived.Deep.RegionWith
namespace Go.Proofs.Ytkfmgjipocmkjaa
open Go Go.RowKit
set_option linter.unusedVariables false
set_option linter.unusedSimpArgs false

/-- Block b holds n bytes, as cells of type t. -/
def HV (n : Nat) (t : TypeId) (w : World) (b : Nat) (f : Nat → Nat) : Prop := w.heap[b]? = some (.cells (aN n f) t (0, 0))
section
variable {n : Nat} {t : TypeId} {w w' : World} {b g : Nat} {f z : Nat → Nat}
theorem HV.lt (h : HV n t w b f) : b < w.heap.size := (Array.getElem?_eq_some_iff.1 h).1
theorem HV.cell (h : HV n t w b f) (k : Nat) (hk : k < n) : w.cell? ⟨b, k, none⟩ = some (.int .u8 (f k : Int)) := by
  rw [cell_of_row _ _ _ _ _ _ h]; exact aN_get n f k hk
theorem HV.free (h : HV n t w b f) (k : Nat) : w.frozen? ⟨b, k, none⟩ = false := frozen_of_row _ _ _ _ _ h
theorem HV.below {B : Nat} (hb : Below B w w') (h : HV n t w b f) (hB : b < B) : HV n t w' b f := (hb.block b hB).trans h
theorem HV.call (hb : Below w.heap.size w w') (h : HV n t w b f) : HV n t w' b f := h.below hb h.lt
theorem HV.alloc (o : Obj) (h : HV n t w b f) : HV n t (w.alloc o) b f := (heap_alloc_old w o h.lt).trans h
theorem HV.newAt (h : b = w.heap.size) : HV n t (w.alloc (.cells (aN n f) t)) b f := h ▸ heap_alloc_new w _
theorem HV.other (h : HV n t w b f) (a : Addr) (hg : b ≠ a.block) (v : Value) : HV n t (w.setCell a v) b f := (heap_setCell_other _ _ _ _ hg).trans h
theorem HV.set (h : HV n t w b f) (k v : Nat) (hk : k < n) (hv : z k = v) (ho : ∀ j, j < n → j ≠ k → z j = f j) : HV n t (w.setCell ⟨b, k, none⟩ (.int .u8 (v : Int))) b z := by
  unfold HV
  rw [heap_setCell_same _ _ _ _ _ _ h, aN_set n f z k v hk hv ho]
theorem HV.congr (h : HV n t w b f) (e : ∀ i, i < n → f i = z i) : HV n t w b z := by
  unfold HV at *
  rw [h, aN_congr e]
theorem HV.drew (h : HV n t w b f) : HV n t w.drew b f := h
theorem HV.setRow_of {F G h : Nat → Nat} {off m : Nat} (hw : w' = w.setRow b (splice (vl n F) off (vl m h)).toArray) (hb : HV n t w b F) (hf : off + m ≤ n) (e : ∀ i, i < n → lay F h off m i = G i) : HV n t w' b G := by
  subst hw
  rw [splice_vl n m off F h hf, vl_congr e]
  exact setRow_heap _ _ _ _ _ _ hb
/-- Four cells in a row set. -/
theorem HV.four (h : HV n t w b f) (o : Nat) (ho : o + 4 ≤ n) (x : Nat → Nat) (hz : ∀ j, j < n → z j = if o ≤ j ∧ j < o + 4 then x (j - o) else f j) :
    HV n t ((((w.setCell ⟨b, o, none⟩ (.int .u8 (x 0 : Int))).setCell ⟨b, o + 1, none⟩ (.int .u8 (x 1 : Int))).setCell ⟨b, o + 2, none⟩ (.int .u8 (x 2 : Int))).setCell ⟨b, o + 3, none⟩ (.int .u8 (x 3 : Int))) b z := by
  have s0 := HV.set (z := fun j => if o ≤ j ∧ j < o + 1 then x (j - o) else f j) h o (x 0) (by omega) (by simp) (fun j _ hj => by rw [if_neg (by omega)])
  have s1 := HV.set (z := fun j => if o ≤ j ∧ j < o + 2 then x (j - o) else f j) s0 (o + 1) (x 1) (by omega) (by rw [if_pos (by omega), show o + 1 - o = 1 from by omega]) (fun j _ hj => by
    by_cases e : o ≤ j ∧ j < o + 1
    · rw [if_pos e, if_pos (by omega)]
    · rw [if_neg e, if_neg (by omega)])
  have s2 := HV.set (z := fun j => if o ≤ j ∧ j < o + 3 then x (j - o) else f j) s1 (o + 2) (x 2) (by omega) (by rw [if_pos (by omega), show o + 2 - o = 2 from by omega]) (fun j _ hj => by
    by_cases e : o ≤ j ∧ j < o + 2
    · rw [if_pos e, if_pos (by omega)]
    · rw [if_neg e, if_neg (by omega)])
  exact HV.set s2 (o + 3) (x 3) (by omega) (by rw [hz _ (by omega), if_pos (by omega), show o + 3 - o = 3 from by omega]) (fun j hj hne => by
    rw [hz j hj]
    by_cases e : o ≤ j ∧ j < o + 3
    · rw [if_pos e, if_pos (by omega)]
    · rw [if_neg e, if_neg (by omega)])
end
theorem made_one (z : Array Value) (hz : ∀ i, z[i % z.size]! = Value.int .u8 0) (n : Nat) : madeCells z n = aN n fun _ => 0 := by
  apply Array.ext_getElem?
  intro i
  by_cases h : i < n
  · rw [aN_get n _ i h]
    simp [madeCells, h, hz]
  · rw [Array.getElem?_eq_none (by simp [madeCells]; omega), Array.getElem?_eq_none (by rw [aN_size]; omega)]
theorem zero4_at (i : Nat) : (#[.int .u8 0, .int .u8 0, .int .u8 0, .int .u8 0] : Array Value)[i % 4]! = Value.int .u8 0 := by
  have h : i % 4 < 4 := by omega
  generalize i % 4 = k at h
  rcases k with _ | _ | _ | _ | k
  · rfl
  · rfl
  · rfl
  · rfl
  · omega
theorem zero16_at (i : Nat) : (aN 16 fun _ => 0)[i % 16]! = Value.int .u8 0 := by
  have h : i % 16 < 16 := by omega
  rw [getElem!_def, aN_get 16 _ _ h]
  rfl
theorem info_word : (Try.prog.info? 65).map (fun i => (i.zero, i.size, i.bytes)) = some (some (.agg #[.int .u8 0, .int .u8 0, .int .u8 0, .int .u8 0]), 4, 4) := by kernel_rfl
theorem info_state : (Try.prog.info? 66).map (fun i => (i.zero, i.size, i.bytes)) = some (some (.agg (aN 16 fun _ => 0)), 16, 16) := by kernel_rfl
theorem make_words (M : Nat) (hM : M ≤ 1000) (w : World) : (Instr.makeSlice 61 (.int .i64 (M : Int)) (.int .i64 (M : Int))).run Try.prog w = .ok (.slice (some ⟨w.heap.size, 0, none⟩) M M) (w.alloc (.cells (aN (4 * M) fun _ => 0) 65)) := by
  obtain ⟨i, hi, hz0, hz1, hz2⟩ := info_parts info_word
  have := run_make (P := Try.prog) w 61 65 i _ Try.underlying61 hi hz0 .i64 .i64 (M : Int) (M : Int) (by omega) (by omega) (by rw [hz2]; omega) (by omega)
  rw [this]
  simp only [Int.toNat_natCast, hz1]
  rw [Nat.mul_comm M 4, show (Value.agg #[.int .u8 0, .int .u8 0, .int .u8 0, .int .u8 0]).cells = #[.int .u8 0, .int .u8 0, .int .u8 0, .int .u8 0] from rfl, made_one _ zero4_at]
theorem make_states (M : Nat) (hM : M ≤ 1000) (w : World) : (Instr.makeSlice 64 (.int .i64 (M : Int)) (.int .i64 (M : Int))).run Try.prog w = .ok (.slice (some ⟨w.heap.size, 0, none⟩) M M) (w.alloc (.cells (aN (16 * M) fun _ => 0) 66)) := by
  obtain ⟨i, hi, hz0, hz1, hz2⟩ := info_parts info_state
  have := run_make (P := Try.prog) w 64 66 i _ Try.underlying64 hi hz0 .i64 .i64 (M : Int) (M : Int) (by omega) (by omega) (by rw [hz2]; omega) (by omega)
  rw [this]
  simp only [Int.toNat_natCast, hz1]
  rw [Nat.mul_comm M 16, show (Value.agg (aN 16 fun _ => 0)).cells = aN 16 fun _ => 0 from rfl, made_one _ (fun i => by rw [aN_size]; exact zero16_at i)]

set_option maxRecDepth 100000 in
theorem words_none (A : Option Addr) (N cap : Nat) (h1 : N ≠ 16) (h2 : N ≠ 32) (w : World) :
    Calls Try.prog 36 #[.slice A N cap] w fun e w' => e = .returned (.tuple #[.slice none 0 0, .int .i64 2]) ∧ w' = w := by
  have e1 : ((N : Int) != 16) = true := by simp; omega
  have e2 : ((N : Int) != 32) = true := by simp; omega
  clear h1 h2
  go_enter Try.func36, Try.ntmps36
  go_wp2_with fail
  go_ret2
  exact ⟨rfl, rfl⟩

theorem two_start {N : Nat} {t : TypeId} {w : World} {g m n : Nat} {F a b : Nat → Nat} (h : Hid (HV N t w g F)) (ha : Hid (∀ p, p < 4 → a p = F (m * 4 + p))) (hb : Hid (∀ p, p < 4 → b p = F (n * 4 + p))) (hm : m * 4 + 4 ≤ N) (hn : n * 4 + 4 ≤ N) :
    w.drew.cell? ⟨g, m * 4, none⟩ = some (.int .u8 (a 0 : Int)) ∧ w.drew.cell? ⟨g, m * 4 + 1, none⟩ = some (.int .u8 (a 1 : Int)) ∧ w.drew.cell? ⟨g, m * 4 + 2, none⟩ = some (.int .u8 (a 2 : Int)) ∧ w.drew.cell? ⟨g, m * 4 + 3, none⟩ = some (.int .u8 (a 3 : Int)) ∧ w.drew.cell? ⟨g, n * 4, none⟩ = some (.int .u8 (b 0 : Int)) ∧ w.drew.cell? ⟨g, n * 4 + 1, none⟩ = some (.int .u8 (b 1 : Int)) ∧ w.drew.cell? ⟨g, n * 4 + 2, none⟩ = some (.int .u8 (b 2 : Int)) ∧ w.drew.cell? ⟨g, n * 4 + 3, none⟩ = some (.int .u8 (b 3 : Int)) := by
  have ha := ha.out
  have hb := hb.out
  rw [ha 0 (by omega), ha 1 (by omega), ha 2 (by omega), ha 3 (by omega), hb 0 (by omega), hb 1 (by omega), hb 2 (by omega), hb 3 (by omega)]
  have h := h.out.drew
  exact ⟨h.cell _ (by omega), h.cell _ (by omega), h.cell _ (by omega), h.cell _ (by omega), h.cell _ (by omega), h.cell _ (by omega), h.cell _ (by omega), h.cell _ (by omega)⟩
theorem cell_call {W w1 : World} {p : Addr} {v : Value} (hb : Below W.heap.size W w1) (h : W.cell? p = some v) : w1.cell? p = some v := (hb.cell (block_lt_of_cell h)).trans h
theorem two_call {W w1 : World} {g m n : Nat} {a b : Nat → Nat}
    (h : W.cell? ⟨g, m * 4, none⟩ = some (.int .u8 (a 0 : Int)) ∧ W.cell? ⟨g, m * 4 + 1, none⟩ = some (.int .u8 (a 1 : Int)) ∧ W.cell? ⟨g, m * 4 + 2, none⟩ = some (.int .u8 (a 2 : Int)) ∧ W.cell? ⟨g, m * 4 + 3, none⟩ = some (.int .u8 (a 3 : Int)) ∧ W.cell? ⟨g, n * 4, none⟩ = some (.int .u8 (b 0 : Int)) ∧ W.cell? ⟨g, n * 4 + 1, none⟩ = some (.int .u8 (b 1 : Int)) ∧ W.cell? ⟨g, n * 4 + 2, none⟩ = some (.int .u8 (b 2 : Int)) ∧ W.cell? ⟨g, n * 4 + 3, none⟩ = some (.int .u8 (b 3 : Int)))
    (hb : Below W.heap.size W w1) :
    w1.cell? ⟨g, m * 4, none⟩ = some (.int .u8 (a 0 : Int)) ∧ w1.cell? ⟨g, m * 4 + 1, none⟩ = some (.int .u8 (a 1 : Int)) ∧ w1.cell? ⟨g, m * 4 + 2, none⟩ = some (.int .u8 (a 2 : Int)) ∧ w1.cell? ⟨g, m * 4 + 3, none⟩ = some (.int .u8 (a 3 : Int)) ∧ w1.cell? ⟨g, n * 4, none⟩ = some (.int .u8 (b 0 : Int)) ∧ w1.cell? ⟨g, n * 4 + 1, none⟩ = some (.int .u8 (b 1 : Int)) ∧ w1.cell? ⟨g, n * 4 + 2, none⟩ = some (.int .u8 (b 2 : Int)) ∧ w1.cell? ⟨g, n * 4 + 3, none⟩ = some (.int .u8 (b 3 : Int)) := by
  obtain ⟨h1, h2, h3, h4, h5, h6, h7, h8⟩ := h
  exact ⟨cell_call hb h1, cell_call hb h2, cell_call hb h3, cell_call hb h4, cell_call hb h5, cell_call hb h6, cell_call hb h7, cell_call hb h8⟩
theorem cell_store {W : World} {g o i : Nat} {v v0 v1 v2 v3 : Value} (ho : o < i * 4) (h : W.cell? ⟨g, o, none⟩ = some v) :
    ((((W.setCell ⟨g, i * 4, none⟩ v0).setCell ⟨g, i * 4 + 1, none⟩ v1).setCell ⟨g, i * 4 + 2, none⟩ v2).setCell ⟨g, i * 4 + 3, none⟩ v3).cell? ⟨g, o, none⟩ = some v := by
  rw [World.cell?_setCell_other _ _ _ _ (fun e => by injection e with _ e _; omega), World.cell?_setCell_other _ _ _ _ (fun e => by injection e with _ e _; omega), World.cell?_setCell_other _ _ _ _ (fun e => by injection e with _ e _; omega), World.cell?_setCell_other _ _ _ _ (fun e => by injection e with _ e _; omega), h]
theorem two_store {W : World} {g m n i : Nat} {a b : Nat → Nat} {v0 v1 v2 v3 : Value} (hm : m < i) (hn : n < i)
    (h : W.cell? ⟨g, m * 4, none⟩ = some (.int .u8 (a 0 : Int)) ∧ W.cell? ⟨g, m * 4 + 1, none⟩ = some (.int .u8 (a 1 : Int)) ∧ W.cell? ⟨g, m * 4 + 2, none⟩ = some (.int .u8 (a 2 : Int)) ∧ W.cell? ⟨g, m * 4 + 3, none⟩ = some (.int .u8 (a 3 : Int)) ∧ W.cell? ⟨g, n * 4, none⟩ = some (.int .u8 (b 0 : Int)) ∧ W.cell? ⟨g, n * 4 + 1, none⟩ = some (.int .u8 (b 1 : Int)) ∧ W.cell? ⟨g, n * 4 + 2, none⟩ = some (.int .u8 (b 2 : Int)) ∧ W.cell? ⟨g, n * 4 + 3, none⟩ = some (.int .u8 (b 3 : Int))) :
    let w1 := (((W.setCell ⟨g, i * 4, none⟩ v0).setCell ⟨g, i * 4 + 1, none⟩ v1).setCell ⟨g, i * 4 + 2, none⟩ v2).setCell ⟨g, i * 4 + 3, none⟩ v3
    w1.cell? ⟨g, m * 4, none⟩ = some (.int .u8 (a 0 : Int)) ∧ w1.cell? ⟨g, m * 4 + 1, none⟩ = some (.int .u8 (a 1 : Int)) ∧ w1.cell? ⟨g, m * 4 + 2, none⟩ = some (.int .u8 (a 2 : Int)) ∧ w1.cell? ⟨g, m * 4 + 3, none⟩ = some (.int .u8 (a 3 : Int)) ∧ w1.cell? ⟨g, n * 4, none⟩ = some (.int .u8 (b 0 : Int)) ∧ w1.cell? ⟨g, n * 4 + 1, none⟩ = some (.int .u8 (b 1 : Int)) ∧ w1.cell? ⟨g, n * 4 + 2, none⟩ = some (.int .u8 (b 2 : Int)) ∧ w1.cell? ⟨g, n * 4 + 3, none⟩ = some (.int .u8 (b 3 : Int)) := by
  obtain ⟨h1, h2, h3, h4, h5, h6, h7, h8⟩ := h
  exact ⟨cell_store (by omega) h1, cell_store (by omega) h2, cell_store (by omega) h3, cell_store (by omega) h4, cell_store (by omega) h5, cell_store (by omega) h6, cell_store (by omega) h7, cell_store (by omega) h8⟩

/-- The first k words. -/
def wK (F : Nat → Nat) (k j : Nat) : Nat := if j < 4 * k then F j else 0

set_option maxRecDepth 100000 in
set_option maxHeartbeats 4000000 in
theorem words16_any (A : Option Addr) (l : List Nat) (cap : Nat) (hn : l.length = 16) (hcap : 16 ≤ cap) (hl : ∀ x ∈ l, x < 256) (w : World) (h : Rd w w.heap.size A (vn l)) :
    Calls Try.prog 36 #[.slice A 16 cap] w fun e w' => e = .returned (.tuple #[.slice (some ⟨w.heap.size, 0, none⟩) 44 44, .int .i64 0]) ∧ HV 176 65 w' w.heap.size (kF l) ∧ Below w.heap.size w w' := by
  have hmk : ∀ w : World, (Instr.makeSlice 61 (.int .i64 44) (.int .i64 44)).run Try.prog w = .ok (.slice (some ⟨w.heap.size, 0, none⟩) 44 44) (w.alloc (.cells (aN 176 fun _ => 0) 65)) := fun w => make_words 44 (by omega) w
  obtain ⟨ad, hA, -⟩ := h.num (k := 0) (by omega)
  subst hA
  have HN := Lib.hid hn; clear hn
  have HL := Lib.hid hl; clear hl
  have H := Lib.hid h; clear h
  go_enter Try.func36, Try.ntmps36
  go_wp2_with fail
  clear hmk
  go_loopw [27] (fun i wr => ∃ k : Nat, k ≤ 44 ∧ i = .int .i64 k ∧ Hid (HV 176 65 wr w.heap.size (wK (kF l) k)) ∧ Hid (Below w.heap.size w wr)) (fun i _ => 44 - (intOf i).toNat)
  case atStart =>
    refine ⟨0, by omega, rfl, Lib.hid ?_, Lib.hid ((Below.refl _ _).alloc (Nat.le_refl _) _)⟩
    exact (HV.newAt rfl).congr fun i _ => by simp [wK]
  case round =>
    obtain ⟨i, hi, rfl, H0, HB⟩ := hrel
    by_cases hlt : i < 44
    · have hi1 : (i : Int) < 44 := by omega
      have hi0 : (0 : Int) ≤ (i : Int) := by omega
      by_cases hk : i < 4
      · have hik : (i : Int) < 4 := by omega
        have hs : IntKind.i64.wrap (4 * (i : Int)) = 4 * (i : Int) := IntWalk.i64_in _ (by omega)
        have hs0 : (0 : Int) ≤ 4 * (i : Int) := by omega
        have hs1 : (4 * (i : Int)).toNat = 4 * i := by omega
        have hs2 : 4 * (i : Int) ≤ (cap : Int) := by omega
        have hs3 : ¬ cap = 4 * i := by omega
        have hs4 : 4 * (i : Int) ≤ 16 := by omega
        have HSRC : Hid (∀ j v, (vl 4 fun p => kF l (4 * i + p))[j]? = some v → wr.drew.cell? ((ad.add (4 * i)).add j) = some v) := Lib.hid fun j v hj => by
          have hl4 : j < 4 := by have := (List.getElem?_eq_some_iff.1 hj).1; rwa [vl_len] at this
          have hN := HN.out
          rw [vl_get _ _ _ hl4, kF_key l _ (by omega)] at hj
          obtain ⟨ad', e1, _, e2⟩ := (H.out.below HB.out).num (k := 4 * i + j) (by omega)
          obtain rfl : ad' = ad := by injection e1 with e1; exact e1.symm
          rw [add_add, ← hj]
          exact e2
        go_upto_region 10 with fail
        go_region_held3 (fun _ => True) (trivial) ((refine step_copy_set rfl (.tmp 36) (.tmp 40) 22 22 rfl 5 Try.underlying22 size_one w.heap.size (i * 4) 4 4 (ad.add (4 * i)) (16 - 4 * i) (cap - 4 * i) rfl rfl (vl 176 (wK (kF l) i)) 65 H0.out (vl 4 fun p => kF l (4 * i + p)) (by rw [vl_len]; exact (Nat.min_eq_right (by omega)).symm) HSRC.out (by rw [vl_len, vl_len]; omega) (vl_one _ _) ?_; intro w4 hw4))
        have H0' : Hid (HV 176 65 w4 w.heap.size (wK (kF l) (i + 1))) := Lib.hid (HV.setRow_of hw4.out H0.out.drew (by omega) fun j hj => by
          unfold lay wK
          by_cases h1 : i * 4 ≤ j ∧ j < i * 4 + 4
          · rw [if_pos h1, if_pos (by omega)]; show kF l (4 * i + (j - i * 4)) = kF l j; rw [show 4 * i + (j - i * 4) = j from by omega]
          · rw [if_neg h1]
            by_cases h2 : j < 4 * i
            · rw [if_pos h2, if_pos (by omega)]
            · rw [if_neg h2, if_neg (by omega)])
        have HB' : Hid (Below w.heap.size w w4) := Lib.hid (by rw [hw4.out]; exact below_setRow HB.out.drew _ (Nat.le_refl _) _)
        clear H0 HB hw4 HSRC hs hs0 hs1 hs2 hs3 hs4
        go_wp2_with fail
        go_roundw
        case rel => exact ⟨i + 1, by omega, by go_num, H0', HB'⟩
        case measure => simp [intOf]; omega
      · obtain ⟨m, hm⟩ : ∃ m, i = m + 4 := ⟨i - 4, by omega⟩
        obtain ⟨n, hn⟩ : ∃ n, i = n + 1 := ⟨i - 1, by omega⟩
        have hmi : m < i := by omega
        have hni : n < i := by omega
        have hkf : ∀ p, p < 4 → kF l (4 * i + p) = kF l (4 * m + p) ^^^ kT 4 i (fun p => kF l (4 * n + p)) p := fun p hp => by
          have := kF_next l 4 i p HN.out (by omega) (by omega) (by omega) hp
          rw [this, Nat.xor_comm, show i - 4 = m from by omega, show i - 1 = n from by omega]
        obtain ⟨a, ha⟩ : ∃ a : Nat → Nat, ∀ p, p < 4 → a p = kF l (4 * m + p) := ⟨fun p => kF l (4 * m + p), fun _ _ => rfl⟩
        obtain ⟨b, hbv⟩ : ∃ b : Nat → Nat, ∀ p, b p = kF l (4 * n + p) := ⟨fun p => kF l (4 * n + p), fun _ => rfl⟩
        have HKF : Hid (∀ p, p < 4 → kF l (4 * i + p) = a p ^^^ kT 4 i b p) := Lib.hid fun p hp => by
          rw [hkf p hp, ha p hp]
          exact congrArg (fun x => kF l (4 * m + p) ^^^ x) (kT_eq _ _ _ _ (fun q _ => (hbv q).symm) p hp)
        have HA8 : Hid (∀ p, p < 4 → a p < 256) := Lib.hid fun p hp => by rw [ha p hp]; exact kF_lt l HL.out _
        have HB8 : Hid (∀ p, p < 4 → b p < 256) := Lib.hid fun p hp => by rw [hbv p]; exact kF_lt l HL.out _
        have HT8 : Hid (∀ p, p < 4 → kT 4 i b p < 256) := Lib.hid fun p hp => kT_lt 4 i b (fun p => by rw [hbv p]; exact kF_lt l HL.out _) p
        have HAM : Hid (∀ p, p < 4 → a p = wK (kF l) i (m * 4 + p)) := Lib.hid fun p hp => by rw [ha p hp]; unfold wK; rw [if_pos (by omega), Nat.mul_comm]
        have HBM : Hid (∀ p, p < 4 → b p = wK (kF l) i (n * 4 + p)) := Lib.hid fun p hp => by rw [hbv p]; unfold wK; rw [if_pos (by omega), Nat.mul_comm]
        have s1 : IntKind.i64.wrap ((i : Int) - 4) = (m : Int) := (IntWalk.i64_in _ (by omega)).trans (by omega)
        have s2 : IntKind.i64.wrap ((i : Int) - 1) = (n : Int) := (IntWalk.i64_in _ (by omega)).trans (by omega)
        have s3 : (i : Int) - 4 = (m : Int) := by omega
        have s4 : (i : Int) - 1 = (n : Int) := by omega
        have hm0 : (m : Int) < 44 := by omega
        have hn0 : (n : Int) < 44 := by omega
        have hm1 : (0 : Int) ≤ (m : Int) := by omega
        have hn1 : (0 : Int) ≤ (n : Int) := by omega
        have hKi : 4 ≤ i := by omega
        have hik : ¬ (i : Int) < 4 := by omega
        clear hm hn hkf ha hbv
        have S1 := Lib.hid s1; have S2 := Lib.hid s2; have S3 := Lib.hid s3; have S4 := Lib.hid s4
        clear s1 s2 s3 s4
        go_upto_region 11 with fail
        have s1 := S1.out; have s2 := S2.out
        clear S1 S2 S3 S4
        go_region_held3 (fun w' => w'.cell? ⟨w.heap.size, m * 4, none⟩ = some (.int .u8 (a 0 : Int)) ∧ w'.cell? ⟨w.heap.size, m * 4 + 1, none⟩ = some (.int .u8 (a 1 : Int)) ∧ w'.cell? ⟨w.heap.size, m * 4 + 2, none⟩ = some (.int .u8 (a 2 : Int)) ∧ w'.cell? ⟨w.heap.size, m * 4 + 3, none⟩ = some (.int .u8 (a 3 : Int)) ∧ w'.cell? ⟨w.heap.size, n * 4, none⟩ = some (.int .u8 (b 0 : Int)) ∧ w'.cell? ⟨w.heap.size, n * 4 + 1, none⟩ = some (.int .u8 (b 1 : Int)) ∧ w'.cell? ⟨w.heap.size, n * 4 + 2, none⟩ = some (.int .u8 (b 2 : Int)) ∧ w'.cell? ⟨w.heap.size, n * 4 + 3, none⟩ = some (.int .u8 (b 3 : Int)))
          ((first
            | (with_reducible exact two_start H0 HAM HBM (by omega) (by omega))
            | (with_reducible exact two_call (by assumption) (by assumption))
            | (with_reducible exact two_store hmi hni (by assumption))))
          (first
            | (go_at_call 63; refine (changed4_any b i _ HB8.out hKi (by omega)).mono ?_; rintro e w1 ⟨rfl, hb1⟩)
            | (go_at_call 62; refine (sum_any a (kT 4 i b) _ HA8.out HT8.out).mono ?_; rintro e w2 ⟨rfl, hb2⟩; have hrow : HV 176 65 w2 w.heap.size (wK (kF l) i) := HV.call hb2 (HV.call (by assumption) H0.out.drew); have q0 := hrow.cell (i * 4) (by omega); have q1 := hrow.cell (i * 4 + 1) (by omega); have q2 := hrow.cell (i * 4 + 2) (by omega); have q3 := hrow.cell (i * 4 + 3) (by omega); have r0 := hrow.free (i * 4); have r1 := hrow.free (i * 4 + 1); have r2 := hrow.free (i * 4 + 2); have r3 := hrow.free (i * 4 + 3); have hbw := (HB.out.drew.trans (Below.mono (by assumption) HB.out.drew.size)).trans (hb2.mono (Below.size (HB.out.drew.trans (Below.mono (by assumption) HB.out.drew.size)))); have HR := Lib.hid hrow; clear hrow; have HBW := Lib.hid hbw; clear hbw))
        clear s1 s2 hm0 hn0 hm1 hn1
        have h0 := HR.out.four (z := wK (kF l) (i + 1)) (i * 4) (by omega) (fun p => a p ^^^ kT 4 i b p) (fun j hj => by
          by_cases e : i * 4 ≤ j ∧ j < i * 4 + 4
          · rw [if_pos e]
            show wK (kF l) (i + 1) j = a (j - i * 4) ^^^ kT 4 i b (j - i * 4)
            rw [← HKF.out (j - i * 4) (by omega), show 4 * i + (j - i * 4) = j from by omega]
            unfold wK
            rw [if_pos (by omega)]
          · rw [if_neg e]
            unfold wK
            by_cases e2 : j < 4 * i
            · rw [if_pos e2, if_pos (by omega)]
            · rw [if_neg e2, if_neg (by omega)])
        have hB := (((HBW.out.setCell (p := ⟨w.heap.size, i * 4, none⟩) (Nat.le_refl _) (.int .u8 ((a 0 ^^^ kT 4 i b 0 : Nat) : Int))).setCell (p := ⟨w.heap.size, i * 4 + 1, none⟩) (Nat.le_refl _) (.int .u8 ((a 1 ^^^ kT 4 i b 1 : Nat) : Int))).setCell (p := ⟨w.heap.size, i * 4 + 2, none⟩) (Nat.le_refl _) (.int .u8 ((a 2 ^^^ kT 4 i b 2 : Nat) : Int))).setCell (p := ⟨w.heap.size, i * 4 + 3, none⟩) (Nat.le_refl _) (.int .u8 ((a 3 ^^^ kT 4 i b 3 : Nat) : Int))
        have H0' := Lib.hid h0; clear h0
        have HB' := Lib.hid hB; clear hB
        clear H0 HB HR HBW HKF HA8 HB8 HT8 HAM HBM
        go_wp2_with fail
        go_roundw
        case rel => exact ⟨i + 1, by omega, by go_num, H0', HB'⟩
        case measure => simp [intOf]; omega
    · obtain rfl : i = 44 := by omega
      go_wp2_with fail
      go_ret2
      exact ⟨rfl, H0.out.congr fun j hj => by unfold wK; rw [if_pos (by omega)], HB.out⟩

set_option maxRecDepth 100000 in
set_option maxHeartbeats 4000000 in
theorem words32_any (A : Option Addr) (l : List Nat) (cap : Nat) (hn : l.length = 32) (hcap : 32 ≤ cap) (hl : ∀ x ∈ l, x < 256) (w : World) (h : Rd w w.heap.size A (vn l)) :
    Calls Try.prog 36 #[.slice A 32 cap] w fun e w' => e = .returned (.tuple #[.slice (some ⟨w.heap.size, 0, none⟩) 60 60, .int .i64 0]) ∧ HV 240 65 w' w.heap.size (kF l) ∧ Below w.heap.size w w' := by
  have hmk : ∀ w : World, (Instr.makeSlice 61 (.int .i64 60) (.int .i64 60)).run Try.prog w = .ok (.slice (some ⟨w.heap.size, 0, none⟩) 60 60) (w.alloc (.cells (aN 240 fun _ => 0) 65)) := fun w => make_words 60 (by omega) w
  obtain ⟨ad, hA, -⟩ := h.num (k := 0) (by omega)
  subst hA
  have HN := Lib.hid hn; clear hn
  have HL := Lib.hid hl; clear hl
  have H := Lib.hid h; clear h
  go_enter Try.func36, Try.ntmps36
  go_wp2_with fail
  clear hmk
  go_loopw [27] (fun i wr => ∃ k : Nat, k ≤ 60 ∧ i = .int .i64 k ∧ Hid (HV 240 65 wr w.heap.size (wK (kF l) k)) ∧ Hid (Below w.heap.size w wr)) (fun i _ => 60 - (intOf i).toNat)
  case atStart =>
    refine ⟨0, by omega, rfl, Lib.hid ?_, Lib.hid ((Below.refl _ _).alloc (Nat.le_refl _) _)⟩
    exact (HV.newAt rfl).congr fun i _ => by simp [wK]
  case round =>
    obtain ⟨i, hi, rfl, H0, HB⟩ := hrel
    by_cases hlt : i < 60
    · have hi1 : (i : Int) < 60 := by omega
      have hi0 : (0 : Int) ≤ (i : Int) := by omega
      by_cases hk : i < 8
      · have hik : (i : Int) < 8 := by omega
        have hs : IntKind.i64.wrap (4 * (i : Int)) = 4 * (i : Int) := IntWalk.i64_in _ (by omega)
        have hs0 : (0 : Int) ≤ 4 * (i : Int) := by omega
        have hs1 : (4 * (i : Int)).toNat = 4 * i := by omega
        have hs2 : 4 * (i : Int) ≤ (cap : Int) := by omega
        have hs3 : ¬ cap = 4 * i := by omega
        have hs4 : 4 * (i : Int) ≤ 32 := by omega
        have HSRC : Hid (∀ j v, (vl 4 fun p => kF l (4 * i + p))[j]? = some v → wr.drew.cell? ((ad.add (4 * i)).add j) = some v) := Lib.hid fun j v hj => by
          have hl4 : j < 4 := by have := (List.getElem?_eq_some_iff.1 hj).1; rwa [vl_len] at this
          have hN := HN.out
          rw [vl_get _ _ _ hl4, kF_key l _ (by omega)] at hj
          obtain ⟨ad', e1, _, e2⟩ := (H.out.below HB.out).num (k := 4 * i + j) (by omega)
          obtain rfl : ad' = ad := by injection e1 with e1; exact e1.symm
          rw [add_add, ← hj]
          exact e2
        go_upto_region 10 with fail
        go_region_held3 (fun _ => True) (trivial) ((refine step_copy_set rfl (.tmp 36) (.tmp 40) 22 22 rfl 5 Try.underlying22 size_one w.heap.size (i * 4) 4 4 (ad.add (4 * i)) (32 - 4 * i) (cap - 4 * i) rfl rfl (vl 240 (wK (kF l) i)) 65 H0.out (vl 4 fun p => kF l (4 * i + p)) (by rw [vl_len]; exact (Nat.min_eq_right (by omega)).symm) HSRC.out (by rw [vl_len, vl_len]; omega) (vl_one _ _) ?_; intro w4 hw4))
        have H0' : Hid (HV 240 65 w4 w.heap.size (wK (kF l) (i + 1))) := Lib.hid (HV.setRow_of hw4.out H0.out.drew (by omega) fun j hj => by
          unfold lay wK
          by_cases h1 : i * 4 ≤ j ∧ j < i * 4 + 4
          · rw [if_pos h1, if_pos (by omega)]; show kF l (4 * i + (j - i * 4)) = kF l j; rw [show 4 * i + (j - i * 4) = j from by omega]
          · rw [if_neg h1]
            by_cases h2 : j < 4 * i
            · rw [if_pos h2, if_pos (by omega)]
            · rw [if_neg h2, if_neg (by omega)])
        have HB' : Hid (Below w.heap.size w w4) := Lib.hid (by rw [hw4.out]; exact below_setRow HB.out.drew _ (Nat.le_refl _) _)
        clear H0 HB hw4 HSRC hs hs0 hs1 hs2 hs3 hs4
        go_wp2_with fail
        go_roundw
        case rel => exact ⟨i + 1, by omega, by go_num, H0', HB'⟩
        case measure => simp [intOf]; omega
      · obtain ⟨m, hm⟩ : ∃ m, i = m + 8 := ⟨i - 8, by omega⟩
        obtain ⟨n, hn⟩ : ∃ n, i = n + 1 := ⟨i - 1, by omega⟩
        have hmi : m < i := by omega
        have hni : n < i := by omega
        have hkf : ∀ p, p < 4 → kF l (4 * i + p) = kF l (4 * m + p) ^^^ kT 8 i (fun p => kF l (4 * n + p)) p := fun p hp => by
          have := kF_next l 8 i p HN.out (by omega) (by omega) (by omega) hp
          rw [this, Nat.xor_comm, show i - 8 = m from by omega, show i - 1 = n from by omega]
        obtain ⟨a, ha⟩ : ∃ a : Nat → Nat, ∀ p, p < 4 → a p = kF l (4 * m + p) := ⟨fun p => kF l (4 * m + p), fun _ _ => rfl⟩
        obtain ⟨b, hbv⟩ : ∃ b : Nat → Nat, ∀ p, b p = kF l (4 * n + p) := ⟨fun p => kF l (4 * n + p), fun _ => rfl⟩
        have HKF : Hid (∀ p, p < 4 → kF l (4 * i + p) = a p ^^^ kT 8 i b p) := Lib.hid fun p hp => by
          rw [hkf p hp, ha p hp]
          exact congrArg (fun x => kF l (4 * m + p) ^^^ x) (kT_eq _ _ _ _ (fun q _ => (hbv q).symm) p hp)
        have HA8 : Hid (∀ p, p < 4 → a p < 256) := Lib.hid fun p hp => by rw [ha p hp]; exact kF_lt l HL.out _
        have HB8 : Hid (∀ p, p < 4 → b p < 256) := Lib.hid fun p hp => by rw [hbv p]; exact kF_lt l HL.out _
        have HT8 : Hid (∀ p, p < 4 → kT 8 i b p < 256) := Lib.hid fun p hp => kT_lt 8 i b (fun p => by rw [hbv p]; exact kF_lt l HL.out _) p
        have HAM : Hid (∀ p, p < 4 → a p = wK (kF l) i (m * 4 + p)) := Lib.hid fun p hp => by rw [ha p hp]; unfold wK; rw [if_pos (by omega), Nat.mul_comm]
        have HBM : Hid (∀ p, p < 4 → b p = wK (kF l) i (n * 4 + p)) := Lib.hid fun p hp => by rw [hbv p]; unfold wK; rw [if_pos (by omega), Nat.mul_comm]
        have s1 : IntKind.i64.wrap ((i : Int) - 8) = (m : Int) := (IntWalk.i64_in _ (by omega)).trans (by omega)
        have s2 : IntKind.i64.wrap ((i : Int) - 1) = (n : Int) := (IntWalk.i64_in _ (by omega)).trans (by omega)
        have s3 : (i : Int) - 8 = (m : Int) := by omega
        have s4 : (i : Int) - 1 = (n : Int) := by omega
        have hm0 : (m : Int) < 60 := by omega
        have hn0 : (n : Int) < 60 := by omega
        have hm1 : (0 : Int) ≤ (m : Int) := by omega
        have hn1 : (0 : Int) ≤ (n : Int) := by omega
        have hKi : 8 ≤ i := by omega
        have hik : ¬ (i : Int) < 8 := by omega
        clear hm hn hkf ha hbv
        have S1 := Lib.hid s1; have S2 := Lib.hid s2; have S3 := Lib.hid s3; have S4 := Lib.hid s4
        clear s1 s2 s3 s4
        go_upto_region 11 with fail
        have s1 := S1.out; have s2 := S2.out
        clear S1 S2 S3 S4
        go_region_held3 (fun w' => w'.cell? ⟨w.heap.size, m * 4, none⟩ = some (.int .u8 (a 0 : Int)) ∧ w'.cell? ⟨w.heap.size, m * 4 + 1, none⟩ = some (.int .u8 (a 1 : Int)) ∧ w'.cell? ⟨w.heap.size, m * 4 + 2, none⟩ = some (.int .u8 (a 2 : Int)) ∧ w'.cell? ⟨w.heap.size, m * 4 + 3, none⟩ = some (.int .u8 (a 3 : Int)) ∧ w'.cell? ⟨w.heap.size, n * 4, none⟩ = some (.int .u8 (b 0 : Int)) ∧ w'.cell? ⟨w.heap.size, n * 4 + 1, none⟩ = some (.int .u8 (b 1 : Int)) ∧ w'.cell? ⟨w.heap.size, n * 4 + 2, none⟩ = some (.int .u8 (b 2 : Int)) ∧ w'.cell? ⟨w.heap.size, n * 4 + 3, none⟩ = some (.int .u8 (b 3 : Int)))
          ((first
            | (with_reducible exact two_start H0 HAM HBM (by omega) (by omega))
            | (with_reducible exact two_call (by assumption) (by assumption))
            | (with_reducible exact two_store hmi hni (by assumption))))
          (first
            | (go_at_call 63; refine (changed8_any b i _ HB8.out hKi (by omega)).mono ?_; rintro e w1 ⟨rfl, hb1⟩)
            | (go_at_call 62; refine (sum_any a (kT 8 i b) _ HA8.out HT8.out).mono ?_; rintro e w2 ⟨rfl, hb2⟩; have hrow : HV 240 65 w2 w.heap.size (wK (kF l) i) := HV.call hb2 (HV.call (by assumption) H0.out.drew); have q0 := hrow.cell (i * 4) (by omega); have q1 := hrow.cell (i * 4 + 1) (by omega); have q2 := hrow.cell (i * 4 + 2) (by omega); have q3 := hrow.cell (i * 4 + 3) (by omega); have r0 := hrow.free (i * 4); have r1 := hrow.free (i * 4 + 1); have r2 := hrow.free (i * 4 + 2); have r3 := hrow.free (i * 4 + 3); have hbw := (HB.out.drew.trans (Below.mono (by assumption) HB.out.drew.size)).trans (hb2.mono (Below.size (HB.out.drew.trans (Below.mono (by assumption) HB.out.drew.size)))); have HR := Lib.hid hrow; clear hrow; have HBW := Lib.hid hbw; clear hbw))
        clear s1 s2 hm0 hn0 hm1 hn1
        have h0 := HR.out.four (z := wK (kF l) (i + 1)) (i * 4) (by omega) (fun p => a p ^^^ kT 8 i b p) (fun j hj => by
          by_cases e : i * 4 ≤ j ∧ j < i * 4 + 4
          · rw [if_pos e]
            show wK (kF l) (i + 1) j = a (j - i * 4) ^^^ kT 8 i b (j - i * 4)
            rw [← HKF.out (j - i * 4) (by omega), show 4 * i + (j - i * 4) = j from by omega]
            unfold wK
            rw [if_pos (by omega)]
          · rw [if_neg e]
            unfold wK
            by_cases e2 : j < 4 * i
            · rw [if_pos e2, if_pos (by omega)]
            · rw [if_neg e2, if_neg (by omega)])
        have hB := (((HBW.out.setCell (p := ⟨w.heap.size, i * 4, none⟩) (Nat.le_refl _) (.int .u8 ((a 0 ^^^ kT 8 i b 0 : Nat) : Int))).setCell (p := ⟨w.heap.size, i * 4 + 1, none⟩) (Nat.le_refl _) (.int .u8 ((a 1 ^^^ kT 8 i b 1 : Nat) : Int))).setCell (p := ⟨w.heap.size, i * 4 + 2, none⟩) (Nat.le_refl _) (.int .u8 ((a 2 ^^^ kT 8 i b 2 : Nat) : Int))).setCell (p := ⟨w.heap.size, i * 4 + 3, none⟩) (Nat.le_refl _) (.int .u8 ((a 3 ^^^ kT 8 i b 3 : Nat) : Int))
        have H0' := Lib.hid h0; clear h0
        have HB' := Lib.hid hB; clear hB
        clear H0 HB HR HBW HKF HA8 HB8 HT8 HAM HBM
        go_wp2_with fail
        go_roundw
        case rel => exact ⟨i + 1, by omega, by go_num, H0', HB'⟩
        case measure => simp [intOf]; omega
    · obtain rfl : i = 60 := by omega
      go_wp2_with fail
      go_ret2
      exact ⟨rfl, H0.out.congr fun j hj => by unfold wK; rw [if_pos (by omega)], HB.out⟩
end Go.Proofs.Ytkfmgjipocmkjaa
