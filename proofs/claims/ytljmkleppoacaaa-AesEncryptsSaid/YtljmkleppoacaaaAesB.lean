/-
  Arrays of sixteen bytes in memory; the document's round key, rows moved, columns taken.
-/
import Derived.Test.YtljmkleppoacaaaGalD
import Derived.Test.YtljmkleppoacaaaAesA
namespace Go.Proofs.Ytljmkleppoacaaa
open Go Go.RowKit
set_option linter.unusedVariables false

/-- n bytes of an array. -/
def aN (n : Nat) (f : Nat → Nat) : Array Value := ((List.range n).map fun i => Value.int .u8 (f i : Int)).toArray
theorem aN_size (n : Nat) (f : Nat → Nat) : (aN n f).size = n := by simp [aN]
theorem aN_get (n : Nat) (f : Nat → Nat) (k : Nat) (hk : k < n) : (aN n f)[k]? = some (.int .u8 (f k : Int)) := by
  simp [aN, hk]
theorem aN_congr {n : Nat} {f g : Nat → Nat} (h : ∀ i, i < n → f i = g i) : aN n f = aN n g := by
  unfold aN
  congr 1
  apply List.map_congr_left
  intro i hi
  rw [h i (List.mem_range.mp hi)]
theorem aN_set (n : Nat) (f g : Nat → Nat) (k v : Nat) (hk : k < n) (hv : g k = v) (ho : ∀ j, j < n → j ≠ k → g j = f j) : (aN n f).setIfInBounds k (.int .u8 (v : Int)) = aN n g := by
  subst hv
  apply Array.ext_getElem?
  intro i
  rw [Array.getElem?_setIfInBounds, aN_size]
  by_cases h : k = i
  · subst h
    rw [if_pos rfl, if_pos hk, aN_get n g k hk]
  · rw [if_neg h]
    by_cases hi : i < n
    · rw [aN_get n f i hi, aN_get n g i hi, ho i hi (fun e => h e.symm)]
    · rw [Array.getElem?_eq_none (by rw [aN_size]; omega), Array.getElem?_eq_none (by rw [aN_size]; omega)]
theorem aN_one (n : Nat) (f : Nat → Nat) : (aN n f).all (·.oneCell') = true := by
  simp [aN, Value.oneCell']

/-- Bytes as values. -/
def vn (l : List Nat) : List Value := l.map fun (n : Nat) => Value.int .u8 (n : Int)
theorem vn_len (l : List Nat) : (vn l).length = l.length := by simp [vn]
theorem Rd.num {w : World} {B : Nat} {A : Option Addr} {l : List Nat} (h : Rd w B A (vn l)) {k : Nat} (hk : k < l.length) :
    ∃ ad, A = some ad ∧ ad.block < B ∧ w.cell? (ad.add k) = some (.int .u8 (l.getD k 0 : Int)) := by
  obtain ⟨ad, rfl, hb, hc⟩ := h.at_ (k := k) (by rw [vn_len]; exact hk)
  refine ⟨ad, rfl, hb, hc.trans ?_⟩
  simp [vn, List.getD, hk]

/-- Block b holds sixteen bytes. -/
def H16 (w : World) (b : Nat) (f : Nat → Nat) : Prop := w.heap[b]? = some (.cells (aN 16 f) 35 (0, 0))
section
variable {w w' : World} {b g : Nat} {f z : Nat → Nat}
theorem H16.lt (h : H16 w b f) : b < w.heap.size := (Array.getElem?_eq_some_iff.1 h).1
theorem H16.cell (h : H16 w b f) (k : Nat) (hk : k < 16) : w.cell? ⟨b, k, none⟩ = some (.int .u8 (f k : Int)) := by
  rw [cell_of_row _ _ _ _ _ _ h]; exact aN_get 16 f k hk
theorem H16.free (h : H16 w b f) (k : Nat) : w.frozen? ⟨b, k, none⟩ = false := frozen_of_row _ _ _ _ _ h
theorem H16.below {B : Nat} (hb : Below B w w') (h : H16 w b f) (hB : b < B) : H16 w' b f := (hb.block b hB).trans h
theorem H16.call (hb : Below w.heap.size w w') (h : H16 w b f) : H16 w' b f := h.below hb h.lt
theorem H16.alloc (o : Obj) (h : H16 w b f) : H16 (w.alloc o) b f := (heap_alloc_old w o h.lt).trans h
theorem H16.newAt (h : b = w.heap.size) : H16 (w.alloc (.cells (aN 16 f) 35)) b f := h ▸ heap_alloc_new w _
theorem H16.other (h : H16 w b f) (a : Addr) (hg : b ≠ a.block) (v : Value) : H16 (w.setCell a v) b f := (heap_setCell_other _ _ _ _ hg).trans h
theorem H16.set (h : H16 w b f) (k v : Nat) (hk : k < 16) (hv : z k = v) (ho : ∀ j, j < 16 → j ≠ k → z j = f j) : H16 (w.setCell ⟨b, k, none⟩ (.int .u8 (v : Int))) b z := by
  unfold H16
  rw [heap_setCell_same _ _ _ _ _ _ h, aN_set 16 f z k v hk hv ho]
theorem H16.row (h : H16 w b f) : H16 (w.setRow b (aN 16 z)) b z := setRow_heap _ _ _ _ _ _ h
theorem H16.rowOther (h : H16 w b f) (hg : b ≠ g) (cs : Array Value) : H16 (w.setRow g cs) b f := (setRow_other _ _ _ _ hg).trans h
theorem H16.congr (h : H16 w b f) (e : E16 f z) : H16 w b z := by
  unfold H16 at *
  rw [h, aN_congr e]
end
theorem zero16 : (#[.int .u8 0, .int .u8 0, .int .u8 0, .int .u8 0, .int .u8 0, .int .u8 0, .int .u8 0, .int .u8 0, .int .u8 0, .int .u8 0, .int .u8 0, .int .u8 0, .int .u8 0, .int .u8 0, .int .u8 0, .int .u8 0] : Array Value) = aN 16 fun _ => 0 := rfl

/-- The first k bytes added. -/
def addK (f g : Nat → Nat) (k i : Nat) : Nat := if i < k then f i ^^^ g i else f i
theorem addK_end (f g : Nat → Nat) : E16 (addK f g 16) (sAdd f g) := fun i hi => by simp [addK, sAdd, hi]

set_option maxRecDepth 100000 in
set_option maxHeartbeats 1000000 in
theorem radd_any (f : Nat → Nat) (A : Option Addr) (l : List Nat) (n cap j : Nat) (w : World) (hf : B16 f) (hl : ∀ x ∈ l, x < 256) (hn : l.length = n) (hj : 16 * j + 16 ≤ n) (hm : n ≤ 1000) (h : Rd w w.heap.size A (vn l)) :
    Calls Try.prog 33 #[.agg (aN 16 f), .slice A n cap, .int .i64 (j : Int)] w fun e w' => e = .returned (.agg (aN 16 (sAdd f (rk (fun i => l.getD i 0) j)))) ∧ Below w.heap.size w w' := by
  have HF := Lib.hid hf; clear hf
  have HL := Lib.hid hl; clear hl
  have HN := Lib.hid hn; clear hn
  go_enter Try.func33, Try.ntmps33
  go_wp2_with fail
  go_loopw [7] (fun i wr => ∃ k : Nat, k ≤ 16 ∧ i = .int .i64 k ∧ Hid (H16 wr w.heap.size (addK f (rk (fun i => l.getD i 0) j) k)) ∧ Hid (H16 wr (w.heap.size + 1) fun _ => 0) ∧ Hid (Below w.heap.size w wr)) (fun i _ => 16 - (intOf i).toNat)
  case atStart =>
    refine ⟨0, by omega, rfl, Lib.hid ?_, Lib.hid ?_, Lib.hid (((Below.refl _ _).alloc (Nat.le_refl _) _).alloc (by simp) _)⟩
    · exact H16.alloc _ ((H16.newAt rfl).congr fun i _ => by simp [addK])
    · exact H16.newAt (w := w.alloc (.cells (aN 16 f) 35)) (b := w.heap.size + 1) (f := fun _ => 0) (by rw [World.size_alloc])
  case round =>
    obtain ⟨k, hk, rfl, H0, H1, HB⟩ := hrel
    by_cases hlt : k < 16
    · have hk16 : (k : Int) < 16 := by omega
      have hk0 : (0 : Int) ≤ (k : Int) := by omega
      have hlen : 16 * j + k < l.length := by have := HN.out; omega
      obtain ⟨ad, rfl, hbd, hck⟩ := (h.below HB.out).num hlen
      have c0 := H0.out.cell k hlt
      have f0 := H0.out.free k
      have lb := getD_lt l HL.out (16 * j + k)
      have e0 : addK f (rk (fun i => l.getD i 0) j) k k = f k := by simp [addK]
      rw [e0] at c0
      have la := HF.out k hlt
      obtain ⟨v, hv⟩ : ∃ v, v = l.getD (16 * j + k) 0 := ⟨_, rfl⟩
      rw [← hv] at hck lb
      have hx : bits .xor .u8 (f k : Int) (v : Int) = ((addK f (rk (fun i => l.getD i 0) j) (k + 1) k : Nat) : Int) := by
        rw [nbits_xor _ _ la lb, hv]; simp [addK, rk]
      clear hv
      have s1 : IntKind.i64.wrap (16 * (j : Int)) = 16 * (j : Int) := IntWalk.i64_in _ (by omega)
      have s2 : IntKind.i64.wrap (16 * (j : Int) + (k : Int)) = 16 * (j : Int) + (k : Int) := IntWalk.i64_in _ (by omega)
      have s3 : (16 * (j : Int) + (k : Int)).toNat = 16 * j + k := by omega
      have s4 : 16 * (j : Int) + (k : Int) < (n : Int) := by omega
      have s5 : (0 : Int) ≤ 16 * (j : Int) + (k : Int) := by omega
      go_wp2_with fail
      go_still_tail 13, (by kernel_rfl)
      change wpList _ _ _ _ _ wr.drew
      have c0' : wr.drew.cell? ⟨w.heap.size, k, none⟩ = some (.int .u8 (f k : Int)) := c0
      have f0' : wr.drew.frozen? ⟨w.heap.size, k, none⟩ = false := f0
      have H0' : Hid (H16 wr.drew w.heap.size (addK f (rk (fun i => l.getD i 0) j) k)) := Lib.hid H0.out
      have H1' : Hid (H16 wr.drew (w.heap.size + 1) fun _ => 0) := Lib.hid H1.out
      have HB' : Hid (Below w.heap.size w wr.drew) := Lib.hid HB.out.drew
      clear H0 H1 HB c0 f0 hck s1 s2 s3 s4 s5
      generalize wr.drew = w2 at *
      go_wp2_with fail
      go_roundw
      case rel =>
        refine ⟨k + 1, by omega, by go_num, Lib.hid ?_, Lib.hid ?_, Lib.hid (HB'.out.setCell (by simp) _)⟩
        · exact H0'.out.set k _ hlt rfl fun i hi hik => by
            unfold addK
            by_cases h1 : i < k
            · rw [if_pos h1, if_pos (by omega)]
            · rw [if_neg h1, if_neg (by omega)]
        · exact H1'.out.other _ (by simp) _
      case measure => simp [intOf]; omega
    · obtain rfl : k = 16 := by omega
      have d0 : wr.heap[w.heap.size]? = some (.cells (aN 16 (sAdd f (rk (fun i => l.getD i 0) j))) 35 (0, 0)) := H0.out.congr (addK_end _ _)
      have d1 : wr.heap[w.heap.size + 1]? = some (.cells (aN 16 fun _ => 0) 35 (0, 0)) := H1.out
      go_wp2_with (first
        | (refine wpList_load_row rfl 35 (.tmp 3) rfl w.heap.size rfl 35 _ (0, 0) (.array 16 5) d0 Try.underlying35 rfl (by rw [aN_size]; kernel_rfl) ?_)
        | (refine wpList_store_row rfl 35 (.tmp 6) (.tmp 25) rfl (w.heap.size + 1) (aN 16 (sAdd f (rk (fun i => l.getD i 0) j))) rfl rfl 35 _ d1 (by rw [aN_size]; kernel_rfl) (by rw [aN_size, aN_size]) (aN_one _ _) ?_))
      refine bodyPost_ret (v := .agg (aN 16 (sAdd f (rk (fun i => l.getD i 0) j)))) (results_cell_row (p := 6) (ty := 35) (by kernel_rfl) _ _ (w.heap.size + 1) 35 (aN 16 (sAdd f (rk (fun i => l.getD i 0) j))) (0, 0) (.array 16 5) rfl ?_ Try.underlying35 rfl (by rw [aN_size]; kernel_rfl)) rfl ⟨rfl, ?_⟩
      · exact setRow_heap _ _ _ _ _ _ d1
      · exact below_setRow HB.out _ (by omega) _
end Go.Proofs.Ytljmkleppoacaaa
