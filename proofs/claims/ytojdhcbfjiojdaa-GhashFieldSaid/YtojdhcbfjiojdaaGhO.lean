/-
  The code's sum over a text's blocks.
-/
import Derived.Test.YtojdhcbfjiojdaaChunk
import Derived.Test.YtojdhcbfjiojdaaGhU
import Derived.Test.YtojdhcbfjiojdaaGhS
import Derived.Test.YtojdhcbfjiojdaaRowS
import Derived.Deep.DeepCutAuto
namespace Go.Proofs.Ytojdhcbfjiojdaa
open Go Go.RowKit Go.Shelf
set_option linter.unusedVariables false
set_option linter.unusedSimpArgs false
attribute [local go_sem] Oper.semAt_some

/-- From a on, some blocks of a text under h. -/
def gpre (h a : Nat) (l : List Nat) (pre : List Nat) : Nat := pre.foldl (fun s j => hm (s ^^^ hof (gblk l j)) h) a
theorem gpre_snoc (h a : Nat) (l pre : List Nat) (x : Nat) : gpre h a l (pre ++ [x]) = hm (gpre h a l pre ^^^ hof (gblk l x)) h := by simp [gpre]
theorem gpre_lt (h a : Nat) (hh : h < 2 ^ 128) (ha : a < 2 ^ 128) (l pre : List Nat) : gpre h a l pre < 2 ^ 128 := by
  rcases List.eq_nil_or_concat pre with rfl | ⟨p, x, rfl⟩
  · exact ha
  · rw [List.concat_eq_append, gpre_snoc]; exact hm_lt _ _ hh
/-- From a on, the first n blocks. -/
def gfrom (h a : Nat) (l : List Nat) (n : Nat) : Nat := gpre h a l (List.range n)
theorem gblk_lt (l : List Nat) (hl : ∀ x ∈ l, x < 256) (j : Nat) : B16 (gblk l j) := fun i _ => by
  unfold gblk
  rw [List.getD_eq_getElem?_getD]
  cases hx : l[16 * j + i]? with
  | none => simp
  | some x => simpa using hl x (List.mem_of_getElem? hx)

theorem blk_splice (l : List Nat) (x : Nat) : (splice z16 0 (vn ((l.drop (16 * x)).take 16))).toArray = aN 16 (gblk l x) := by
  rw [aN_vl]
  congr 1
  apply List.ext_getElem?
  intro i
  have hlen : (vn ((l.drop (16 * x)).take 16)).length = min 16 (l.length - 16 * x) := by simp [vn]
  unfold splice
  simp only [List.take_zero, List.nil_append, Nat.zero_add]
  by_cases hi : i < 16
  · rw [vl_get 16 _ i hi]
    by_cases h2 : i < (vn ((l.drop (16 * x)).take 16)).length
    · rw [List.getElem?_append_left h2]
      have h3 : 16 * x + i < l.length := by omega
      simp [vn, gblk, hi, h3, List.getElem?_take, List.getElem?_drop]
    · rw [List.getElem?_append_right (by omega), List.getElem?_drop]
      have h3 : ¬ 16 * x + i < l.length := by omega
      rw [show (vn ((l.drop (16 * x)).take 16)).length + (i - (vn ((l.drop (16 * x)).take 16)).length) = i from by omega]
      have hg : gblk l x i = 0 := by
        unfold gblk
        rw [List.getD_eq_getElem?_getD, List.getElem?_eq_none (by omega)]; rfl
      rw [hg]
      rw [show z16 = List.replicate 16 (Value.int .u8 0) from rfl, List.getElem?_replicate, if_pos hi]
      rfl
  · rw [List.getElem?_eq_none (by simp [z16_len, hlen]; omega), List.getElem?_eq_none (by rw [vl_len]; omega)]
/-- All but one block is as it was. -/
def KeptBut (b : Nat) (W w' : World) : Prop := W.heap.size ≤ w'.heap.size ∧ ∀ k, k < W.heap.size → k ≠ b → w'.heap[k]? = W.heap[k]?
theorem KeptBut.call {b : Nat} {W w1 w' : World} (h : KeptBut b W w1) (hb : Below w1.heap.size w1 w') : KeptBut b W w' :=
  ⟨Nat.le_trans h.1 hb.size, fun k hk hne => (hb.block k (Nat.lt_of_lt_of_le hk h.1)).trans (h.2 k hk hne)⟩
def eL (a : Nat) : List Value := [.int .u64 ((a / 18446744073709551616 : Nat) : Int), .int .u64 ((a % 18446744073709551616 : Nat) : Int)]
theorem HE.range {w : World} {b a : Nat} (h : HE w b a) : w.rangeAt b 0 (eL a) := fun j v hj => by
  rw [Nat.zero_add, cell_of_row _ _ _ _ _ _ h]
  have : j < 2 := (List.getElem?_eq_some_iff.1 hj).1
  rcases j with _ | _ | j
  · exact hj
  · exact hj
  · omega
theorem HE.there {w : World} {b a : Nat} (h : HE w b a) : w.there b 0 2 := fun j hj => by
  rw [Nat.zero_add, cell_of_row _ _ _ _ _ _ h, frozen_of_row _ _ _ _ _ h]
  rcases j with _ | _ | j
  · exact ⟨rfl, rfl⟩
  · exact ⟨rfl, rfl⟩
  · omega
theorem HE.store {w : World} {b a : Nat} (h : HE w b a) (c : Nat) : HE (w.setCells b 0 (eL c)) b c := el_set (x := .int .u64 ((c / 18446744073709551616 : Nat) : Int)) (y := .int .u64 ((c % 18446744073709551616 : Nat) : Int)) h
theorem HE.call {w w' : World} {b a : Nat} (hb : Below w.heap.size w w') (h : HE w b a) : HE w' b a := (hb.block b (Array.getElem?_eq_some_iff.1 h).1).trans h
theorem KeptBut.store {b : Nat} {W w1 : World} (h : KeptBut b W w1) (vs : List Value) : KeptBut b W (w1.setCells b 0 vs) :=
  ⟨Nat.le_trans h.1 (below_store (B := 0) (Below.refl 0 w1) (Nat.zero_le _) vs 0).size, fun k hk hne => (heap_store_far vs hne 0 w1).trans (h.2 k hk hne)⟩
theorem el_one (a : Nat) : (eL a).toArray.all (·.oneCell') = true := by simp [eL, Value.oneCell']
theorem gwords_d (f : Nat → Nat) (w : World) (hf : B16 f) :
    Calls Try.prog 17 #[.agg (aN 16 f)] w fun e w' => e = .returned (.agg (eL (hof f)).toArray) ∧ Below w.heap.size w w' := gwords_any f w hf
theorem gplus_d (a b : Nat) (w : World) (ha : a < 2 ^ 128) (hb : b < 2 ^ 128) :
    Calls Try.prog 22 #[.agg (eL a).toArray, .agg (eL b).toArray] w fun e w' => e = .returned (.agg (eL (a ^^^ b)).toArray) ∧ Below w.heap.size w w' := gplus_any a b w ha hb
theorem gtimes_d (a b : Nat) (w : World) (ha : a < 2 ^ 128) (hb : b < 2 ^ 128) :
    Calls Try.prog 18 #[.agg (eL a).toArray, .agg (eL b).toArray] w fun e w' => e = .returned (.agg (eL (hm a b)).toArray) ∧ Below w.heap.size w w' := gtimes_any a b w ha hb
theorem gbytes_d (a : Nat) (w : World) (ha : a < 2 ^ 128) :
    Calls Try.prog 19 #[.agg (eL a).toArray] w fun e w' => e = .returned (.agg (aN 16 (hby a))) ∧ Below w.heap.size w w' := gbytes_any a w ha
theorem over_keep {w W w1 w' : World} {b8 b5 b3 key B0 : Nat} {g : Nat → Nat} (hb : Below w1.heap.size w1 w') (hB : B0 ≤ w1.heap.size)
    (h : w1.rangeAt b8 0 (vl 16 g) ∧ w1.rangeAt b5 0 (eL key) ∧ w1.there b3 0 2 ∧ KeptBut b3 W w1 ∧ Below B0 w w1) :
    w'.rangeAt b8 0 (vl 16 g) ∧ w'.rangeAt b5 0 (eL key) ∧ w'.there b3 0 2 ∧ KeptBut b3 W w' ∧ Below B0 w w' :=
  ⟨range_callw hb h.1, range_callw hb h.2.1, there_callw hb h.2.2.1, h.2.2.2.1.call hb, h.2.2.2.2.trans (hb.mono hB)⟩
theorem over_store {w W w1 : World} {b8 b5 b3 key B0 : Nat} {g : Nat → Nat} (vs : List Value) (h8 : b8 ≠ b3) (h5 : b5 ≠ b3) (hB : B0 ≤ b3)
    (h : w1.rangeAt b8 0 (vl 16 g) ∧ w1.rangeAt b5 0 (eL key) ∧ w1.there b3 0 2 ∧ KeptBut b3 W w1 ∧ Below B0 w w1) :
    (w1.setCells b3 0 vs).rangeAt b8 0 (vl 16 g) ∧ (w1.setCells b3 0 vs).rangeAt b5 0 (eL key) ∧ (w1.setCells b3 0 vs).there b3 0 2 ∧ KeptBut b3 W (w1.setCells b3 0 vs) ∧ Below B0 w (w1.setCells b3 0 vs) :=
  ⟨World.rangeAt_setCells_apart h.1 _ _ _ (.inl h8), World.rangeAt_setCells_apart h.2.1 _ _ _ (.inl h5), World.there_setCells h.2.2.1 _ _ _, h.2.2.2.1.store _, below_store h.2.2.2.2 hB _ 0⟩

theorem five_old (w : World) (o1 o2 o3 o4 o5 : Obj) : ((((((w.alloc o1).alloc o2).alloc o3).alloc o4).alloc o5).heap[w.heap.size]? = some o1 ∧ (((((w.alloc o1).alloc o2).alloc o3).alloc o4).alloc o5).heap[w.heap.size + 1]? = some o2 ∧ (((((w.alloc o1).alloc o2).alloc o3).alloc o4).alloc o5).heap[w.heap.size + 1 + 1]? = some o3 ∧
    (((((w.alloc o1).alloc o2).alloc o3).alloc o4).alloc o5).heap[w.heap.size + 1 + 1 + 1]? = some o4 ∧ (((((w.alloc o1).alloc o2).alloc o3).alloc o4).alloc o5).heap[w.heap.size + 1 + 1 + 1 + 1]? = some o5) ∧ (((((w.alloc o1).alloc o2).alloc o3).alloc o4).alloc o5).heap.size = w.heap.size + 1 + 1 + 1 + 1 + 1 ∧ Below w.heap.size w (((((w.alloc o1).alloc o2).alloc o3).alloc o4).alloc o5) := by
  refine ⟨⟨?_, ?_, ?_, ?_, ?_⟩, by simp, (((((Below.refl _ _).alloc (Nat.le_refl _) _).alloc (by simp) _).alloc (by simp; omega) _).alloc (by simp; omega) _).alloc (by simp; omega) _⟩
  · rw [heap_alloc_old _ _ (by simp only [World.size_alloc]; omega), heap_alloc_old _ _ (by simp only [World.size_alloc]; omega), heap_alloc_old _ _ (by simp only [World.size_alloc]; omega), heap_alloc_old _ _ (by simp only [World.size_alloc]; omega)]; exact heap_alloc_new w o1
  · rw [heap_alloc_old _ _ (by simp only [World.size_alloc]; omega), heap_alloc_old _ _ (by simp only [World.size_alloc]; omega), heap_alloc_old _ _ (by simp only [World.size_alloc]; omega)]; have := heap_alloc_new (w.alloc o1) o2; rwa [World.size_alloc] at this
  · rw [heap_alloc_old _ _ (by simp only [World.size_alloc]; omega), heap_alloc_old _ _ (by simp only [World.size_alloc]; omega)]; have := heap_alloc_new ((w.alloc o1).alloc o2) o3; rwa [World.size_alloc, World.size_alloc] at this
  · rw [heap_alloc_old _ _ (by simp only [World.size_alloc]; omega)]; have := heap_alloc_new (((w.alloc o1).alloc o2).alloc o3) o4; rwa [World.size_alloc, World.size_alloc, World.size_alloc] at this
  · have := heap_alloc_new ((((w.alloc o1).alloc o2).alloc o3).alloc o4) o5; rwa [World.size_alloc, World.size_alloc, World.size_alloc, World.size_alloc] at this
end Go.Proofs.Ytojdhcbfjiojdaa
