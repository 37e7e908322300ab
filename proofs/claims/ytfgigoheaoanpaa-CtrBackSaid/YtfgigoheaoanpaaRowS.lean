/-
  Rows of sixteen bytes: read and stored as a whole inside a region that draws its order.
-/
import Derived.Test.YtfgigoheaoanpaaRow
import Derived.Deep.Upon
import Derived.Laws.ResultCell
namespace Go.Proofs.Ytfgigoheaoanpaa
open Go Go.RowKit
set_option linter.unusedVariables false
set_option linter.unusedSimpArgs false

section
variable {w w' : World} {b : Nat} {f z : Nat → Nat}
theorem below_store {B : Nat} (h : Below B w w') (hB : B ≤ b) (vs : List Value) : ∀ o, Below B w (w'.setCells b o vs) := by
  induction vs generalizing w' with
  | nil => exact fun _ => h
  | cons v vs ih => exact fun o => ih (h.setCell (p := ⟨b, o, none⟩) hB v) (o + 1)
theorem heap_store_far {g : Nat} (vs : List Value) (hg : g ≠ b) : ∀ (o : Nat) (w : World), (w.setCells b o vs).heap[g]? = w.heap[g]? := by
  induction vs with
  | nil => exact fun _ _ => rfl
  | cons v vs ih => exact fun o w => (ih (o + 1) _).trans (heap_setCell_other _ _ _ _ hg)
theorem cell_callw {v : Value} {p : Addr} (hb : Below w.heap.size w w') (h : w.cell? p = some v) : w'.cell? p = some v := (hb.cell (block_lt_of_cell h)).trans h
theorem range_callw {o : Nat} {cs : List Value} (hb : Below w.heap.size w w') (h : w.rangeAt b o cs) : w'.rangeAt b o cs := fun j v hj => cell_callw hb (h j v hj)
theorem there_callw {o m : Nat} (hb : Below w.heap.size w w') (h : w.there b o m) : w'.there b o m := fun j hj => by
  obtain ⟨h1, h2⟩ := h j hj
  obtain ⟨u, hu⟩ := Option.isSome_iff_exists.1 h1
  have hl := block_lt_of_cell hu
  exact ⟨by rw [hb.cell hl]; exact h1, by rw [hb.frozen hl]; exact h2⟩
theorem H16.there (h : H16 w b f) : w.there b 0 16 := fun j hj => by
  rw [Nat.zero_add, h.cell j hj]
  exact ⟨rfl, h.free _⟩
theorem H16.stores (l : List Nat) : ∀ (o : Nat) (w : World) (f : Nat → Nat), H16 w b f → o + l.length ≤ 16 → H16 (w.setCells b o (l.map fun (x : Nat) => Value.int .u8 (x : Int))) b (fun i => if o ≤ i ∧ i < o + l.length then l.getD (i - o) 0 else f i) := by
  induction l with
  | nil =>
    intro o w f h _
    exact h.congr fun i _ => by rw [if_neg (by simp)]
  | cons x l ih =>
    intro o w f h ho
    simp only [List.length_cons] at ho
    have h1 := H16.set (z := fun i => if i = o then x else f i) h o x (by omega) (by simp) (fun j _ hj => by rw [if_neg hj])
    have h2 := ih (o + 1) _ _ h1 (by omega)
    refine H16.congr h2 fun i _ => ?_
    simp only [List.length_cons]
    by_cases e : i = o
    · subst e
      rw [if_neg (by omega), if_pos rfl, if_pos (by omega), Nat.sub_self]; rfl
    · by_cases e2 : o + 1 ≤ i ∧ i < o + 1 + l.length
      · rw [if_pos e2, if_pos (by omega), show i - o = (i - (o + 1)) + 1 from by omega]; rfl
      · rw [if_neg e2, if_neg e, if_neg (by omega)]
theorem H16.store (h : H16 w b f) (g : Nat → Nat) : H16 (w.setCells b 0 (vl 16 g)) b g := by
  have e : vl 16 g = ((List.range 16).map g).map fun (x : Nat) => Value.int .u8 (x : Int) := by simp [vl]
  rw [e]
  exact H16.congr (H16.stores ((List.range 16).map g) 0 w f h (by simp)) fun i hi => by
    rw [if_pos (by simpa using hi), Nat.sub_zero, List.getD, List.getElem?_map, List.getElem?_range hi]; rfl
theorem H16.storeOther (h : H16 w b f) {g : Nat} (hg : b ≠ g) (vs : List Value) : H16 (w.setCells g 0 vs) b f := (heap_store_far vs hg 0 w).trans h
end
theorem blk_size : (Try.prog.info? 23).map (·.size) = some 16 := by kernel_rfl
theorem blk_ret {fn : Func} {p : Tmp} (hr : fn.results = #[.cell p 23]) (tmps : Array Value) (w : World) (g : Nat) (f : Nat → Nat) (hp : tmps.getD p undef = .pointer (some ⟨g, 0, none⟩)) (h : H16 w g f) :
    (results fn tmps).run Try.prog w = .ok (.agg (aN 16 f)) w :=
  results_cell_row hr tmps w g 23 _ (0, 0) (.array 16 5) hp h Try.underlying23 rfl (by rw [aN_size]; exact blk_size)
abbrev zO : Obj := .cells #[.int .u8 0, .int .u8 0, .int .u8 0, .int .u8 0, .int .u8 0, .int .u8 0, .int .u8 0, .int .u8 0, .int .u8 0, .int .u8 0, .int .u8 0, .int .u8 0, .int .u8 0, .int .u8 0, .int .u8 0, .int .u8 0] 23
theorem vsz (f : Nat → Nat) : (Try.prog.info? 23).map (·.size) = some (vl 16 f).toArray.size := by rw [List.size_toArray, vl_len]; exact blk_size
theorem vln (f : Nat → Nat) : (Try.prog.info? 23).map (·.size) = some (vl 16 f).length := by rw [vl_len]; exact blk_size
theorem von (f : Nat → Nat) : (vl 16 f).toArray.all (·.oneCell') = true := all_oneCell_toArray (vl_one _ _)
/-! Short names for what lays a frame's slots (printed texts name them often). -/
theorem zq1 : type_of% @List.getElem_toArray := @List.getElem_toArray
theorem zq2 : type_of% @List.getElem_cons_zero := @List.getElem_cons_zero
theorem zq3 : type_of% @List.getElem_cons_succ := @List.getElem_cons_succ
theorem zq4 : type_of% @List.setIfInBounds_toArray := @List.setIfInBounds_toArray
theorem zq5 : type_of% @List.set_cons_zero := @List.set_cons_zero
theorem zq6 : type_of% @List.set_cons_succ := @List.set_cons_succ
end Go.Proofs.Ytfgigoheaoanpaa
