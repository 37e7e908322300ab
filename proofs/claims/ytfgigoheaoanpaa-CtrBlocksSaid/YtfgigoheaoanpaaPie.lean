/-
  Pieces: bytes and numbers, rows that are stored at once, loads of rows. (Printed by wip/gen/ctrlaws.py.)
-/
import Derived.Test.YtfgigoheaoanpaaCtrD
import Derived.Test.YtfgigoheaoanpaaAesN
import Derived.WalkLawsBesides
namespace Go.Proofs.Ytfgigoheaoanpaa
open Go Go.RowKit
set_option linter.unusedVariables false
set_option linter.unusedSimpArgs false

theorem vb_vn (l : List UInt8) : vb l = vn (l.map UInt8.toNat) := by simp [vb, vn]
theorem vb_lt (l : List UInt8) : ∀ x ∈ l.map UInt8.toNat, x < 256 := fun x hx => by
  obtain ⟨c, _, rfl⟩ := List.mem_map.mp hx
  exact c.toNat_lt
/-- Numbers as bytes. -/
def u8s (l : List Nat) : List UInt8 := l.map UInt8.ofNat
theorem u8s_vb (l : List Nat) (h : ∀ x ∈ l, x < 256) : vb (u8s l) = vn l := by
  unfold vb u8s vn
  rw [List.map_map]
  apply List.map_congr_left
  intro x hx
  simp only [Function.comp, UInt8.toNat_ofNat']
  rw [Nat.mod_eq_of_lt (h x hx)]
theorem u8s_len (l : List Nat) : (u8s l).length = l.length := by simp [u8s]
theorem u8s_nm (l : List UInt8) : u8s (l.map UInt8.toNat) = l := by
  unfold u8s
  rw [List.map_map]
  have : (UInt8.ofNat ∘ UInt8.toNat) = (id : UInt8 → UInt8) := by funext x; simp
  rw [this, List.map_id]
theorem own_cap {w : World} {base e n c : Nat} {A : Option Addr} {xs : List Value} (h : w.ownsRow base e 1 (.slice A n c) n xs) : n ≤ c := by
  obtain ⟨_, hv⟩ := h
  rcases hv with ⟨_, h0⟩ | ⟨g, cap, cur, hv, _, _, hnc, _⟩
  · omega
  · injection hv with _ _ h3
    omega
/-- A new row that is stored at once. -/
theorem new_row (w : World) (f : Nat → Nat) : H16 ((w.alloc (.cells #[.int .u8 0, .int .u8 0, .int .u8 0, .int .u8 0, .int .u8 0, .int .u8 0, .int .u8 0, .int .u8 0, .int .u8 0, .int .u8 0, .int .u8 0, .int .u8 0, .int .u8 0, .int .u8 0, .int .u8 0, .int .u8 0] 23)).setRow w.heap.size (aN 16 f)) w.heap.size f ∧ Below w.heap.size w ((w.alloc (.cells #[.int .u8 0, .int .u8 0, .int .u8 0, .int .u8 0, .int .u8 0, .int .u8 0, .int .u8 0, .int .u8 0, .int .u8 0, .int .u8 0, .int .u8 0, .int .u8 0, .int .u8 0, .int .u8 0, .int .u8 0, .int .u8 0] 23)).setRow w.heap.size (aN 16 f)) :=
  ⟨setRow_heap _ _ _ _ _ _ (H16.newAt (f := fun _ => 0) rfl), below_row ((Below.refl _ _).alloc (Nat.le_refl _) _) _ (Nat.le_refl _) _⟩
theorem new_dS (w : World) : (w.alloc (.cells #[.int .u8 0, .int .u8 0, .int .u8 0, .int .u8 0, .int .u8 0, .int .u8 0, .int .u8 0, .int .u8 0, .int .u8 0, .int .u8 0, .int .u8 0, .int .u8 0, .int .u8 0, .int .u8 0, .int .u8 0, .int .u8 0] 23)).heap[w.heap.size]? = some (.cells (aN 16 fun _ => 0) 23 (0, 0)) := H16.newAt (f := fun _ => 0) rfl
theorem new_h (w : World) : H16 (w.alloc (.cells #[.int .u8 0, .int .u8 0, .int .u8 0, .int .u8 0, .int .u8 0, .int .u8 0, .int .u8 0, .int .u8 0, .int .u8 0, .int .u8 0, .int .u8 0, .int .u8 0, .int .u8 0, .int .u8 0, .int .u8 0, .int .u8 0] 23)) w.heap.size fun _ => 0 := new_dS w
/-- Two arrays, as a region's loads leave them. -/
theorem eqv (f g : Nat → Nat) (s : Bool) (h : sameB f g = s) (w : World) : (Op.equalIn 10000 23 (.agg (vl 16 f).toArray) (.agg (vl 16 g).toArray)).run Try.prog w = .ok s w := by
  rw [← h]; exact eqin16 f g w
theorem wpList_load_row_g {P : Program} {ops : Array Oper} {rest : List Oper} {o : Oper} {a : Act} {w : World} {Q : Exit → Act → World → Prop} (hw : Region.wanted o (yielded ops a.tmps) = true) (ty : TypeId) (x : Operand) (ho : o.op = .load ty x)
    (g : Nat) (hx : a.eval x = .pointer (some ⟨g, 0, none⟩)) (t : TypeId) (cs : Array Value) (fr : Nat × Nat) (d : TypeDesc) (hg : w.heap[g]? = some (.cells cs t fr))
    (hu : P.underlying ty = some d) (hd : d.isRow = true) (hi : (P.info? ty).map (·.size) = some cs.size)
    (h : wpList P ops Q rest (a.put o.dst (.agg cs)) w) : wpList P ops Q (o :: rest) a w :=
  wpList_step fun K hK => by
    rw [if_pos hw]
    refine wp_load_row ty x ho g hx t cs fr d hg hu ?_ hi (hK _ _ h)
    cases d <;> simp_all
end Go.Proofs.Ytfgigoheaoanpaa
