/-
  Structs among a law's arguments, of one cell a field: the cells, and what each field is.
-/
import Derived.Test.YtajplflefagbaaaLaw
import Derived.Deep.Fields
import Derived.Deep.Slices
namespace Go.Proofs.Ytajplflefagbaaa
open Go Go.RowKit Go.ChangeShapes Go.WideShapes Go.ChangeAt Go.Deep
set_option linter.unusedVariables false
set_option linter.unusedSimpArgs false

section
variable {H : Type} {enc : TypeId × Value → H} {P : Program} {W W' : World}
theorem list_getD_range {α : Type} (l : List α) (d : α) (n : Nat) (h : l.length = n) : (List.range n).map (fun i => l.getD i d) = l := by
  apply List.ext_getElem?
  intro i
  by_cases hi : i < n
  · rw [List.getElem?_map, List.getElem?_range hi, Option.map_some, List.getD_eq_getElem?_getD, List.getElem?_eq_getElem (by omega)]; rfl
  · rw [List.getElem?_eq_none (by simp; omega), List.getElem?_eq_none (by omega)]
/-- A struct by value: its cells V, and what is read of them, Y. -/
theorem open_struct {t : TypeId} {fs : Array Field} {v : Value} {d : DataW H} {ps : List MemPlace} {r : Reach} {b0 base : Nat} {spare : Nat → Bool} {held : Bool} (hs : P.underlying t = some (.struct fs)) (hone : oneCellFields P fs = true) (hC : P.cellsOf t = fs.size)
    (hv : Value.okWide P W r b0 t v) (hd : DataW.Trod enc P W base spare held t v d ps) :
    ∃ (V : Nat → Value) (Y : Nat → DataW H × List MemPlace) (n : Nat), v = .agg ((List.range fs.size).map V).toArray ∧ d = .agg ((List.range fs.size).map fun i => (Y i).1) ∧ ps = (List.range fs.size).flatMap (fun i => (Y i).2) ∧
      ∀ (i : Nat) (f : Field), fs[i]? = some f → DataW.trod enc P W base spare held n f.type [V i] = some (Y i) := by
  obtain ⟨cs, rfl, hsz⟩ := okWide_struct hs hv
  obtain ⟨fuel, hf⟩ := hd
  obtain ⟨xs, n, _, hx, hcl, hlen, hg⟩ := DataW.trod_struct hs hf
  have hl : cs.toList.length = fs.size := by rw [Array.length_toList, hsz, hC]
  obtain ⟨Y, hY⟩ : ∃ Y : Nat → DataW H × List MemPlace, Y = fun i => xs.getD i (.nil, []) := ⟨_, rfl⟩
  have ex : (List.range fs.size).map Y = xs := by rw [hY]; exact list_getD_range xs _ _ hlen
  have hyi : ∀ i, i < fs.size → xs[i]? = some (Y i) := fun i hi => by rw [hY, List.getElem?_eq_getElem (by omega)]; simp [List.getD, hlen, hi]
  clear hY
  simp only [Prod.mk.injEq] at hx
  refine ⟨fun i => cs.toList.getD i undef, Y, n, ?_, ?_, ?_, fun i f hi => ?_⟩
  · rw [list_getD_range cs.toList undef fs.size hl]
  · rw [hx.1, ← ex, List.map_map]; rfl
  · rw [hx.2, ← ex, List.flatMap_map]
  · obtain ⟨ho, hk⟩ := hone_of hone i f hi
    have hlt : i < fs.size := (Array.getElem?_eq_some_iff.1 hi).1
    have := hg i f hi
    rw [ho, hk, show (Value.agg cs).cells.toList = cs.toList from rfl, take1_drop cs.toList i undef (by omega)] at this
    rw [this, hyi i hlt]
/-- How much a struct's fields may be. -/
theorem sized_struct {ts : List TypeId} {ds : List (DataW H)} (h : (DataW.weightsEach P ts ds).all (· ≤ reachBytes) = true) {j : Nat} {t : TypeId} {fs : Array Field} {parts : List (DataW H)} (ht : ts[j]? = some t) (hd : ds[j]? = some (.agg parts)) (hu : P.underlying t = some (.struct fs)) :
    (DataW.weightsEach P (fs.toList.map (·.type)) parts).all (· ≤ reachBytes) = true := by
  rw [List.all_eq_true]
  intro n hn
  exact List.all_eq_true.1 h n (DataW.weights_mem_each ht hd n (by simp only [DataW.weights, hu]; exact hn))
/-- A field that is a slice of bytes. -/
theorem field_bytes {t e : TypeId} {c : Value} {y : DataW H × List MemPlace} {fuel : Nat} (ht : P.underlying t = some (.slice e)) (he : P.underlying e = some (.int .u8)) (hc : P.cellsOf e = 1)
    (hf : DataW.trod enc P W 0 (fun _ => true) true fuel t [c] = some y) (hlt : ∀ x ∈ y.2, x.block < W.heap.size) (hsz : ∀ elems spare, y.1 = .slice elems spare → elems.length + spare.length ≤ reachBytes) :
    ∃ A l cap, c = .slice A l.length cap ∧ Rd W W.heap.size A (vb l) ∧ l.length ≤ 140737488351232 ∧ l.length ≤ cap := by
  rcases open_ints ht he hc hf with ⟨hcs, hx⟩ | ⟨a, len, cap, zs, hcs, _, hl, hm, hz, hx, hcell, hwz⟩
  · rw [List.cons.injEq] at hcs
    rw [hcs.1]
    exact ⟨none, [], 0, rfl, Rd.nil _ _ _, by simp, by simp⟩
  · rw [List.cons.injEq] at hcs
    rw [hcs.1]
    have hx1 := congrArg Prod.fst hx
    simp only [if_true] at hz
    have hs := hsz _ _ hx1
    simp only [lits, List.length_map, List.length_take, List.length_drop, reachBytes] at hs
    refine ⟨some a, (zs.take len).map fun n => UInt8.ofNat n.toNat, cap, by simp; omega, ?_, by simp; omega, by simp; omega⟩
    intro h0
    refine ⟨a, rfl, ?_, ?_⟩
    · simp only [vb, List.length_map, List.length_take] at h0
      have : (⟨a.block, a.off, none⟩ : Addr).block < W.heap.size := by
        have h1 := hcell 0 (by omega)
        have h2 := World.block_lt_of_cell? W _ h1
        rwa [add_block] at h2
      exact this
    · intro j u hj
      simp only [vb, List.map_map, List.getElem?_map, Option.map_eq_some_iff, Function.comp] at hj
      obtain ⟨n, hn, rfl⟩ := hj
      rw [List.getElem?_take] at hn
      split at hn
      · have hjl : j < zs.length := by
          rcases Nat.lt_or_ge j zs.length with h | h
          · exact h
          · rw [List.getElem?_eq_none h] at hn; cases hn
        rw [hcell j hjl]
        have e1 : zs.getD j 0 = n := by simp [List.getD, hn]
        rw [e1]
        have hw := hwz n (List.mem_of_getElem? hn)
        have hb : 0 ≤ n ∧ n ≤ 255 := by simpa [Lit.wf, IntKind.min, IntKind.max, IntKind.signed, IntKind.bits] using hw
        congr 2
        rw [UInt8.toNat_ofNat']
        omega
      · cases hn
/-- A field that is a number. -/
theorem field_int {t : TypeId} {k : IntKind} {c : Value} {y : DataW H × List MemPlace} {fuel : Nat} {base : Nat} {spare : Nat → Bool} {held : Bool} (ht : P.underlying t = some (.int k)) (hf : DataW.trod enc P W base spare held fuel t [c] = some y) : ∃ n, c = .int k n ∧ (Lit.int k n).wf = true := by
  obtain ⟨n, h, _, hw⟩ := DataW.trod_int ht hf
  rw [List.cons.injEq] at h
  exact ⟨n, h.1, hw⟩
/-- A slice of structs: the cell of each field of each element, and what it is. -/
theorem open_structs {t e : TypeId} {fs : Array Field} {v : Value} {d : DataW H} {ps : List MemPlace} {r : Reach} {b0 base : Nat} {held : Bool} (ht : P.underlying t = some (.slice e)) (he : P.underlying e = some (.struct fs)) (hone : oneCellFields P fs = true) (hC : P.cellsOf e = fs.size)
    (hv : Value.okWide P W r b0 t v) (hd : DataW.Trod enc P W base (fun _ => true) held t v d ps) (hsz : ∀ elems spare, d = .slice elems spare → (elems.length + spare.length) * P.bytesOf e ≤ reachBytes) (hby : 0 < P.bytesOf e) :
    ∃ (A : Option Addr) (len cap : Nat), v = .slice A len cap ∧ len ≤ reachBytes ∧ ∀ i, i < len → ∃ ad, A = some ad ∧ ∃ n : Nat, ∀ (j : Nat) (f : Field), fs[j]? = some f → ∃ (c : Value) (y : DataW H × List MemPlace), W.cell? (ad.add (i * fs.size + j)) = some c ∧ DataW.trod enc P W base (fun _ => true) held n f.type [c] = some y := by
  obtain ⟨a0, len, cap, rfl⟩ := okWide_slice ht hv
  obtain ⟨fuel, hf⟩ := hd
  rcases open_slice ht hf with ⟨hcs, hx⟩ | ⟨a, len', cap', m, n, D, Pl, hcs, _, hl, hm, hmm, hx, hi⟩
  · simp [Value.cells] at hcs
    obtain ⟨rfl, rfl, rfl⟩ := hcs
    exact ⟨none, 0, 0, rfl, Nat.zero_le _, fun i hi => by omega⟩
  · simp [Value.cells] at hcs
    obtain ⟨rfl, rfl, rfl⟩ := hcs
    have hx1 := congrArg Prod.fst hx
    have hs := hsz _ _ hx1
    simp only [List.length_map, List.length_range] at hs
    simp only [if_true] at hmm
    refine ⟨some a, len, cap, rfl, ?_, fun i hil => ⟨a, rfl, ?_⟩⟩
    · have h1 : len ≤ (len + (m - len)) * P.bytesOf e := Nat.le_trans (Nat.le_add_right _ _) (Nat.le_mul_of_pos_right _ hby)
      omega
    · obtain ⟨cs', hc, htr⟩ := hi i (by omega)
      rw [hC] at hc
      obtain ⟨xs, n', _, _, hcl, hlen, hg⟩ := DataW.trod_struct he htr
      obtain ⟨_, hcl2, hat⟩ := World.cells?_some hc
      refine ⟨n', fun j f hj => ?_⟩
      obtain ⟨ho, hk⟩ := hone_of hone j f hj
      have hjl : j < fs.size := (Array.getElem?_eq_some_iff.1 hj).1
      have hg2 := hg j f hj
      rw [ho, hk, take1_drop cs' j undef (by omega)] at hg2
      refine ⟨cs'.getD j undef, xs[j]'(by omega), ?_, by rw [hg2, List.getElem?_eq_getElem (by omega)]⟩
      rw [← Go.Deep.add_add, hat j hjl, List.getD_eq_getElem?_getD, List.getElem?_eq_getElem (by omega)]
      rfl
/-- Structs of two numbers: the numbers. -/
theorem structs_int2 {f0 f1 : Field} {A : Option Addr} {len base : Nat} {held : Bool} (h0 : P.underlying f0.type = some (.int .i64)) (h1 : P.underlying f1.type = some (.int .i64))
    (h : ∀ i, i < len → ∃ ad, A = some ad ∧ ∃ n : Nat, ∀ (j : Nat) (f : Field), (#[f0, f1] : Array Field)[j]? = some f → ∃ (c : Value) (y : DataW H × List MemPlace), W.cell? (ad.add (i * (#[f0, f1] : Array Field).size + j)) = some c ∧ DataW.trod enc P W base (fun _ => true) held n f.type [c] = some y) :
    ∃ K M : Nat → Int, ∀ i, i < len → ∃ ad, A = some ad ∧ ad.block < W.heap.size ∧ W.cell? (ad.add (i * 2)) = some (.int .i64 (K i)) ∧ W.cell? (ad.add (i * 2 + 1)) = some (.int .i64 (M i)) ∧ -9223372036854775808 ≤ M i ∧ M i ≤ 9223372036854775807 := by
  have step : ∀ i : Nat, ∃ km : Int × Int, i < len → ∃ ad, A = some ad ∧ ad.block < W.heap.size ∧ W.cell? (ad.add (i * 2)) = some (.int .i64 km.1) ∧ W.cell? (ad.add (i * 2 + 1)) = some (.int .i64 km.2) ∧ -9223372036854775808 ≤ km.2 ∧ km.2 ≤ 9223372036854775807 := by
    intro i
    by_cases hi : i < len
    · obtain ⟨ad, e, n, hf⟩ := h i hi
      obtain ⟨c0, y0, hc0, ht0⟩ := hf 0 f0 rfl
      obtain ⟨c1, y1, hc1, ht1⟩ := hf 1 f1 rfl
      obtain ⟨a, rfl, wa⟩ := field_int h0 ht0
      obtain ⟨b, rfl, wb⟩ := field_int h1 ht1
      have hb : -9223372036854775808 ≤ b ∧ b ≤ 9223372036854775807 := by simpa [Lit.wf, IntKind.min, IntKind.max, IntKind.signed, IntKind.bits] using wb
      refine ⟨(a, b), fun _ => ⟨ad, e, ?_, hc0, hc1, hb.1, hb.2⟩⟩
      have := World.block_lt_of_cell? W _ hc0
      rwa [add_block] at this
    · exact ⟨(0, 0), fun h => (hi h).elim⟩
  obtain ⟨f, hf⟩ := Classical.axiomOfChoice step
  exact ⟨fun i => (f i).1, fun i => (f i).2, hf⟩
/-- A field that is a slice of bytes, however long. -/
theorem field_bytes0 {t e : TypeId} {c : Value} {y : DataW H × List MemPlace} {fuel : Nat} (ht : P.underlying t = some (.slice e)) (he : P.underlying e = some (.int .u8)) (hc : P.cellsOf e = 1)
    (hf : DataW.trod enc P W 0 (fun _ => true) true fuel t [c] = some y) :
    ∃ A l cap, c = .slice A l.length cap ∧ Rd W W.heap.size A (vb l) ∧ l.length ≤ cap := by
  rcases open_ints ht he hc hf with ⟨hcs, hx⟩ | ⟨a, len, cap, zs, hcs, _, hl, hm, hz, hx, hcell, hwz⟩
  · rw [List.cons.injEq] at hcs
    rw [hcs.1]
    exact ⟨none, [], 0, rfl, Rd.nil _ _ _, by simp⟩
  · rw [List.cons.injEq] at hcs
    rw [hcs.1]
    simp only [if_true] at hz
    refine ⟨some a, (zs.take len).map fun n => UInt8.ofNat n.toNat, cap, by simp; omega, ?_, by simp; omega⟩
    intro h0
    refine ⟨a, rfl, ?_, ?_⟩
    · simp only [vb, List.length_map, List.length_take] at h0
      have h1 := hcell 0 (by omega)
      have h2 := World.block_lt_of_cell? W _ h1
      rwa [add_block] at h2
    · intro j u hj
      simp only [vb, List.map_map, List.getElem?_map, Option.map_eq_some_iff, Function.comp] at hj
      obtain ⟨n, hn, rfl⟩ := hj
      rw [List.getElem?_take] at hn
      split at hn
      · have hjl : j < zs.length := by
          rcases Nat.lt_or_ge j zs.length with h | h
          · exact h
          · rw [List.getElem?_eq_none h] at hn; cases hn
        rw [hcell j hjl]
        have e1 : zs.getD j 0 = n := by simp [List.getD, hn]
        rw [e1]
        have hw := hwz n (List.mem_of_getElem? hn)
        have hb : 0 ≤ n ∧ n ≤ 255 := by simpa [Lit.wf, IntKind.min, IntKind.max, IntKind.signed, IntKind.bits] using hw
        congr 2
        rw [UInt8.toNat_ofNat']
        omega
      · cases hn
/-- Structs of a uint64, a bool and a slice of bytes: what they are. -/
theorem structs_item {f0 f1 f2 : Field} {e : TypeId} {A : Option Addr} {len : Nat} (h0 : P.underlying f0.type = some (.int .u64)) (h1 : P.underlying f1.type = some .bool) (h2 : P.underlying f2.type = some (.slice e)) (he : P.underlying e = some (.int .u8)) (hc : P.cellsOf e = 1)
    (h : ∀ i, i < len → ∃ ad, A = some ad ∧ ∃ n : Nat, ∀ (j : Nat) (f : Field), (#[f0, f1, f2] : Array Field)[j]? = some f → ∃ (c : Value) (y : DataW H × List MemPlace), W.cell? (ad.add (i * (#[f0, f1, f2] : Array Field).size + j)) = some c ∧ DataW.trod enc P W 0 (fun _ => true) true n f.type [c] = some y) :
    ∃ (N : Nat → Nat) (I : Nat → Bool) (B : Nat → Option Addr) (T : Nat → List UInt8) (C : Nat → Nat), ∀ i, i < len → N i < 18446744073709551616 ∧ Rd W W.heap.size (B i) (vb (T i)) ∧ (T i).length ≤ C i ∧ ∃ ad, A = some ad ∧ ad.block < W.heap.size ∧ W.cell? (ad.add (i * 3)) = some (.int .u64 (N i : Int)) ∧ W.cell? (ad.add (i * 3 + 1)) = some (.bool (I i)) ∧ W.cell? (ad.add (i * 3 + 2)) = some (.slice (B i) (T i).length (C i)) := by
  have step : ∀ i : Nat, ∃ x : Nat × Bool × Option Addr × List UInt8 × Nat, i < len → x.1 < 18446744073709551616 ∧ Rd W W.heap.size x.2.2.1 (vb x.2.2.2.1) ∧ x.2.2.2.1.length ≤ x.2.2.2.2 ∧ ∃ ad, A = some ad ∧ ad.block < W.heap.size ∧ W.cell? (ad.add (i * 3)) = some (.int .u64 (x.1 : Int)) ∧ W.cell? (ad.add (i * 3 + 1)) = some (.bool x.2.1) ∧ W.cell? (ad.add (i * 3 + 2)) = some (.slice x.2.2.1 x.2.2.2.1.length x.2.2.2.2) := by
    intro i
    by_cases hi : i < len
    · obtain ⟨ad, ea, n, hf⟩ := h i hi
      obtain ⟨c0, y0, hc0, ht0⟩ := hf 0 f0 rfl
      obtain ⟨c1, y1, hc1, ht1⟩ := hf 1 f1 rfl
      obtain ⟨c2, y2, hc2, ht2⟩ := hf 2 f2 rfl
      obtain ⟨a, rfl, wa⟩ := field_int h0 ht0
      obtain ⟨b, eb, _⟩ := DataW.trod_bool h1 ht1
      rw [List.cons.injEq] at eb
      obtain ⟨rfl, _⟩ := eb
      obtain ⟨B, t, cap, rfl, hr, hl⟩ := field_bytes0 h2 he hc ht2
      have hb : 0 ≤ a ∧ a ≤ 18446744073709551615 := by simpa [Lit.wf, IntKind.min, IntKind.max, IntKind.signed, IntKind.bits] using wa
      have hblk := World.block_lt_of_cell? W _ hc0
      rw [add_block] at hblk
      refine ⟨(a.toNat, b, B, t, cap), fun _ => ⟨?_, hr, hl, ad, ea, hblk, ?_, hc1, hc2⟩⟩
      · show a.toNat < _
        omega
      · show W.cell? (ad.add (i * 3)) = some (.int .u64 (a.toNat : Int))
        rw [Int.toNat_of_nonneg hb.1]
        exact hc0
    · exact ⟨(0, false, none, [], 0), fun h => (hi h).elim⟩
  obtain ⟨f, hf⟩ := Classical.axiomOfChoice step
  exact ⟨fun i => (f i).1, fun i => (f i).2.1, fun i => (f i).2.2.1, fun i => (f i).2.2.2.1, fun i => (f i).2.2.2.2, hf⟩
end
end Go.Proofs.Ytajplflefagbaaa
