/-
  Slices of structs among a law's arguments, with how much each of their fields may be; structs of three numbers and two slices of bytes.
-/
import Derived.Test.YtajplflefagbaaaArg
namespace Go.Proofs.Ytajplflefagbaaa
open Go Go.RowKit Go.ChangeShapes Go.WideShapes Go.ChangeAt Go.Deep
set_option linter.unusedVariables false
set_option linter.unusedSimpArgs false

section
variable {P : Program} {W : World} {H : Type} {enc : TypeId × Value → H}
theorem weightsAll_mem {e : TypeId} : ∀ {l : List (DataW H)} {d : DataW H}, d ∈ l → ∀ m ∈ d.weights P e, m ∈ DataW.weightsAll P e l
  | [], _, h, _, _ => by simp at h
  | d0 :: l, d, h, m, hm => by
    simp only [DataW.weightsAll, List.mem_append]
    rcases List.mem_cons.1 h with rfl | h
    · exact .inl hm
    · exact .inr (weightsAll_mem h m hm)
/-- A slice of structs: the cell of each field of each element, what it is, and how much. -/
theorem open_structsW {t e : TypeId} {fs : Array Field} {v : Value} {d : DataW H} {ps : List MemPlace} {r : Reach} {b0 base : Nat} {held : Bool} (ht : P.underlying t = some (.slice e)) (he : P.underlying e = some (.struct fs)) (hone : oneCellFields P fs = true) (hC : P.cellsOf e = fs.size)
    (hv : Value.okWide P W r b0 t v) (hd : DataW.Trod enc P W base (fun _ => true) held t v d ps) (hw : ∀ m ∈ d.weights P t, m ≤ reachBytes) (hby : 0 < P.bytesOf e) :
    ∃ (A : Option Addr) (len cap : Nat), v = .slice A len cap ∧ len ≤ reachBytes ∧ ∀ i, i < len → ∃ ad, A = some ad ∧ ∃ n : Nat, ∀ (j : Nat) (f : Field), fs[j]? = some f → ∃ (c : Value) (y : DataW H × List MemPlace), W.cell? (ad.add (i * fs.size + j)) = some c ∧ DataW.trod enc P W base (fun _ => true) held n f.type [c] = some y ∧ ∀ m ∈ y.1.weights P f.type, m ≤ reachBytes := by
  obtain ⟨a0, len, cap, rfl⟩ := okWide_slice ht hv
  obtain ⟨fuel, hf⟩ := hd
  rcases open_slice ht hf with ⟨hcs, hx⟩ | ⟨a, len', cap', m, n, D, Pl, hcs, _, hl, hm, hmm, hx, hi⟩
  · simp [Value.cells] at hcs
    obtain ⟨rfl, rfl, rfl⟩ := hcs
    exact ⟨none, 0, 0, rfl, Nat.zero_le _, fun i hi => by omega⟩
  · simp [Value.cells] at hcs
    obtain ⟨rfl, rfl, rfl⟩ := hcs
    have hx1 := congrArg Prod.fst hx
    simp only at hx1
    simp only [if_true] at hmm
    rw [hx1] at hw
    have hs := hw _ (by simp only [DataW.weights, ht]; exact List.mem_cons_self)
    simp only [List.length_map, List.length_range] at hs
    refine ⟨some a, len, cap, rfl, ?_, fun i hil => ⟨a, rfl, ?_⟩⟩
    · have h1 : len ≤ (len + (m - len)) * P.bytesOf e := Nat.le_trans (Nat.le_add_right _ _) (Nat.le_mul_of_pos_right _ hby)
      omega
    · obtain ⟨cs', hc, htr⟩ := hi i (by omega)
      have hDw : ∀ q ∈ (D i).weights P e, q ≤ reachBytes := fun q hq => hw q (by
        simp only [DataW.weights, ht]
        refine List.mem_cons_of_mem _ (List.mem_append_left _ (weightsAll_mem (d := D i) ?_ q hq))
        exact List.mem_map.2 ⟨i, List.mem_range.2 hil, rfl⟩)
      rw [hC] at hc
      obtain ⟨xs, n', _, hxx, hcl, hlen, hg⟩ := DataW.trod_struct he htr
      obtain ⟨_, hcl2, hat⟩ := World.cells?_some hc
      refine ⟨n', fun j f hj => ?_⟩
      obtain ⟨ho, hk⟩ := hone_of hone j f hj
      have hjl : j < fs.size := (Array.getElem?_eq_some_iff.1 hj).1
      have hg2 := hg j f hj
      rw [ho, hk, take1_drop cs' j undef (by omega)] at hg2
      refine ⟨cs'.getD j undef, xs[j]'(by omega), ?_, by rw [hg2, List.getElem?_eq_getElem (by omega)], fun q hq => hDw q ?_⟩
      · rw [← Go.Deep.add_add, hat j hjl, List.getD_eq_getElem?_getD, List.getElem?_eq_getElem (by omega)]
        rfl
      · have e1 : D i = .agg (xs.map (·.1)) := congrArg Prod.fst hxx
        rw [e1]
        simp only [DataW.weights, he]
        refine DataW.weights_mem_each (j := j) (t := f.type) (d := (xs[j]'(by omega)).1) ?_ ?_ q hq
        · rw [List.getElem?_map, Array.getElem?_toList, hj]; rfl
        · rw [List.getElem?_map, List.getElem?_eq_getElem (by omega)]; rfl
/-- A field that is a slice of bytes, and how long it may be. -/
theorem field_bytesW {t e : TypeId} {c : Value} {y : DataW H × List MemPlace} {fuel : Nat} (ht : P.underlying t = some (.slice e)) (he : P.underlying e = some (.int .u8)) (hc : P.cellsOf e = 1) (hb : P.bytesOf e = 1)
    (hf : DataW.trod enc P W 0 (fun _ => true) true fuel t [c] = some y) (hw : ∀ m ∈ y.1.weights P t, m ≤ reachBytes) :
    ∃ A l cap, c = .slice A l.length cap ∧ Rd W W.heap.size A (vb l) ∧ l.length ≤ cap ∧ l.length ≤ 140737488351232 := by
  obtain ⟨A, l, cap, h1, h2, h3⟩ := field_bytes0 ht he hc hf
  refine ⟨A, l, cap, h1, h2, h3, ?_⟩
  rcases open_ints ht he hc hf with ⟨hcs, hx⟩ | ⟨a, len, cap2, zs, hcs, _, hl, hm, hz, hx, hcell, hwz⟩
  · rw [h1, List.cons.injEq] at hcs
    have := hcs.1
    injection this with _ h5 _
    omega
  · rw [h1, List.cons.injEq] at hcs
    have h4 := hcs.1
    injection h4 with _ h5 _
    have hx1 := congrArg Prod.fst hx
    simp only at hx1
    rw [hx1] at hw
    have hs := hw _ (by simp only [DataW.weights, ht]; exact List.mem_cons_self)
    simp only [if_true] at hz
    simp only [lits, List.length_map, List.length_take, List.length_drop, hb, Nat.mul_one, reachBytes] at hs
    omega
/-- What a struct of three numbers and two slices of bytes is. -/
structure OpV where
  k : Int
  i : Int
  a : Int
  B : Option Addr
  bl : List UInt8
  bc : Nat
  M : Option Addr
  ml : List UInt8
  mc : Nat
def i64in (x : Int) : Prop := -9223372036854775808 ≤ x ∧ x ≤ 9223372036854775807
structure OpV.Ok (W : World) (o : OpV) : Prop where
  hk : i64in o.k
  hi : i64in o.i
  ha : i64in o.a
  hb : Rd W W.heap.size o.B (vb o.bl) ∧ o.bl.length ≤ o.bc ∧ o.bl.length ≤ 140737488351232
  hm : Rd W W.heap.size o.M (vb o.ml) ∧ o.ml.length ≤ o.mc ∧ o.ml.length ≤ 140737488351232
/-- Where it lies. -/
structure OpV.At (W : World) (ad : Addr) (i : Nat) (o : OpV) : Prop where
  lt : ad.block < W.heap.size
  c0 : W.cell? (ad.add (i * 5)) = some (.int .i64 o.k)
  c1 : W.cell? (ad.add (i * 5 + 1)) = some (.int .i64 o.i)
  c2 : W.cell? (ad.add (i * 5 + 2)) = some (.int .i64 o.a)
  c3 : W.cell? (ad.add (i * 5 + 3)) = some (.slice o.B o.bl.length o.bc)
  c4 : W.cell? (ad.add (i * 5 + 4)) = some (.slice o.M o.ml.length o.mc)
theorem field_add (ad : Addr) (n k : Nat) (hk : k ≠ 0) : (⟨(ad.add n).block, (ad.add n).off + k, none⟩ : Addr) = ad.add (n + k) := by
  rw [← add_add]
  unfold Addr.add
  rw [if_neg hk]
/-- As the walk meets it, in a later world. -/
theorem OpV.At.go {ad : Addr} {i : Nat} {o : OpV} {w' : World} (h : o.At W ad i) (hb : Below W.heap.size W w') :
    w'.cell? (ad.add (i * 5)) = some (.int .i64 o.k) ∧ w'.cell? ⟨(ad.add (i * 5)).block, (ad.add (i * 5)).off + 1, none⟩ = some (.int .i64 o.i) ∧ w'.cell? ⟨(ad.add (i * 5)).block, (ad.add (i * 5)).off + 2, none⟩ = some (.int .i64 o.a) ∧
      w'.cell? ⟨(ad.add (i * 5)).block, (ad.add (i * 5)).off + 3, none⟩ = some (.slice o.B o.bl.length o.bc) ∧ w'.cell? ⟨(ad.add (i * 5)).block, (ad.add (i * 5)).off + 4, none⟩ = some (.slice o.M o.ml.length o.mc) := by
  have hk : ∀ k, w'.cell? (ad.add (i * 5 + k)) = W.cell? (ad.add (i * 5 + k)) := fun k => hb.cell (by rw [add_block]; exact h.lt)
  refine ⟨(hk 0).trans h.c0, ?_, ?_, ?_, ?_⟩
  · rw [field_add _ _ _ (by decide)]; exact (hk 1).trans h.c1
  · rw [field_add _ _ _ (by decide)]; exact (hk 2).trans h.c2
  · rw [field_add _ _ _ (by decide)]; exact (hk 3).trans h.c3
  · rw [field_add _ _ _ (by decide)]; exact (hk 4).trans h.c4
theorem OpV.At.keepW {ad : Addr} {i : Nat} {o : OpV} {w' : World} (h : o.At W ad i) (hb : Below W.heap.size W w') : o.At w' ad i := by
  have hk : ∀ k, w'.cell? (ad.add (i * 5 + k)) = W.cell? (ad.add (i * 5 + k)) := fun k => hb.cell (by rw [add_block]; exact h.lt)
  exact ⟨Nat.lt_of_lt_of_le h.lt hb.size, (hk 0).trans h.c0, (hk 1).trans h.c1, (hk 2).trans h.c2, (hk 3).trans h.c3, (hk 4).trans h.c4⟩
theorem structs_op {f0 f1 f2 f3 f4 : Field} {e : TypeId} {A : Option Addr} {len : Nat} (h0 : P.underlying f0.type = some (.int .i64)) (h1 : P.underlying f1.type = some (.int .i64)) (h2 : P.underlying f2.type = some (.int .i64)) (h3 : P.underlying f3.type = some (.slice e)) (h4 : P.underlying f4.type = some (.slice e)) (he : P.underlying e = some (.int .u8)) (hc : P.cellsOf e = 1) (hb : P.bytesOf e = 1)
    (h : ∀ i, i < len → ∃ ad, A = some ad ∧ ∃ n : Nat, ∀ (j : Nat) (f : Field), (#[f0, f1, f2, f3, f4] : Array Field)[j]? = some f → ∃ (c : Value) (y : DataW H × List MemPlace), W.cell? (ad.add (i * (#[f0, f1, f2, f3, f4] : Array Field).size + j)) = some c ∧ DataW.trod enc P W 0 (fun _ => true) true n f.type [c] = some y ∧ ∀ m ∈ y.1.weights P f.type, m ≤ reachBytes) :
    ∃ O : Nat → OpV, ∀ i, i < len → (O i).Ok W ∧ ∃ ad, A = some ad ∧ (O i).At W ad i := by
  have step : ∀ i : Nat, ∃ o : OpV, i < len → o.Ok W ∧ ∃ ad, A = some ad ∧ o.At W ad i := by
    intro i
    by_cases hi : i < len
    · obtain ⟨ad, ea, n, hf⟩ := h i hi
      obtain ⟨c0, y0, hc0, ht0, _⟩ := hf 0 f0 rfl
      obtain ⟨c1, y1, hc1, ht1, _⟩ := hf 1 f1 rfl
      obtain ⟨c2, y2, hc2, ht2, _⟩ := hf 2 f2 rfl
      obtain ⟨c3, y3, hc3, ht3, hw3⟩ := hf 3 f3 rfl
      obtain ⟨c4, y4, hc4, ht4, hw4⟩ := hf 4 f4 rfl
      obtain ⟨k, rfl, wk⟩ := field_int h0 ht0
      obtain ⟨x, rfl, wx⟩ := field_int h1 ht1
      obtain ⟨a, rfl, wa⟩ := field_int h2 ht2
      obtain ⟨B, bl, bc, rfl, hB, hbc, hbl⟩ := field_bytesW h3 he hc hb ht3 hw3
      obtain ⟨M, ml, mc, rfl, hM, hmc, hml⟩ := field_bytesW h4 he hc hb ht4 hw4
      have r : ∀ z : Int, (Lit.int .i64 z).wf = true → i64in z := fun z hz => by unfold i64in; simpa [Lit.wf, IntKind.min, IntKind.max, IntKind.signed, IntKind.bits] using hz
      have hblk := World.block_lt_of_cell? W _ hc0
      rw [add_block] at hblk
      exact ⟨⟨k, x, a, B, bl, bc, M, ml, mc⟩, fun _ => ⟨⟨r k wk, r x wx, r a wa, ⟨hB, hbc, hbl⟩, ⟨hM, hmc, hml⟩⟩, ad, ea, ⟨hblk, hc0, hc1, hc2, hc3, hc4⟩⟩⟩
    · exact ⟨⟨0, 0, 0, none, [], 0, none, [], 0⟩, fun h => (hi h).elim⟩
  exact Classical.axiomOfChoice step
end
end Go.Proofs.Ytajplflefagbaaa
