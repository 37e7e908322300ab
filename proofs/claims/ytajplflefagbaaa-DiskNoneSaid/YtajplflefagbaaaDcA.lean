/-
  Rows by a function in memory: loads, stores, copies in their midst (layer 8, the landed code's device). No promise yet.
-/
import Derived.Test.YtajplflefagbaaaProg
import Derived.Test.YtajplflefagbaaaDkA
import Derived.Test.YtajplflefagbaaaZq
import Derived.Deep.MidRow
import Derived.Deep.Upon
import Derived.Laws.CopyOwn
namespace Go.Proofs.Ytajplflefagbaaa
open Go Go.RowKit
set_option linter.unusedVariables false
set_option linter.unusedSimpArgs false

/-- The first m values of a function. -/
def fl (m : Nat) (f : Nat → Value) : List Value := (List.range m).map f
theorem fl_len (m : Nat) (f : Nat → Value) : (fl m f).length = m := by simp [fl]
theorem fl_get (m : Nat) (f : Nat → Value) (k : Nat) (hk : k < m) : (fl m f)[k]? = some (f k) := by simp [fl, hk]
theorem fl_of {m : Nat} {f : Nat → Value} {k : Nat} {v : Value} (h : (fl m f)[k]? = some v) : k < m ∧ v = f k := by
  have hk : k < m := by have := (List.getElem?_eq_some_iff.1 h).1; rwa [fl_len] at this
  rw [fl_get _ _ _ hk] at h
  exact ⟨hk, by injection h with h; exact h.symm⟩
theorem fl_congr {m : Nat} {f g : Nat → Value} (h : ∀ k, k < m → f k = g k) : fl m f = fl m g := by
  unfold fl
  apply List.map_congr_left
  intro i hi
  exact h i (List.mem_range.mp hi)
theorem fl_add (m k : Nat) (f : Nat → Value) : fl (m + k) f = fl m f ++ fl k fun j => f (m + j) := by
  apply List.ext_getElem?
  intro i
  by_cases h : i < m
  · rw [List.getElem?_append_left (by rw [fl_len]; exact h), fl_get _ _ _ h, fl_get _ _ _ (by omega)]
  · rw [List.getElem?_append_right (by rw [fl_len]; omega), fl_len]
    by_cases h2 : i < m + k
    · rw [fl_get _ _ _ h2, fl_get _ _ _ (by omega), Nat.add_sub_cancel' (by omega)]
    · rw [List.getElem?_eq_none (by rw [fl_len]; omega), List.getElem?_eq_none (by rw [fl_len]; omega)]
theorem fl_vb (l : List UInt8) (n : Nat) (h : l.length = n) : vb l = fl n fun k => .int .u8 ((l.getD k 0).toNat : Int) := by
  apply List.ext_getElem?
  intro i
  rw [List.getElem?_map]
  by_cases hi : i < n
  · rw [fl_get _ _ _ hi, List.getD_eq_getElem?_getD, List.getElem?_eq_getElem (by omega)]; rfl
  · rw [List.getElem?_eq_none (by omega), List.getElem?_eq_none (by rw [fl_len]; omega)]; rfl
/-- Block b, of type t, holds at least m values: those of f. -/
def Fr (w : World) (b : Nat) (t : TypeId) (m : Nat) (f : Nat → Value) : Prop :=
  ∃ cur : Array Value, w.heap[b]? = some (.cells cur t (0, 0)) ∧ m ≤ cur.size ∧ ∀ k, k < m → cur[k]? = some (f k)
/-- Values laid over others. -/
def layF (f : Nat → Value) (o : Nat) (vs : List Value) (k : Nat) : Value := if o ≤ k ∧ k < o + vs.length then (vs[k - o]?).getD undef else f k
/-- Only block g is another one. -/
structure Turn (g : Nat) (w w' : World) : Prop where
  os : w'.os = w.os
  tape : w'.tape = w.tape
  output : w'.output = w.output
  size : w'.heap.size = w.heap.size
  block : ∀ k, k ≠ g → w'.heap[k]? = w.heap[k]?
theorem Turn.refl (g : Nat) (w : World) : Turn g w w := ⟨rfl, rfl, rfl, rfl, fun _ _ => rfl⟩
theorem Turn.trans {g : Nat} {a b c : World} (h : Turn g a b) (k : Turn g b c) : Turn g a c := ⟨k.os.trans h.os, k.tape.trans h.tape, k.output.trans h.output, k.size.trans h.size, fun x hx => (k.block x hx).trans (h.block x hx)⟩
theorem Turn.drew {g : Nat} {a b : World} (h : Turn g a b) : Turn g a b.drew := ⟨h.os, h.tape, h.output, h.size, h.block⟩
theorem Turn.drew1 {g : Nat} {a b : World} (h : Turn g a.drew b) : Turn g a b := ⟨h.os, h.tape, h.output, h.size, h.block⟩
theorem Turn.keep {g : Nat} {L : Nat → Prop} {a b c : World} (h : Keep L a b) (k : Turn g b c) (hg : g < a.heap.size → L g) : Keep L a c :=
  ⟨k.os.trans h.os, k.tape.trans h.tape, k.output.trans h.output, by rw [k.size]; exact h.size, fun x hx hn => (k.block x fun e => hn (by rw [e]; exact hg (by omega))).trans (h.block x hx hn)⟩
theorem Turn.below {g B : Nat} {a b c : World} (h : Below B a b) (k : Turn g b c) (hg : B ≤ g) : Below B a c :=
  ⟨k.os.trans h.os, k.tape.trans h.tape, k.output.trans h.output, by rw [k.size]; exact h.size, fun x hx => (k.block x (by omega)).trans (h.block x hx)⟩
theorem Turn.cell {g : Nat} {a b : World} (h : Turn g a b) {p : Addr} (hp : p.block ≠ g) : b.cell? p = a.cell? p := World.cell?_of_block (h.block _ hp)
theorem turn_setCell (w : World) (b o : Nat) (v : Value) : Turn b w (w.setCell ⟨b, o, none⟩ v) := ⟨rfl, rfl, rfl, by rw [World.size_setCell], fun k hk => heap_setCell_other _ _ _ _ hk⟩
theorem turn_setCells (b : Nat) : ∀ (vs : List Value) (o : Nat) (w : World), Turn b w (w.setCells b o vs)
  | [], _, w => Turn.refl b w
  | v :: vs, o, w => (turn_setCell w b o v).trans (turn_setCells b vs (o + 1) _)
theorem turn_setRow (w : World) (b : Nat) (cs : Array Value) : Turn b w (w.setRow b cs) := ⟨rfl, rfl, rfl, by simp [World.setRow], fun k hk => setRow_other w b k cs hk⟩
section
variable {w w' : World} {b g m : Nat} {t : TypeId} {f f' : Nat → Value}
theorem Fr.lt (h : Fr w b t m f) : b < w.heap.size := by obtain ⟨cur, h1, _⟩ := h; exact (Array.getElem?_eq_some_iff.1 h1).1
theorem Fr.keep (h : Fr w b t m f) (hk : w'.heap[b]? = w.heap[b]?) : Fr w' b t m f := by obtain ⟨cur, h1, h2⟩ := h; exact ⟨cur, hk.trans h1, h2⟩
theorem Fr.call (h : Fr w b t m f) (hb : Below w.heap.size w w') : Fr w' b t m f := h.keep (hb.block _ h.lt)
theorem Fr.turn (h : Fr w b t m f) (ht : Turn g w w') (hn : b ≠ g) : Fr w' b t m f := h.keep (ht.block _ hn)
theorem Fr.congr (h : Fr w b t m f) (e : ∀ k, k < m → f k = f' k) : Fr w b t m f' := by obtain ⟨cur, h1, h2, h3⟩ := h; exact ⟨cur, h1, h2, fun k hk => by rw [h3 k hk, e k hk]⟩
theorem Fr.cellAt (h : Fr w b t m f) (k : Nat) (hk : k < m) : w.cell? ⟨b, k, none⟩ = some (f k) := by obtain ⟨cur, h1, _, h3⟩ := h; rw [cell_of_row _ _ _ _ _ _ h1]; exact h3 k hk
theorem Fr.free (h : Fr w b t m f) (k : Nat) : w.frozen? ⟨b, k, none⟩ = false := by obtain ⟨cur, h1, _⟩ := h; exact frozen_of_row _ _ _ _ _ h1
theorem Fr.range (h : Fr w b t m f) (o n : Nat) (ho : o + n ≤ m) : w.rangeAt b o (fl n fun j => f (o + j)) := fun j v hj => by
  obtain ⟨hk, rfl⟩ := fl_of hj
  exact h.cellAt _ (by omega)
theorem Fr.there (h : Fr w b t m f) (o n : Nat) (ho : o + n ≤ m) : w.there b o n := fun j hj => by
  rw [h.cellAt _ (by omega)]
  exact ⟨rfl, h.free _⟩
theorem Fr.rd (h : Fr w b t m f) : Rd w w.heap.size (some ⟨b, 0, none⟩) (fl m f) := fun _ => ⟨_, rfl, h.lt, fun j u hj => by
  obtain ⟨hk, rfl⟩ := fl_of hj
  rw [head_add]; exact h.cellAt _ hk⟩
theorem Fr.setCell (h : Fr w b t m f) (o : Nat) (ho : o < m) (v : Value) : Fr (w.setCell ⟨b, o, none⟩ v) b t m (fun k => if k = o then v else f k) := by
  obtain ⟨cur, h1, h2, h3⟩ := h
  refine ⟨_, heap_setCell_same _ _ _ _ _ _ h1, by rw [Array.size_setIfInBounds]; exact h2, fun k hk => ?_⟩
  rw [Array.getElem?_setIfInBounds]
  by_cases e : o = k
  · subst e
    rw [if_pos rfl, if_pos (by omega)]
    show some v = some (if o = o then v else f o)
    rw [if_pos rfl]
  · rw [if_neg e]
    show _ = some (if k = o then v else f k)
    rw [if_neg (fun h => e h.symm)]; exact h3 k hk
theorem Fr.setCells : ∀ (vs : List Value) (o : Nat) (w : World) (f : Nat → Value), Fr w b t m f → o + vs.length ≤ m → Fr (w.setCells b o vs) b t m (layF f o vs)
  | [], o, w, f, h, _ => h.congr fun k _ => by unfold layF; rw [if_neg (by simp)]
  | v :: vs, o, w, f, h, ho => by
    simp only [List.length_cons] at ho
    refine (Fr.setCells vs (o + 1) _ _ (h.setCell o (by omega) v) (by omega)).congr fun k hk => ?_
    unfold layF
    simp only [List.length_cons]
    by_cases e : k = o
    · subst e
      rw [if_neg (by omega), if_pos rfl, if_pos (by omega), Nat.sub_self]; rfl
    · by_cases e2 : o + 1 ≤ k ∧ k < o + 1 + vs.length
      · rw [if_pos e2, if_pos (by omega), show k - o = (k - (o + 1)) + 1 from by omega]; rfl
      · rw [if_neg e2, if_neg e, if_neg (by omega)]
theorem Fr.size_setCells : ∀ (vs : List Value) (o : Nat) (w : World) (cs : Array Value) (t : TypeId) (b : Nat), w.heap[b]? = some (.cells cs t (0, 0)) → ∃ cur : Array Value, (w.setCells b o vs).heap[b]? = some (.cells cur t (0, 0)) ∧ cur.size = cs.size
  | [], _, _, cs, _, _, h => ⟨cs, h, rfl⟩
  | v :: vs, o, w, cs, t, b, h => by
    obtain ⟨cur, h1, h2⟩ := Fr.size_setCells vs (o + 1) (w.setCell ⟨b, o, none⟩ v) _ t b (heap_setCell_same _ _ _ _ _ _ h)
    exact ⟨cur, h1, by rw [h2, Array.size_setIfInBounds]⟩
theorem Fr.splice (h : Fr w b t m f) (o : Nat) (vs : List Value) (ho : o + vs.length ≤ m) (cur : List Value) (h1 : w.heap[b]? = some (.cells cur.toArray t (0, 0))) : Fr (w.setRow b (splice cur o vs).toArray) b t m (layF f o vs) := by
  obtain ⟨cur', h1', h2, h3⟩ := h
  rw [h1] at h1'
  injection h1' with h1'
  injection h1' with e1
  subst e1
  have h2' : m ≤ cur.length := by simpa using h2
  have hl : o + vs.length ≤ cur.length := by omega
  refine ⟨_, setRow_heap _ _ _ _ _ _ h1, by rw [List.size_toArray, length_splice _ _ _ hl]; exact h2', fun k hk => ?_⟩
  have h3 := h3 k hk
  rw [List.getElem?_toArray] at h3 ⊢
  unfold Go.splice layF
  by_cases e : k < o
  · rw [List.getElem?_append_left (by simp; omega), List.getElem?_take, if_pos e, if_neg (by omega)]; exact h3
  · rw [List.getElem?_append_right (by simp; omega)]
    have e4 : (List.take o cur).length = o := by simp; omega
    rw [e4]
    by_cases e2 : k < o + vs.length
    · rw [List.getElem?_append_left (by omega), if_pos (by omega), List.getElem?_eq_getElem (by omega)]; rfl
    · rw [List.getElem?_append_right (by omega), if_neg (by omega), List.getElem?_drop, show o + vs.length + (k - o - vs.length) = k from by omega]; exact h3
theorem Fr.new (w : World) (cs : List Value) (t : TypeId) (m : Nat) (hm : m ≤ cs.length) : Fr (w.alloc (.cells cs.toArray t)) w.heap.size t m (fun k => (cs[k]?).getD undef) :=
  ⟨_, heap_alloc_new w _, by simpa using hm, fun k hk => by
    show _ = some ((cs[k]?).getD undef)
    rw [List.getElem?_toArray, List.getElem?_eq_getElem (show k < cs.length by omega)]; rfl⟩
theorem Fr.of_own {base n sz c : Nat} {A : Option Addr} (h : w.ownsRow base t sz (.slice A n c) n (fl m f)) (hm : m = n * sz) (hn : 0 < n) : ∃ b, A = some ⟨b, 0, none⟩ ∧ base ≤ b ∧ Fr w b t m f := by
  subst hm
  obtain ⟨_, hv⟩ := h
  rcases hv with ⟨_, h0⟩ | ⟨g, cap, cur, e, hg, hh, hc, _, hs, ht⟩
  · omega
  · injection e with e1 _ _
    refine ⟨g, e1, hg, cur, hh, by rw [hs]; exact Nat.mul_le_mul_right _ hc, fun j hj => ?_⟩
    have h1 := fl_get (n * sz) f j hj
    rw [← ht, List.getElem?_take, if_pos hj] at h1
    rw [← Array.getElem?_toList]; exact h1
end
/-- A value of several cells, wherever it lies. -/
theorem yieldsIf_load_at {P : Program} {ops : Array Oper} {S : World → Prop} {op : Oper} {a : Act} (hw : Region.wanted op (yielded ops a.tmps) = true) (ty : TypeId) (x : Operand) (ho : op.op = .load ty x)
    (ad : Addr) (hx : a.eval x = .pointer (some ad)) (cs : List Value) (d : TypeDesc) (hS : ∀ w, S w → ∀ j v, cs[j]? = some v → w.cell? (ad.add j) = some v)
    (hu : P.underlying ty = some d) (hd : d.isRow = true) (hi : (P.info? ty).map (·.size) = some cs.length) : YieldsIf P ops S op (.agg cs.toArray) a :=
  .inl ⟨hw, fun w hw' => by
    have hl : (loadCells ad cs.length).run P w = .ok cs.toArray w := run_loadCells_list (P := P) w ad cs (hS w hw')
    have hv : (loadVar ty ad).run P w = .ok (.agg cs.toArray) w := by
      cases hq : P.info? ty with
      | none => simp [hq] at hi
      | some i =>
        have hs : i.size = cs.length := by simpa [hq] using hi
        have hagg : (isAgg ty).run P w = .ok true w := by
          unfold isAgg
          rw [Sem.run_bind, run_underlying hu w]
          cases d <;> simp_all
        simp [loadVar, Sem.run_bind, hagg, sizeOf, typeInfo, hq, hs, hl]
    unfold execOp
    simp only [ho, hx, Instr.loadAt, Instr.sureAddr, Sem.run_bind, Sem.run_pure, Result.andThen_ok, hv]⟩
/-- copy into the midst of a row. -/
theorem wpList_copy_fr {P : Program} {w : World} {ops : Array Oper} {rest : List Oper} {o : Oper} {a : Act} {Q : Exit → Act → World → Prop} (hgd : o.guard = none) (d s : Operand) (dT sT : TypeId)
    (ho : o.op = .call { callee := .builtin .copy, args := #[d, s], argTypes := #[dT, sT] }) (elem : TypeId) (hu : P.underlying dT = some (.slice elem)) (hsz : (P.info? elem).map (·.size) = some 1)
    (dp sp : Option Addr) (dLen dCap sLen sCap : Nat) (hd : a.eval d = .slice dp dLen dCap) (hs : a.eval s = .slice sp sLen sCap)
    (g off m : Nat) (t : TypeId) (f : Nat → Value) (hF : Fr w g t m f) (cs : List Value) (hn : cs.length = Nat.min sLen dLen)
    (hpos : 0 < cs.length → dp = some ⟨g, off, none⟩ ∧ ∃ ad, sp = some ad ∧ ∀ j v, cs[j]? = some v → w.cell? (ad.add j) = some v)
    (hfit : off + cs.length ≤ m) (h1 : ∀ v ∈ cs, v.oneCell' = true)
    (h : ∀ w', Hid (Fr w' g t m (layF f off cs)) → Hid (Turn g w w') → wpList P ops Q rest (a.put o.dst (goInt cs.length)) w') :
    wpList P ops Q (o :: rest) a w := by
  by_cases h0 : cs.length = 0
  · obtain rfl : cs = [] := List.eq_nil_of_length_eq_zero h0
    refine wpList_copy_nothing hgd d s dT sT ho elem hu hsz dp sp dLen dCap sLen sCap hd hs (by simpa using hn.symm) ?_
    exact h w (Lib.hid (hF.congr fun k _ => by unfold layF; rw [if_neg (by simp)])) (Lib.hid (Turn.refl g w))
  · obtain ⟨rfl, ad, rfl, hsrc⟩ := hpos (by omega)
    obtain ⟨cur, hc, hcm, _⟩ := id hF
    obtain ⟨cl, rfl⟩ : ∃ cl : List Value, cur = cl.toArray := ⟨cur.toList, by simp⟩
    refine wpList_copy_own hgd d s dT sT ho elem hu hsz g off dLen dCap ad sLen sCap hd hs cl.toArray t hc cs hn hsrc (by simp at hcm ⊢; omega) h1 ?_
    have := h (w.setRow g (splice cl off cs).toArray) (Lib.hid (hF.splice off cs hfit cl hc)) (Lib.hid (turn_setRow _ _ _))
    simpa [splice] using this
theorem step_copy_fr {P : Program} {ops : Array Oper} {o : Oper} {a : Act} {w : World} {K : Act → World → Prop} {Q : Exit → Act → World → Prop} {E : Prop} (hgd : o.guard = none) (d s : Operand) (dT sT : TypeId)
    (ho : o.op = .call { callee := .builtin .copy, args := #[d, s], argTypes := #[dT, sT] }) (elem : TypeId) (hu : P.underlying dT = some (.slice elem)) (hsz : (P.info? elem).map (·.size) = some 1)
    (g off dLen dCap : Nat) (ad : Addr) (sLen sCap : Nat) (hd : a.eval d = .slice (some ⟨g, off, none⟩) dLen dCap) (hs : a.eval s = .slice (some ad) sLen sCap)
    (m : Nat) (t : TypeId) (f : Nat → Value) (hF : Fr w g t m f) (cs : List Value) (hn : cs.length = Nat.min sLen dLen)
    (hsrc : ∀ j v, cs[j]? = some v → w.cell? (ad.add j) = some v)
    (hfit : off + cs.length ≤ m) (h1 : ∀ v ∈ cs, v.oneCell' = true)
    (h : ∀ w', Hid (Fr w' g t m (layF f off cs)) → Hid (Turn g w w') → K (a.put o.dst (goInt cs.length)) w') :
    if Region.wanted o (yielded ops a.tmps) = true then Oper.wp P o a w K Q else E := by
  have hw : Region.wanted o (yielded ops a.tmps) = true := by simp [Region.wanted, hgd]
  rw [if_pos hw]
  obtain ⟨cur, hc, hcm, _⟩ := id hF
  obtain ⟨cl, rfl⟩ : ∃ cl : List Value, cur = cl.toArray := ⟨cur.toList, by simp⟩
  have hrun := run_copy_row (P := P) w dT sT o.type elem g off dLen dCap ad sLen sCap cl.toArray t cs hu hsz hc hn hsrc (by simp at hcm ⊢; omega) h1
  unfold Oper.wp
  simp [execOp, ho, resolve, invoke, builtin, hd, hs, hrun, Result.andThen]
  have hh := h (w.setRow g (splice cl off cs).toArray) (Lib.hid (hF.splice off cs hfit cl hc)) (Lib.hid (turn_setRow _ _ _))
  simp only [splice] at hh
  exact hh
/-- 'make([]T, l)', of elements of several cells: the block that is made. -/
theorem run_make_fr {P : Program} (w : World) (t e : TypeId) (i : TypeInfo) (z : Value) (h1 : P.underlying t = some (.slice e)) (h2 : P.info? e = some i) (h3 : i.zero = some z) (c : Nat) (hb : i.bytes * c ≤ 281474976710656) (hc : c ≤ maxLen)
    (v : Value) (hz : ∀ x ∈ z.cells.toList, x = v) (hs : z.cells.size = i.size) (hp : 0 < i.size) :
    ∃ w', (Instr.makeSlice t (.int .i64 (c : Int)) (.int .i64 (c : Int))).run P w = .ok (.slice (some ⟨w.heap.size, 0, none⟩) c c) w' ∧ Fr w' w.heap.size e (c * i.size) (fun _ => v) ∧ Below w.heap.size w w' ∧ w'.heap.size = w.heap.size + 1 := by
  have hm : (c : Int) ≤ 9223372036854775807 := by have h := hc; simp [maxLen] at h; omega
  have hb' : (i.bytes : Int) * (c : Int) ≤ 281474976710656 := by
    have h : ((i.bytes * c : Nat) : Int) ≤ 281474976710656 := by omega
    rwa [Int.natCast_mul] at h
  have hr := run_make (P := P) w t e i z h1 h2 h3 .i64 .i64 c c (by omega) (Int.le_refl _) hb' hm
  simp only [Int.toNat_natCast] at hr
  refine ⟨_, hr, ⟨_, heap_alloc_new w _, by rw [size_madeCells]; exact Nat.le_refl _, fun k hk => ?_⟩, (Below.refl _ _).alloc (Nat.le_refl _) _, by rw [World.size_alloc]⟩
  have hv : ∀ j, j < z.cells.size → z.cells[j]? = some v := fun j hj => by
    rw [Array.getElem?_eq_getElem hj, hz z.cells[j] (by simp)]
  have h0 : 0 < z.cells.size := by omega
  unfold madeCells
  rw [Array.getElem?_map, Array.getElem?_range, if_pos hk]
  have := hv (k % z.cells.size) (Nat.mod_lt _ h0)
  simp [Array.getD, Nat.mod_lt _ h0] at this ⊢
  exact this
end Go.Proofs.Ytajplflefagbaaa
