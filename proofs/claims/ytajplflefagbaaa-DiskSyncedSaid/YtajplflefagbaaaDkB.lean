/-
  The document's device in memory (layer 8): its shape, what keeps it; Has, Read.
-/
import Derived.Test.YtajplflefagbaaaProg
import Derived.Test.YtajplflefagbaaaDkA
import Derived.Test.YtajplflefagbaaaRefA
import Derived.Test.YtajplflefagbaaaZq
namespace Go.Proofs.Ytajplflefagbaaa
open Go Go.RowKit
set_option linter.unusedVariables false
set_option linter.unusedSimpArgs false

/-- A block's bytes in memory: at the head of a row. -/
def Row (w : World) (b : Nat) (l : List UInt8) : Prop := ∃ cur : Array Value, w.heap[b]? = some (.cells cur 5 (0, 0)) ∧ ∀ (j : Nat) (x : UInt8), l[j]? = some x → cur[j]? = some (Value.int .u8 (x.toNat : Int))
section
variable {w w' : World} {b : Nat} {l : List UInt8}
theorem Row.lt (h : Row w b l) : b < w.heap.size := by obtain ⟨cur, h1, _⟩ := h; exact (Array.getElem?_eq_some_iff.1 h1).1
theorem Row.keep (h : Row w b l) (hk : w'.heap[b]? = w.heap[b]?) : Row w' b l := by obtain ⟨cur, h1, h2⟩ := h; exact ⟨cur, hk.trans h1, h2⟩
theorem Row.cellAt (h : Row w b l) (k : Nat) (hk : k < l.length) : w.cell? ⟨b, k, none⟩ = some (.int .u8 ((l.getD k 0).toNat : Int)) := by
  obtain ⟨cur, h1, h2⟩ := h
  rw [cell_of_row _ _ _ _ _ _ h1]
  exact h2 k _ (by rw [List.getD_eq_getElem?_getD, List.getElem?_eq_getElem hk]; rfl)
theorem Row.free (h : Row w b l) (k : Nat) : w.frozen? ⟨b, k, none⟩ = false := by obtain ⟨cur, h1, _⟩ := h; exact frozen_of_row _ _ _ _ _ h1
theorem Row.rd (h : Row w b l) : Rd w w.heap.size (some ⟨b, 0, none⟩) (vb l) := fun _ => by
  have hlt := h.lt
  obtain ⟨cur, h1, h2⟩ := h
  refine ⟨_, rfl, hlt, fun j u hj => ?_⟩
  rw [head_add, cell_of_row _ _ _ _ _ _ h1]
  rw [List.getElem?_map] at hj
  cases hl : l[j]? with
  | none => rw [hl] at hj; cases hj
  | some x => rw [hl] at hj; cases hj; exact h2 j x hl
theorem Row.set (h : Row w b l) (k : Nat) (hk : k < l.length) (x : UInt8) : Row (w.setCell ⟨b, k, none⟩ (.int .u8 (x.toNat : Int))) b (l.set k x) := by
  obtain ⟨cur, h1, h2⟩ := h
  have hc : k < cur.size := by have := h2 k l[k] (List.getElem?_eq_getElem hk); exact (Array.getElem?_eq_some_iff.1 this).1
  refine ⟨_, heap_setCell_same _ _ _ _ _ _ h1, fun j y hj => ?_⟩
  rw [Array.getElem?_setIfInBounds]
  rw [List.getElem?_set] at hj
  by_cases e : k = j
  · subst e
    rw [if_pos rfl, if_pos hk] at hj
    rw [if_pos rfl, if_pos hc]
    cases hj; rfl
  · rw [if_neg e] at hj
    rw [if_neg e]
    exact h2 j y hj
theorem Row.of_own {base n c : Nat} {A : Option Addr} (h : w.ownsRow base 5 1 (.slice A n c) n (vb l)) (hn : 0 < n) : ∃ b, A = some ⟨b, 0, none⟩ ∧ base ≤ b ∧ Row w b l := by
  obtain ⟨_, hv⟩ := h
  rcases hv with ⟨_, h0⟩ | ⟨g, cap, cur, e, hg, hh, _, _, _, ht⟩
  · omega
  · injection e with e1 _ _
    refine ⟨g, e1, hg, cur, hh, fun j x hj => ?_⟩
    have h1 : (vb l)[j]? = some (.int .u8 (x.toNat : Int)) := by rw [List.getElem?_map, hj]; rfl
    rw [← ht, List.getElem?_take] at h1
    split at h1
    · rw [← Array.getElem?_toList]; exact h1
    · cases h1
end
/-- Slices of blocks, side by side. -/
def Sl (w : World) (b n : Nat) (g cg : Nat → Nat) : Prop := ∃ cur : Array Value, w.heap[b]? = some (.cells cur 34 (0, 0)) ∧ ∀ i, i < n → cur[i]? = some (Value.slice (some ⟨g i, 0, none⟩) 256 (cg i))
def upd (f : Nat → Nat) (i x : Nat) : Nat → Nat := fun j => if j = i then x else f j
section
variable {w w' : World} {b n : Nat} {g cg : Nat → Nat}
theorem Sl.keep (h : Sl w b n g cg) (hk : w'.heap[b]? = w.heap[b]?) : Sl w' b n g cg := by obtain ⟨cur, h1, h2⟩ := h; exact ⟨cur, hk.trans h1, h2⟩
theorem Sl.cellAt (h : Sl w b n g cg) (i : Nat) (hi : i < n) : w.cell? ⟨b, i, none⟩ = some (.slice (some ⟨g i, 0, none⟩) 256 (cg i)) := by
  obtain ⟨cur, h1, h2⟩ := h
  rw [cell_of_row _ _ _ _ _ _ h1]
  exact h2 i hi
theorem Sl.free (h : Sl w b n g cg) (k : Nat) : w.frozen? ⟨b, k, none⟩ = false := by obtain ⟨cur, h1, _⟩ := h; exact frozen_of_row _ _ _ _ _ h1
theorem Sl.set (h : Sl w b n g cg) (i : Nat) (hi : i < n) (x c : Nat) : Sl (w.setCell ⟨b, i, none⟩ (.slice (some ⟨x, 0, none⟩) 256 c)) b n (upd g i x) (upd cg i c) := by
  obtain ⟨cur, h1, h2⟩ := h
  have hc : i < cur.size := (Array.getElem?_eq_some_iff.1 (h2 i hi)).1
  refine ⟨_, heap_setCell_same _ _ _ _ _ _ h1, fun j hj => ?_⟩
  rw [Array.getElem?_setIfInBounds]
  unfold upd
  by_cases e : i = j
  · subst e; rw [if_pos rfl, if_pos hc, if_pos rfl, if_pos rfl]
  · rw [if_neg e, if_neg (fun h => e h.symm), if_neg (fun h => e h.symm)]; exact h2 j hj
end
/-- Two cells each, side by side. -/
def prs (n : Nat) (a b : Nat → Value) : List Value := (List.range n).flatMap fun k => [a k, b k]
theorem prs_succ (n : Nat) (a b : Nat → Value) : prs (n + 1) a b = prs n a b ++ [a n, b n] := by simp [prs, List.range_succ, List.flatMap_append]
theorem prs_len (n : Nat) (a b : Nat → Value) : (prs n a b).length = n * 2 := by
  induction n with
  | zero => rfl
  | succ n ih => rw [prs_succ, List.length_append, ih]; simp; omega
theorem prs_a (n : Nat) (a b : Nat → Value) (k : Nat) (hk : k < n) : (prs n a b)[k * 2]? = some (a k) := by
  induction n with
  | zero => omega
  | succ n ih =>
    rw [prs_succ]
    by_cases h : k < n
    · rw [List.getElem?_append_left (by rw [prs_len]; omega)]; exact ih h
    · obtain rfl : k = n := by omega
      rw [List.getElem?_append_right (by rw [prs_len]; omega), prs_len, Nat.sub_self]; rfl
theorem prs_b (n : Nat) (a b : Nat → Value) (k : Nat) (hk : k < n) : (prs n a b)[k * 2 + 1]? = some (b k) := by
  induction n with
  | zero => omega
  | succ n ih =>
    rw [prs_succ]
    by_cases h : k < n
    · rw [List.getElem?_append_left (by rw [prs_len]; omega)]; exact ih h
    · obtain rfl : k = n := by omega
      rw [List.getElem?_append_right (by rw [prs_len]; omega), prs_len, Nat.add_sub_cancel_left]; rfl
theorem prs_congr {n : Nat} {a b a' b' : Nat → Value} (ha : ∀ k, k < n → a k = a' k) (hb : ∀ k, k < n → b k = b' k) : prs n a b = prs n a' b' := by
  induction n with
  | zero => rfl
  | succ n ih => rw [prs_succ, prs_succ, ih (fun k hk => ha k (by omega)) (fun k hk => hb k (by omega)), ha n (by omega), hb n (by omega)]
theorem prs_one {n : Nat} {a b : Nat → Value} (ha : ∀ k, (a k).oneCell' = true) (hb : ∀ k, (b k).oneCell' = true) : ∀ u ∈ prs n a b, u.oneCell' = true := by
  intro u hu
  simp only [prs, List.mem_flatMap] at hu
  obtain ⟨k, _, hu⟩ := hu
  rcases List.mem_cons.1 hu with rfl | hu
  · exact ha k
  · rw [List.mem_singleton.1 hu]; exact hb k

/-- Where all of a device lies. K: what each block is. -/
structure Sh where
  bn : Nat
  cn : Nat
  bf : Nat
  cf : Nat
  wv : Value
  g : Nat → Nat
  cg : Nat → Nat
  h : Nat → Nat
  ch : Nat → Nat
  q : Nat → Nat
  cq : Nat → Nat
  K : Nat → Nat
def wA (W : List (Nat × List UInt8)) (k : Nat) : Value := .int .i64 (((W.getD k (0, [])).1 : Nat) : Int)
def wB (q cq : Nat → Nat) (k : Nat) : Value := .slice (some ⟨q k, 0, none⟩) 256 (cq k)
abbrev dCells (S : Sh) (n : Nat) (D : Dev) : Array Value := #[.slice (some ⟨S.bn, 0, none⟩) n S.cn, .slice (some ⟨S.bf, 0, none⟩) n S.cf, S.wv, .int .u64 (D.steps : Int), .int .i64 (D.fail : Int), .int .i64 D.cut, .bool D.down]
structure RDs (S : Sh) (w : World) (p : Nat) (L : Nat → Prop) (n : Nat) (D : Dev) : Prop where
  ok : D.Ok n
  hp : w.heap[p]? = some (.cells (dCells S n D) 42 (0, 0))
  lp : L p ∧ S.K p = 7
  lbn : L S.bn ∧ S.K S.bn = 1
  lbf : L S.bf ∧ S.K S.bf = 2
  lg : ∀ i, i < n → L (S.g i) ∧ S.K (S.g i) = 10 * i + 13
  lh : ∀ i, i < n → L (S.h i) ∧ S.K (S.h i) = 10 * i + 14
  lq : ∀ k, k < D.waits.length → L (S.q k) ∧ S.K (S.q k) = 5
  lw : ∀ b, S.wv.ownBlock = some b → L b ∧ S.K b = 6
  sn : Sl w S.bn n S.g S.cg
  sf : Sl w S.bf n S.h S.ch
  rn : ∀ i, i < n → Row w (S.g i) (D.now.getD i [])
  rf : ∀ i, i < n → Row w (S.h i) (D.firm.getD i [])
  rq : ∀ k, k < D.waits.length → Row w (S.q k) (D.waits.getD k (0, [])).2
  ww : w.ownsRow 0 74 2 S.wv D.waits.length (prs D.waits.length (wA D.waits) (wB S.q S.cq))
  lt : ∀ b, L b → b < w.heap.size
def RD (w : World) (p : Nat) (L : Nat → Prop) (n : Nat) (D : Dev) : Prop := ∃ S, RDs S w p L n D
theorem own_same {w w' : World} {base e sz n : Nat} {v : Value} {xs : List Value} (h : w.ownsRow base e sz v n xs) (hk : ∀ b, v.ownBlock = some b → w'.heap[b]? = w.heap[b]?) : w'.ownsRow base e sz v n xs := by
  obtain ⟨hn, hv⟩ := h
  refine ⟨hn, hv.imp id ?_⟩
  rintro ⟨g, cap, cur, rfl, h1, h2, h3⟩
  exact ⟨g, cap, cur, rfl, h1, (hk g rfl).trans h2, h3⟩
section
variable {S : Sh} {w w' : World} {p n : Nat} {L : Nat → Prop} {D : Dev}
theorem RDs.c0 (h : RDs S w p L n D) : w.cell? ⟨p, 0, none⟩ = some (.slice (some ⟨S.bn, 0, none⟩) n S.cn) := by rw [cell_of_row _ _ _ _ _ _ h.hp]; rfl
theorem RDs.c1 (h : RDs S w p L n D) : w.cell? ⟨p, 1, none⟩ = some (.slice (some ⟨S.bf, 0, none⟩) n S.cf) := by rw [cell_of_row _ _ _ _ _ _ h.hp]; rfl
theorem RDs.c2 (h : RDs S w p L n D) : w.cell? ⟨p, 2, none⟩ = some S.wv := by rw [cell_of_row _ _ _ _ _ _ h.hp]; rfl
theorem RDs.c3 (h : RDs S w p L n D) : w.cell? ⟨p, 3, none⟩ = some (.int .u64 (D.steps : Int)) := by rw [cell_of_row _ _ _ _ _ _ h.hp]; rfl
theorem RDs.c4 (h : RDs S w p L n D) : w.cell? ⟨p, 4, none⟩ = some (.int .i64 (D.fail : Int)) := by rw [cell_of_row _ _ _ _ _ _ h.hp]; rfl
theorem RDs.c5 (h : RDs S w p L n D) : w.cell? ⟨p, 5, none⟩ = some (.int .i64 D.cut) := by rw [cell_of_row _ _ _ _ _ _ h.hp]; rfl
theorem RDs.c6 (h : RDs S w p L n D) : w.cell? ⟨p, 6, none⟩ = some (.bool D.down) := by rw [cell_of_row _ _ _ _ _ _ h.hp]; rfl
theorem RDs.free (h : RDs S w p L n D) (j : Nat) : w.frozen? ⟨p, j, none⟩ = false := frozen_of_row _ _ _ _ _ h.hp
theorem RDs.keep (h : RDs S w p L n D) (hk : ∀ b, L b → w'.heap[b]? = w.heap[b]?) (hs : w.heap.size ≤ w'.heap.size) : RDs S w' p L n D :=
  ⟨h.ok, (hk _ h.lp.1).trans h.hp, h.lp, h.lbn, h.lbf, h.lg, h.lh, h.lq, h.lw, h.sn.keep (hk _ h.lbn.1), h.sf.keep (hk _ h.lbf.1), fun i hi => (h.rn i hi).keep (hk _ (h.lg i hi).1), fun i hi => (h.rf i hi).keep (hk _ (h.lh i hi).1),
    fun k hk' => (h.rq k hk').keep (hk _ (h.lq k hk').1), own_same h.ww fun b hb => hk b (h.lw b hb).1, fun b hb => Nat.lt_of_lt_of_le (h.lt b hb) hs⟩
theorem RDs.call (h : RDs S w p L n D) (hb : Below w.heap.size w w') : RDs S w' p L n D := h.keep (fun b hL => hb.block b (h.lt b hL)) hb.size
theorem RDs.more {M : Nat → Prop} (h : RDs S w p L n D) (hM : ∀ b, L b → M b) (hlt : ∀ b, M b → b < w.heap.size) : RDs S w p M n D :=
  ⟨h.ok, h.hp, ⟨hM _ h.lp.1, h.lp.2⟩, ⟨hM _ h.lbn.1, h.lbn.2⟩, ⟨hM _ h.lbf.1, h.lbf.2⟩, fun i hi => ⟨hM _ (h.lg i hi).1, (h.lg i hi).2⟩, fun i hi => ⟨hM _ (h.lh i hi).1, (h.lh i hi).2⟩, fun i hi => ⟨hM _ (h.lq i hi).1, (h.lq i hi).2⟩, fun i hi => ⟨hM _ (h.lw i hi).1, (h.lw i hi).2⟩,
    h.sn, h.sf, h.rn, h.rf, h.rq, h.ww, hlt⟩
/-- Only the struct's own cells are others. -/
theorem RDs.setp {D' : Dev} (h : RDs S w p L n D) (e1 : D'.now = D.now) (e2 : D'.firm = D.firm) (e3 : D'.waits = D.waits) (ok : D'.Ok n) (hp : w'.heap[p]? = some (.cells (dCells S n D') 42 (0, 0)))
    (hk : ∀ b, b ≠ p → w'.heap[b]? = w.heap[b]?) (hs : w.heap.size ≤ w'.heap.size) : RDs S w' p L n D' := by
  have ne : ∀ b, S.K b ≠ 7 → b ≠ p := fun b hb e => hb (by rw [e]; exact h.lp.2)
  refine ⟨ok, hp, h.lp, h.lbn, h.lbf, h.lg, h.lh, by rw [e3]; exact h.lq, h.lw, h.sn.keep (hk _ (ne _ (by rw [h.lbn.2]; decide))), h.sf.keep (hk _ (ne _ (by rw [h.lbf.2]; decide))), ?_, ?_, ?_, ?_, fun b hb => Nat.lt_of_lt_of_le (h.lt b hb) hs⟩
  · intro i hi; rw [e1]; exact (h.rn i hi).keep (hk _ (ne _ (by rw [(h.lg i hi).2]; omega)))
  · intro i hi; rw [e2]; exact (h.rf i hi).keep (hk _ (ne _ (by rw [(h.lh i hi).2]; omega)))
  · intro k hk'; rw [e3] at hk' ⊢; exact (h.rq k hk').keep (hk _ (ne _ (by rw [(h.lq k hk').2]; decide)))
  · rw [e3]; exact own_same h.ww fun b hb => hk _ (ne _ (by rw [(h.lw b hb).2]; decide))
theorem RDs.setSteps (h : RDs S w p L n D) (x : Nat) (hx : x < 18446744073709551616) : RDs S (w.setCell ⟨p, 3, none⟩ (.int .u64 (x : Int))) p L n { D with steps := x } :=
  h.setp rfl rfl rfl ⟨h.ok.nl, h.ok.fl, h.ok.nr, h.ok.fr, h.ok.wl, h.ok.fs, h.ok.cs, hx⟩ (heap_setCell_same _ _ _ _ _ _ h.hp) (fun b hb => heap_setCell_other _ _ _ _ hb) (by simp)
theorem RDs.setFail (h : RDs S w p L n D) (x : Nat) (hx : x ≤ 9223372036854775807) : RDs S (w.setCell ⟨p, 4, none⟩ (.int .i64 (x : Int))) p L n { D with fail := x } :=
  h.setp rfl rfl rfl ⟨h.ok.nl, h.ok.fl, h.ok.nr, h.ok.fr, h.ok.wl, hx, h.ok.cs, h.ok.ss⟩ (heap_setCell_same _ _ _ _ _ _ h.hp) (fun b hb => heap_setCell_other _ _ _ _ hb) (by simp)
theorem RDs.setCut (h : RDs S w p L n D) (x : Int) (hx : -1 ≤ x ∧ x ≤ 9223372036854775807) : RDs S (w.setCell ⟨p, 5, none⟩ (.int .i64 x)) p L n { D with cut := x } :=
  h.setp rfl rfl rfl ⟨h.ok.nl, h.ok.fl, h.ok.nr, h.ok.fr, h.ok.wl, h.ok.fs, hx, h.ok.ss⟩ (heap_setCell_same _ _ _ _ _ _ h.hp) (fun b hb => heap_setCell_other _ _ _ _ hb) (by simp)
theorem RDs.setDown (h : RDs S w p L n D) (x : Bool) : RDs S (w.setCell ⟨p, 6, none⟩ (.bool x)) p L n { D with down := x } :=
  h.setp rfl rfl rfl ⟨h.ok.nl, h.ok.fl, h.ok.nr, h.ok.fr, h.ok.wl, h.ok.fs, h.ok.cs, h.ok.ss⟩ (heap_setCell_same _ _ _ _ _ _ h.hp) (fun b hb => heap_setCell_other _ _ _ _ hb) (by simp)
/-- Nothing waits. -/
theorem RDs.noWaits (h : RDs S w p L n D) : RDs { S with wv := .slice none 0 0 } (w.setCell ⟨p, 2, none⟩ (.slice none 0 0)) p L n { D with waits := [] } := by
  have ne : ∀ b, S.K b ≠ 7 → b ≠ p := fun b hb e => hb (by rw [e]; exact h.lp.2)
  have hk : ∀ b, b ≠ p → (w.setCell ⟨p, 2, none⟩ (.slice none 0 0)).heap[b]? = w.heap[b]? := fun b hb => heap_setCell_other _ _ _ _ hb
  exact ⟨⟨h.ok.nl, h.ok.fl, h.ok.nr, h.ok.fr, fun k hk' => absurd hk' (Nat.not_lt_zero _), h.ok.fs, h.ok.cs, h.ok.ss⟩, heap_setCell_same _ _ _ _ _ _ h.hp, h.lp, h.lbn, h.lbf, h.lg, h.lh, fun k hk' => absurd hk' (Nat.not_lt_zero _), fun b hb => by simp [Value.ownBlock] at hb,
    h.sn.keep (hk _ (ne _ (by rw [h.lbn.2]; decide))), h.sf.keep (hk _ (ne _ (by rw [h.lbf.2]; decide))), fun i hi => (h.rn i hi).keep (hk _ (ne _ (by rw [(h.lg i hi).2]; omega))), fun i hi => (h.rf i hi).keep (hk _ (ne _ (by rw [(h.lh i hi).2]; omega))),
    fun k hk' => absurd hk' (Nat.not_lt_zero _), ⟨rfl, .inl ⟨rfl, rfl⟩⟩, fun b hb => by rw [World.size_setCell]; exact h.lt b hb⟩
theorem RD.call (h : RD w p L n D) (hb : Below w.heap.size w w') : RD w' p L n D := by obtain ⟨S, h⟩ := h; exact ⟨S, h.call hb⟩
theorem RD.keep {M : Nat → Prop} (h : RD w p L n D) (hk : Keep M w w') (hd : ∀ b, L b → ¬ M b) : RD w' p L n D := by obtain ⟨S, h⟩ := h; exact ⟨S, h.keep (fun b hb => hk.block b (h.lt b hb) (hd b hb)) hk.size⟩
theorem RD.more {M : Nat → Prop} (h : RD w p L n D) (hM : ∀ b, L b → M b) (hlt : ∀ b, M b → b < w.heap.size) : RD w p M n D := by obtain ⟨S, h⟩ := h; exact ⟨S, h.more hM hlt⟩
theorem RD.ok (h : RD w p L n D) : D.Ok n := by obtain ⟨S, h⟩ := h; exact h.ok
theorem RD.lt (h : RD w p L n D) : ∀ b, L b → b < w.heap.size := by obtain ⟨S, h⟩ := h; exact h.lt
end

set_option maxRecDepth 100000 in
set_option maxHeartbeats 4000000 in
theorem rdhas_any (w : World) (p n : Nat) (L : Nat → Prop) (D : Dev) (i : Int) (h : RD w p L n D) :
    Calls Try.prog 37 #[.pointer (some ⟨p, 0, none⟩), .int .i64 i] w fun e w' => e = .returned (.bool (hasB n i)) ∧ w' = w := by
  obtain ⟨S, h⟩ := h
  have d0 := h.c0
  clear h
  by_cases h0 : 0 ≤ i
  · by_cases h1 : i < (n : Int)
    · rw [show hasB n i = true from by simp [hasB, h0, h1]]
      go_enter Try.func37, Try.ntmps37
      go_wp2_with fail
      go_ret
      exact ⟨rfl, rfl⟩
    · rw [show hasB n i = false from by simp [hasB, h1]]
      go_enter Try.func37, Try.ntmps37
      go_wp2_with fail
      go_ret
      exact ⟨rfl, rfl⟩
  · rw [show hasB n i = false from by simp [hasB, h0]]
    go_enter Try.func37, Try.ntmps37
    go_wp2_with fail
    go_ret
    exact ⟨rfl, rfl⟩
/-- What Read tells. -/
def Dev.readE (D : Dev) (n : Nat) (i : Int) : Nat := if hasB n i = true then (if D.down = true then 81 else 0) else 2
def Dev.readB (D : Dev) (n : Nat) (i : Int) : List UInt8 := if D.readE n i = 0 then D.now.getD i.toNat [] else []
set_option maxRecDepth 100000 in
set_option maxHeartbeats 4000000 in
theorem rdread_any (w : World) (p n : Nat) (L : Nat → Prop) (D : Dev) (i : Int) (h : RD w p L n D) :
    Calls Try.prog 32 #[.pointer (some ⟨p, 0, none⟩), .int .i64 i] w fun e w' => ∃ v, e = .returned (.tuple #[v, .int .i64 (D.readE n i : Int)]) ∧ w'.ownsRow w.heap.size 5 1 v (D.readB n i).length (vb (D.readB n i)) ∧ Below w.heap.size w w' := by
  have hh := rdhas_any w p n L D i h
  obtain ⟨S, h⟩ := h
  have d0 := h.c0
  have d6 := h.c6
  by_cases h1 : hasB n i = true
  · rw [h1] at hh
    have HH := Lib.hid hh; clear hh
    obtain ⟨i0, i1⟩ := (hasB_iff n i).1 h1
    by_cases hd : D.down = true
    · have eE : D.readE n i = 81 := by unfold Dev.readE; rw [if_pos h1, if_pos hd]
      have eB : D.readB n i = [] := by unfold Dev.readB; rw [if_neg (by rw [eE]; decide)]
      rw [eE, eB]
      rw [hd] at d6
      clear h eE eB hd
      go_enter Try.func32, Try.ntmps32
      go_wp2_with fail
      refine HH.out.mono ?_
      rintro e w1 ⟨rfl, rfl⟩
      go_wp2_with fail
      go_ret2
      exact ⟨_, rfl, ⟨rfl, .inl ⟨rfl, rfl⟩⟩, Below.refl _ _⟩
    · have hd : D.down = false := by simpa using hd
      have eE : D.readE n i = 0 := by unfold Dev.readE; rw [if_pos h1, if_neg (by rw [hd]; decide)]
      obtain ⟨k, rfl⟩ : ∃ k : Nat, i = (k : Int) := ⟨i.toNat, by omega⟩
      have hk : k < n := by omega
      have eB : D.readB n (k : Int) = D.now.getD k [] := by unfold Dev.readB; rw [if_pos eE]; rfl
      rw [eE, eB]
      rw [hd] at d6
      have hc := h.sn.cellAt k hk
      have hlen := h.ok.nr k hk
      have hr := (h.rn k hk).rd
      generalize D.now.getD k [] = l at *
      have hcp := copyv_any (some ⟨S.g k, 0, none⟩) (vb l) 256 (S.cg k) (by simp [vb, hlen]) (vb_onec l) w (by decide) hr
      have HC := Lib.hid hcp; clear hcp
      rw [hlen]
      clear h eE eB hd hr hlen h1 i0
      generalize S.g k = gk at *
      generalize S.cg k = ck at *
      generalize S.bn = bn at *
      generalize S.cn = cn at *
      go_enter Try.func32, Try.ntmps32
      go_wp2_with fail
      refine HH.out.mono ?_
      rintro e w1 ⟨rfl, rfl⟩
      go_wp2_with fail
      refine HC.out.mono ?_
      rintro e w2 ⟨v, rfl, ho, hb⟩
      go_wp2_with fail
      go_ret2
      exact ⟨_, rfl, ho, hb⟩
  · have eE : D.readE n i = 2 := by unfold Dev.readE; rw [if_neg h1]
    have eB : D.readB n i = [] := by unfold Dev.readB; rw [if_neg (by rw [eE]; decide)]
    rw [eE, eB]
    have h2 : hasB n i = false := by simpa using h1
    rw [h2] at hh
    have HH := Lib.hid hh; clear hh
    clear h eE eB h1 h2
    go_enter Try.func32, Try.ntmps32
    go_wp2_with fail
    refine HH.out.mono ?_
    rintro e w1 ⟨rfl, rfl⟩
    go_wp2_with fail
    go_ret2
    exact ⟨_, rfl, ⟨rfl, .inl ⟨rfl, rfl⟩⟩, Below.refl _ _⟩
end Go.Proofs.Ytajplflefagbaaa
