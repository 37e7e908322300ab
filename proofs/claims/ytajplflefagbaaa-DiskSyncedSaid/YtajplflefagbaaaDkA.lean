/-
  Devices, plain: what a device tells, what is firm, what waits; its steps, writes, syncs, crashes (layer 8). No program.
-/
import Derived.Test.YtajplflefagbaaaBase
namespace Go.Proofs.Ytajplflefagbaaa
open Go Go.RowKit
set_option linter.unusedVariables false
set_option linter.unusedSimpArgs false

/-- A device. -/
structure Dev where
  now : List (List UInt8)
  firm : List (List UInt8)
  waits : List (Nat × List UInt8)
  steps : Nat
  fail : Nat
  cut : Int
  down : Bool
/-- n blocks of noughts. -/
def zeroB : List UInt8 := List.replicate 256 0
theorem zeroB_len : zeroB.length = 256 := List.length_replicate
def Dev.new (n : Nat) : Dev := ⟨List.replicate n zeroB, List.replicate n zeroB, [], 0, 0, -1, false⟩
/-- A step: its error, and what is then. -/
def Dev.stepE (D : Dev) : Nat := if D.cut = 0 ∨ D.down = true then 81 else if D.fail = 1 then 80 else 0
def Dev.step (D : Dev) : Dev :=
  if D.cut = 0 ∨ D.down = true then { D with down := true }
  else { D with cut := if 0 < D.cut then D.cut - 1 else D.cut, steps := (D.steps + 1) % 18446744073709551616, fail := D.fail - 1 }
/-- Is there such a block, of n? -/
def hasB (n : Nat) (i : Int) : Bool := decide (0 ≤ i) && decide (i < (n : Int))
def Dev.put (D : Dev) (i : Nat) (l : List UInt8) : Dev := { D with now := D.now.set i l, waits := D.waits ++ [(i, l)] }
def Dev.writeE (D : Dev) (n : Nat) (i : Int) (l : List UInt8) : Nat := if hasB n i = true ∧ l.length = 256 then D.stepE else 2
def Dev.write (D : Dev) (n : Nat) (i : Int) (l : List UInt8) : Dev :=
  if hasB n i = true ∧ l.length = 256 then (if D.stepE = 0 then D.step.put i.toNat l else D.step) else D
def Dev.sync (D : Dev) : Dev := if D.stepE = 0 then { D.step with firm := D.step.now, waits := [] } else D.step
/-- A block that comes through by its sectors. -/
def crL8 (m : Nat) (old new : List UInt8) : List UInt8 := (List.range 256).map fun k => if m / 2 ^ (k / 64) % 2 = 1 then new.getD k 0 else old.getD k 0
def crF : List (Nat × List UInt8) → List Nat → List (List UInt8) → List (List UInt8)
  | (i, l) :: ws, m :: ms, F => crF ws ms (F.set i (crL8 m (F.getD i []) l))
  | _, _, F => F
def Dev.crash (D : Dev) (ms : List Nat) : Dev := { now := crF D.waits ms D.firm, firm := crF D.waits ms D.firm, waits := [], steps := D.steps, fail := 0, cut := -1, down := false }
/-- Bytes laid over others. -/
def over8 (old : List UInt8) (at_ : Nat) (b : List UInt8) : List UInt8 := (List.range old.length).map fun k => if at_ ≤ k ∧ k < at_ + b.length then b.getD (k - at_) 0 else old.getD k 0
def forB (n : Nat) (i at_ : Int) (len : Nat) : Bool := hasB n i && decide (0 ≤ at_) && decide (at_ + (len : Int) ≤ 256)
def Dev.foreign (D : Dev) (n : Nat) (i at_ : Int) (b : List UInt8) : Dev :=
  if forB n i at_ b.length = true then { D with now := D.now.set i.toNat (over8 (D.now.getD i.toNat []) at_.toNat b), firm := D.firm.set i.toNat (over8 (D.firm.getD i.toNat []) at_.toNat b) } else D
def Dev.setFail (D : Dev) (i : Int) : Dev := { D with fail := i.toNat }
def Dev.setCut (D : Dev) (i : Int) : Dev := { D with cut := max i (-1) }

/-- What every device keeps. -/
structure Dev.Ok (D : Dev) (n : Nat) : Prop where
  nl : D.now.length = n
  fl : D.firm.length = n
  nr : ∀ i, i < n → (D.now.getD i []).length = 256
  fr : ∀ i, i < n → (D.firm.getD i []).length = 256
  wl : ∀ k, k < D.waits.length → (D.waits.getD k (0, [])).1 < n ∧ (D.waits.getD k (0, [])).2.length = 256
  fs : D.fail ≤ 9223372036854775807
  cs : -1 ≤ D.cut ∧ D.cut ≤ 9223372036854775807
  ss : D.steps < 18446744073709551616

theorem getD_set {α : Type} (l : List α) (i j : Nat) (x d : α) : (l.set i x).getD j d = if j = i ∧ i < l.length then x else l.getD j d := by
  simp only [List.getD_eq_getElem?_getD, List.getElem?_set]
  by_cases h : i = j
  · subst h
    by_cases hl : i < l.length
    · simp [hl]
    · simp [hl, List.getElem?_eq_none (Nat.le_of_not_lt hl)]
  · rw [if_neg h, if_neg (fun e => h e.1.symm)]
theorem getD_rep {α : Type} (n j : Nat) (x d : α) (h : j < n) : (List.replicate n x).getD j d = x := by
  simp [List.getD_eq_getElem?_getD, List.getElem?_replicate, h]
theorem getD_app {α : Type} (l : List α) (x d : α) (j : Nat) : (l ++ [x]).getD j d = if j = l.length then x else l.getD j d := by
  simp only [List.getD_eq_getElem?_getD]
  by_cases h : j < l.length
  · rw [List.getElem?_append_left h, if_neg (by omega)]
  · by_cases h2 : j = l.length
    · subst h2; simp
    · rw [if_neg h2, List.getElem?_eq_none (by simp; omega), List.getElem?_eq_none (by omega)]
theorem Dev.new_ok (n : Nat) : (Dev.new n).Ok n := by
  refine ⟨List.length_replicate, List.length_replicate, ?_, ?_, ?_, Nat.zero_le _, ⟨Int.le_refl _, by show (-1 : Int) ≤ _; decide⟩, by show 0 < 18446744073709551616; decide⟩
  · intro i hi; show ((List.replicate n zeroB).getD i []).length = 256; rw [getD_rep _ _ _ _ hi, zeroB_len]
  · intro i hi; show ((List.replicate n zeroB).getD i []).length = 256; rw [getD_rep _ _ _ _ hi, zeroB_len]
  · intro k hk; exact absurd hk (Nat.not_lt_zero _)
theorem Dev.Ok.step {D : Dev} {n : Nat} (h : D.Ok n) : D.step.Ok n := by
  obtain ⟨a, b, c, d, e, f, g, s⟩ := h
  unfold Dev.step
  split
  · exact ⟨a, b, c, d, e, f, g, s⟩
  · refine ⟨a, b, c, d, e, by show D.fail - 1 ≤ _; omega, ?_, by show _ % _ < _; omega⟩
    show -1 ≤ (if 0 < D.cut then D.cut - 1 else D.cut) ∧ (if 0 < D.cut then D.cut - 1 else D.cut) ≤ _
    split <;> omega
theorem Dev.Ok.put {D : Dev} {n : Nat} (h : D.Ok n) {i : Nat} (hi : i < n) {l : List UInt8} (hl : l.length = 256) : (D.put i l).Ok n := by
  obtain ⟨a, b, c, d, e, f, g, s⟩ := h
  refine ⟨by simp [Dev.put, a], b, ?_, d, ?_, f, g, s⟩
  · intro j hj
    show ((D.now.set i l).getD j []).length = 256
    rw [getD_set]
    split
    · exact hl
    · exact c j hj
  · intro k hk
    have hk2 : k < D.waits.length + 1 := by simpa [Dev.put] using hk
    show ((D.waits ++ [(i, l)]).getD k (0, [])).1 < n ∧ ((D.waits ++ [(i, l)]).getD k (0, [])).2.length = 256
    rw [getD_app]
    split
    · exact ⟨hi, hl⟩
    · exact e k (by omega)
theorem hasB_iff (n : Nat) (i : Int) : hasB n i = true ↔ 0 ≤ i ∧ i < (n : Int) := by simp [hasB]
theorem Dev.Ok.write {D : Dev} {n : Nat} (h : D.Ok n) (i : Int) (l : List UInt8) : (D.write n i l).Ok n := by
  unfold Dev.write
  split
  · rename_i hi
    have := (hasB_iff n i).1 hi.1
    split
    · exact h.step.put (by omega) hi.2
    · exact h.step
  · exact h
theorem Dev.Ok.sync {D : Dev} {n : Nat} (h : D.Ok n) : D.sync.Ok n := by
  unfold Dev.sync
  split
  · obtain ⟨a, b, c, d, e, f, g, s⟩ := h.step
    exact ⟨a, a, c, c, fun k hk => absurd hk (Nat.not_lt_zero _), f, g, s⟩
  · exact h.step
theorem crL8_len (m : Nat) (old new : List UInt8) : (crL8 m old new).length = 256 := by simp [crL8]
theorem crF_len : ∀ (ws : List (Nat × List UInt8)) (ms : List Nat) (F : List (List UInt8)), (crF ws ms F).length = F.length
  | [], _, _ => rfl
  | (_, _) :: _, [], _ => rfl
  | (i, l) :: ws, m :: ms, F => by rw [crF, crF_len ws ms, List.length_set]
theorem crF_row : ∀ (ws : List (Nat × List UInt8)) (ms : List Nat) (F : List (List UInt8)) (n : Nat), (∀ i, i < n → (F.getD i []).length = 256) → ∀ i, i < n → ((crF ws ms F).getD i []).length = 256
  | [], _, _, _, h => h
  | (_, _) :: _, [], _, _, h => h
  | (i, l) :: ws, m :: ms, F, n, h => by
    rw [crF]
    refine crF_row ws ms _ n fun j hj => ?_
    rw [getD_set]
    split
    · exact crL8_len _ _ _
    · exact h j hj
theorem Dev.Ok.crash {D : Dev} {n : Nat} (h : D.Ok n) (ms : List Nat) : (D.crash ms).Ok n := by
  obtain ⟨a, b, c, d, e, f, g, s⟩ := h
  exact ⟨by show (crF _ _ _).length = n; rw [crF_len, b], by show (crF _ _ _).length = n; rw [crF_len, b], crF_row _ _ _ n d, crF_row _ _ _ n d, fun k hk => absurd hk (Nat.not_lt_zero _), Nat.zero_le _, ⟨Int.le_refl _, by show (-1 : Int) ≤ _; decide⟩, s⟩
theorem over8_len (old : List UInt8) (a : Nat) (b : List UInt8) : (over8 old a b).length = old.length := by simp [over8]
theorem Dev.Ok.foreign {D : Dev} {n : Nat} (h : D.Ok n) (i at_ : Int) (b : List UInt8) : (D.foreign n i at_ b).Ok n := by
  unfold Dev.foreign
  split
  · obtain ⟨a, b', c, d, e, f, g, s⟩ := h
    refine ⟨by simp [a], by simp [b'], ?_, ?_, e, f, g, s⟩
    · intro j hj
      show ((D.now.set _ _).getD j []).length = 256
      rw [getD_set]
      split
      · rename_i hh; rw [over8_len, ← hh.1]; exact c j hj
      · exact c j hj
    · intro j hj
      show ((D.firm.set _ _).getD j []).length = 256
      rw [getD_set]
      split
      · rename_i hh; rw [over8_len, ← hh.1]; exact d j hj
      · exact d j hj
  · exact h
theorem Dev.Ok.setFail {D : Dev} {n : Nat} (h : D.Ok n) {i : Int} (hi : i ≤ 9223372036854775807) : (D.setFail i).Ok n := by
  obtain ⟨a, b, c, d, e, f, g, s⟩ := h
  exact ⟨a, b, c, d, e, by show i.toNat ≤ _; omega, g, s⟩
theorem Dev.Ok.setCut {D : Dev} {n : Nat} (h : D.Ok n) {i : Int} (hi : i ≤ 9223372036854775807) : (D.setCut i).Ok n := by
  obtain ⟨a, b, c, d, e, f, g, s⟩ := h
  exact ⟨a, b, c, d, e, f, by show -1 ≤ max i (-1) ∧ max i (-1) ≤ _; omega, s⟩

/-- What a call may change: the blocks L of those that there are. -/
structure Keep (L : Nat → Prop) (w w' : World) : Prop where
  os : w'.os = w.os
  tape : w'.tape = w.tape
  output : w'.output = w.output
  size : w.heap.size ≤ w'.heap.size
  block : ∀ k, k < w.heap.size → ¬ L k → w'.heap[k]? = w.heap[k]?
theorem Keep.refl (L : Nat → Prop) (w : World) : Keep L w w := ⟨rfl, rfl, rfl, Nat.le_refl _, fun _ _ _ => rfl⟩
theorem Keep.of {L : Nat → Prop} {w w' : World} (h : Below w.heap.size w w') : Keep L w w' := ⟨h.os, h.tape, h.output, h.size, fun k hk _ => h.block k hk⟩
theorem Keep.mono {L M : Nat → Prop} {w w' : World} (h : Keep L w w') (hs : ∀ b, b < w.heap.size → L b → M b) : Keep M w w' := ⟨h.os, h.tape, h.output, h.size, fun k hk hn => h.block k hk fun hl => hn (hs k hk hl)⟩
/-- Of blocks L what is new since w belongs to them, too. -/
def ext (L : Nat → Prop) (w w' : World) (b : Nat) : Prop := L b ∨ (w.heap.size ≤ b ∧ b < w'.heap.size)
theorem Keep.trans {L M : Nat → Prop} {a b c : World} (h : Keep L a b) (k : Keep M b c) (hs : ∀ x, x < a.heap.size → M x → L x) : Keep L a c :=
  ⟨k.os.trans h.os, k.tape.trans h.tape, k.output.trans h.output, Nat.le_trans h.size k.size, fun x hx hn => (k.block x (Nat.lt_of_lt_of_le hx h.size) fun hm => hn (hs x hx hm)).trans (h.block x hx hn)⟩
theorem Keep.ext {L : Nat → Prop} {a b c : World} (h : Keep L a b) (k : Keep (ext L a b) b c) : Keep L a c := h.trans k fun x hx hm => hm.elim id fun h => by omega
theorem Keep.call {L : Nat → Prop} {a b c : World} (h : Keep L a b) (k : Below b.heap.size b c) : Keep L a c := h.trans (Keep.of (L := L) k) fun _ _ h => h
theorem Keep.setCell {L : Nat → Prop} {w w' : World} (h : Keep L w w') {a : Addr} (ha : a.block < w.heap.size → L a.block) (v : Value) : Keep L w (w'.setCell a v) :=
  ⟨h.os, h.tape, h.output, by rw [World.size_setCell]; exact h.size, fun k hk hn => (heap_setCell_other _ _ _ _ (fun e => hn (by rw [e]; exact ha (by omega)))).trans (h.block k hk hn)⟩
theorem Keep.grown {L : Nat → Prop} {w w' w2 : World} {row : Option Nat} (h : Keep L w w') (hg : w'.grownBy w2 row) (hr : ∀ k, row = some k → k < w.heap.size → L k) : Keep L w w2 :=
  ⟨hg.os.trans h.os, hg.tape.trans h.tape, hg.output.trans h.output, Nat.le_trans h.size hg.size, fun k hk hn => (hg.block k (Nat.lt_of_lt_of_le hk h.size) fun e => hn (hr k e.symm hk)).trans (h.block k hk hn)⟩
theorem Keep.drewN {L : Nat → Prop} {w w' : World} (h : Keep L w w') (n : Nat) : Keep L w (w'.drewN n) := ⟨h.os, h.tape, h.output, h.size, h.block⟩
theorem Keep.drew {L : Nat → Prop} {w w' : World} (h : Keep L w w') : Keep L w w'.drew := ⟨h.os, h.tape, h.output, h.size, h.block⟩
theorem Keep.alloc {L : Nat → Prop} {w w' : World} (h : Keep L w w') (o : Obj) : Keep L w (w'.alloc o) := h.call ((Below.refl _ _).alloc (Nat.le_refl _) o)
theorem Keep.below {L : Nat → Prop} {B : Nat} {w w' : World} (h : Keep L w w') (hL : ∀ b, L b → B ≤ b) (hB : B ≤ w.heap.size) : Below B w w' :=
  ⟨h.os, h.tape, h.output, h.size, fun k hk => h.block k (by omega) fun hl => by have := hL k hl; omega⟩
end Go.Proofs.Ytajplflefagbaaa
