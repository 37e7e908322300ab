/-
  Several texts in one:
  Plain words for memory and bytes: a slice that can be read, bytes as values, what the operations on bytes come to. No program.
  Devices, plain: what a device tells, what is firm, what waits; its steps, writes, syncs, crashes (layer 8). No program.
  The document's Copy and Same of layer 1, for later layers (no code of octet is wanted).
  The library's lemmas on literal rows, by short names.
  The document's device in memory (layer 8): its shape, what keeps it; Has, Read.
  The document's device (layer 8): its steps.
  The document's device (layer 8): a block's row is another one; a write more waits; Write.
  Rows by a function in memory: loads, stores, copies in their midst (layer 8, the landed code's device). No promise yet.
  The landed code's device in memory (layer 8): its struct, its two rows of blocks, what waits. No promise yet.
  The landed code's device (layer 8): whether there is a block, how many, what is counted, waits; what is read.
  From a walk to a law's row: arguments that are opened, and what stands behind the call, for any law that answers true and leaves all older memory alone.
  Structs among a law's arguments, of one cell a field: the cells, and what each field is.
  Slices of structs among a law's arguments, with how much each of their fields may be; structs of three numbers and two slices of bytes.
  Slices of whatever elements among a law's arguments: slices of slices of bytes; structs of three numbers with such an op within (layer 9).
  The rest of a slice, and a piece of one: where they lie.
  Rows of bytes in memory: sixteen bytes as a function, arrays by value, a block that holds one. No function of any package.
  Numbers in groups of seven bits: their bytes, and what is read at the beginning of bytes. Plain mathematics.
  The document's bytes of a number, of a text (layer 7).
  The document's number at the beginning of bytes (layer 7).
  The document's reader (layer 7): what its calls answer, and where it stands behind them.
  The document's reader (layer 7): Byte and Done.
  The document's reader (layer 7): Text. (Printed by wip/gen/packtext.py.)
  A reader's calls in one form, whatever it stands at: what is answered, and where it stands behind (layer 7).
  The code's number at the beginning of bytes (layer 7): what it answers, of whatever bytes.
  An append of a row of no length leaves the value as it was; of any owned row it lays the cells behind.
  The code's bytes of a number and of a text, and a copy of bytes (layer 7).
-/
import Derived.WalkKit
import Derived.Lib.Hide
import Derived.Handy
import Derived.Laws.OwnMore
import Derived.Laws.BytesArg
import Derived.Laws.CopyOwn
import Derived.Deep.QuietTactic
import Derived.BigQuiet
import Derived.Deep.RegionHeld3
import Derived.Deep.AppendLies
import Derived.Test.YtpepbffhhfgdpaaProg
import Derived.Deep.Upon
import Derived.Deep.DeepCutAuto
import Derived.Deep.MidRow
import Derived.Test.YtpepbffhhfgdpaaRows
import Derived.ProofKit
import Derived.SizedLaws
import Derived.Deep.Fields
import Derived.Deep.Slices
import Derived.WalkLawsBesides
import Derived.OwnWalk
import Derived.Lib.SliceRun
namespace Go.Proofs.Ytpepbffhhfgdpaa
open Go Go.RowKit

/-- A byte as a value. -/
abbrev vb1 (b : UInt8) : Value := .int .u8 (b.toNat : Int)
/-- Bytes as values. -/
abbrev vb (l : List UInt8) : List Value := l.map fun b => Value.int .u8 (b.toNat : Int)

/-- The cells xs can be read at A, below block B. -/
def Rd (w : World) (B : Nat) (A : Option Addr) (xs : List Value) : Prop :=
  0 < xs.length → ∃ ad, A = some ad ∧ ad.block < B ∧ ∀ j u, xs[j]? = some u → w.cell? (ad.add j) = some u

theorem add_block (a : Addr) (n : Nat) : (a.add n).block = a.block := by
  unfold Addr.add; by_cases h : n = 0 <;> simp [h]
theorem add_add (a : Addr) (i j : Nat) : (a.add i).add j = a.add (i + j) := by
  unfold Addr.add
  rcases Nat.eq_zero_or_pos i with rfl | hi
  · simp
  · rcases Nat.eq_zero_or_pos j with rfl | hj
    · simp
    · simp [Nat.ne_of_gt hi, Nat.ne_of_gt hj, Nat.add_assoc]
theorem head_add (g i : Nat) : (⟨g, 0, none⟩ : Addr).add i = ⟨g, i, none⟩ := by
  unfold Addr.add
  rcases Nat.eq_zero_or_pos i with rfl | hi
  · simp
  · simp [Nat.ne_of_gt hi]

section
variable {w w' : World} {B B' : Nat} {A : Option Addr} {xs : List Value}

theorem Rd.nil (w : World) (B : Nat) (A : Option Addr) : Rd w B A [] := fun h => by simp at h

theorem Rd.keep (h : Rd w B A xs) (hk : ∀ p : Addr, p.block < B → w'.cell? p = w.cell? p) : Rd w' B A xs := fun h0 => by
  obtain ⟨ad, rfl, hb, hc⟩ := h h0
  exact ⟨ad, rfl, hb, fun j u hu => (hk _ (by rw [add_block]; exact hb)).trans (hc j u hu)⟩

theorem Rd.more (h : Rd w B A xs) (hB : B ≤ B') : Rd w B' A xs := fun h0 => by
  obtain ⟨ad, rfl, hb, hc⟩ := h h0
  exact ⟨ad, rfl, by omega, hc⟩

theorem Rd.below (h : Rd w B A xs) (hb : Below B w w') : Rd w' B A xs := h.keep fun _ hp => hb.cell hp

theorem Rd.go (h : Rd w w.heap.size A xs) (hb : Below w.heap.size w w') : Rd w' w'.heap.size A xs := (h.below hb).more hb.size

theorem Rd.at_ (h : Rd w B A xs) {k : Nat} (hk : k < xs.length) : ∃ ad, A = some ad ∧ ad.block < B ∧ w.cell? (ad.add k) = some xs[k] := by
  obtain ⟨ad, rfl, hb, hc⟩ := h (by omega)
  exact ⟨ad, rfl, hb, hc k _ (List.getElem?_eq_getElem hk)⟩

theorem Rd.byte {l : List UInt8} (h : Rd w B A (vb l)) {k : Nat} (hk : k < l.length) :
    ∃ ad, A = some ad ∧ ad.block < B ∧ w.cell? (ad.add k) = some (.int .u8 (l[k].toNat : Int)) := by
  obtain ⟨ad, rfl, hb, hc⟩ := h.at_ (k := k) (by simpa using hk)
  exact ⟨ad, rfl, hb, by simpa using hc⟩

/-- A slice that the call owns can be read. -/
theorem Rd.of_own {base e : Nat} {v : Value} {n : Nat} (h : w.ownsRow base e 1 v n xs) :
    ∃ A c, v = .slice A n c ∧ xs.length = n ∧ Rd w w.heap.size A xs := by
  have hlt := h.lt
  have hcells := @World.ownsRow.cells _ _ _ _ _ _ _ h
  obtain ⟨hn, hv⟩ := h
  rcases hv with ⟨rfl, rfl⟩ | ⟨g, cap, cur, rfl, hg, hh, hnc, hcm, hsz, htk⟩
  · exact ⟨none, 0, rfl, by simpa using hn, fun h0 => by omega⟩
  · exact ⟨some ⟨g, 0, none⟩, cap, rfl, by simpa using hn, fun _ => ⟨_, rfl, (hlt g rfl).2, hcells rfl⟩⟩
end

/-- A block of the call's own, as an owned row. -/
theorem own_of_blk {w : World} {base g e n cap : Nat} {cur : Array Value} (hg : w.heap[g]? = some (.cells cur e (0, 0))) (hb : base ≤ g) (hn : n ≤ cap) (hc : cap ≤ maxLen) (hs : cur.size = cap) :
    w.ownsRow base e 1 (.slice (some ⟨g, 0, none⟩) n cap) n (cur.toList.take n) :=
  ⟨by simp [hs]; omega, .inr ⟨g, cap, cur, rfl, hb, hg, hn, hc, by omega, by simp⟩⟩

/-- 'make([]T, l, c)', of elements of one cell: the block that is made. -/
theorem wpList_make_blk {P : Program} (w : World) {ops : Array Oper} {rest : List Oper} {o : Oper} {a : Act} {Q : Exit → Act → World → Prop}
    (hg : o.guard = none) (l c : Operand) (t : TypeId) (hop : o.op = Op.makeSlice t l c)
    (e : TypeId) (i : TypeInfo) (z : Value) (h1 : P.underlying t = some (.slice e)) (h2 : P.info? e = some i) (h3 : i.zero = some z) (h4 : i.size = 1) (h5 : z.cells = #[z])
    (kl kc : IntKind) (L C : Int) (n m : Nat) (hl : a.eval l = .int kl L) (hc : a.eval c = .int kc C) (hL : L = (n : Int)) (hC : C = (m : Int)) (hnm : n ≤ m) (b2 : i.bytes * m ≤ 281474976710656) (b3 : m ≤ maxLen)
    (hK : ∀ w', Hid (w'.heap[w.heap.size]? = some (.cells (List.replicate m z).toArray e (0, 0))) → Below w.heap.size w w' → Hid (w'.heap.size = w.heap.size + 1) →
      wpList P ops Q rest (a.put o.dst (.slice (some ⟨w.heap.size, 0, none⟩) n m)) w') :
    wpList P ops Q (o :: rest) a w := by
  refine wpList_plain hg fun K hK' => ?_
  have hm : (m : Int) ≤ 9223372036854775807 := by
    have h := b3
    simp [maxLen] at h
    omega
  have hb' : (i.bytes : Int) * (m : Int) ≤ 281474976710656 := by
    have h : ((i.bytes * m : Nat) : Int) ≤ 281474976710656 := by omega
    rwa [Int.natCast_mul] at h
  have hr := run_make (P := P) w t e i z h1 h2 h3 kl kc n m (by omega) (by omega) hb' hm
  simp only [Int.toNat_natCast, h4, h5, Nat.mul_one] at hr
  subst hL
  subst hC
  unfold Oper.wp
  simp [execOp, hop, hl, hc, hr, Result.andThen]
  refine hK' _ _ (hK _ ?_ ((Below.refl _ _).alloc (Nat.le_refl _) _) ?_)
  · have e : madeCells #[z] m = (List.replicate m z).toArray := by
      rw [← toList_madeCells_one]
    rw [e]
    exact Lib.hid (heap_alloc_new w _)
  · exact Lib.hid (by rw [World.size_alloc])

theorem bdrewN {B : Nat} {a w : World} (h : Below B a w) (n : Nat) : Below B a (w.drewN n) := ⟨h.os, h.tape, h.output, h.size, h.block⟩
theorem Rd.drewN {w : World} {B : Nat} {A : Option Addr} {xs : List Value} (h : Rd w B A xs) (n : Nat) : Rd (w.drewN n) B A xs := h
theorem own_drewN {w : World} {base e n : Nat} {v : Value} {xs : List Value} (h : w.ownsRow base e 1 v n xs) (d : Nat) : (w.drewN d).ownsRow base e 1 v n xs := h
/-- What the call owns stays its own, where no older memory is written. -/
theorem own_below {w w' : World} {base e n : Nat} {v : Value} {xs : List Value} (h : w.ownsRow base e 1 v n xs) (hb : Below w.heap.size w w') : w'.ownsRow base e 1 v n xs := by
  have hlt := h.lt
  obtain ⟨hn, hv⟩ := h
  refine ⟨hn, ?_⟩
  rcases hv with hv | ⟨g, cap, cur, rfl, hg, hh, hr⟩
  · exact .inl hv
  · exact .inr ⟨g, cap, cur, rfl, hg, (hb.block g (hlt g rfl).2).trans hh, hr⟩
/-- Another row than that of a block below. -/
theorem own_far {w : World} {base e n g : Nat} {v : Value} {xs : List Value} (h : w.ownsRow base e 1 v n xs) (hg : g < base) : some g ≠ v.ownBlock := by
  intro e'
  have := h.lt g e'.symm
  omega

/- What the operations on bytes come to. -/
theorem byte_lt (b : UInt8) : b.toNat < 256 := b.toNat_lt
theorem byte_bd (b : UInt8) : (0 : Int) ≤ (b.toNat : Int) ∧ (b.toNat : Int) ≤ 255 := by have := b.toNat_lt; omega

theorem bv_byte (b : UInt8) : BitVec.ofInt 8 (b.toNat : Int) = b.toBitVec := by
  apply BitVec.eq_of_toNat_eq
  have := b.toNat_lt
  simp

theorem wrap_u8 (x : UInt8) : IntKind.u8.wrap (x.toNat : Int) = (x.toNat : Int) := IntWalk.u8_in _ (by have := x.toNat_lt; omega)

theorem bits_or (a b : UInt8) : bits .or .u8 (a.toNat : Int) (b.toNat : Int) = ((a ||| b).toNat : Int) := by
  have h : bits .or .u8 (a.toNat : Int) (b.toNat : Int) = IntKind.u8.wrap (((BitVec.ofInt 8 (a.toNat : Int) ||| BitVec.ofInt 8 (b.toNat : Int)).toNat : Nat) : Int) := rfl
  rw [h, bv_byte, bv_byte]
  exact wrap_u8 (a ||| b)
theorem bits_xor (a b : UInt8) : bits .xor .u8 (a.toNat : Int) (b.toNat : Int) = ((a ^^^ b).toNat : Int) := by
  have h : bits .xor .u8 (a.toNat : Int) (b.toNat : Int) = IntKind.u8.wrap (((BitVec.ofInt 8 (a.toNat : Int) ^^^ BitVec.ofInt 8 (b.toNat : Int)).toNat : Nat) : Int) := rfl
  rw [h, bv_byte, bv_byte]
  exact wrap_u8 (a ^^^ b)
theorem bits_and (a b : UInt8) : bits .and .u8 (a.toNat : Int) (b.toNat : Int) = ((a &&& b).toNat : Int) := by
  have h : bits .and .u8 (a.toNat : Int) (b.toNat : Int) = IntKind.u8.wrap (((BitVec.ofInt 8 (a.toNat : Int) &&& BitVec.ofInt 8 (b.toNat : Int)).toNat : Nat) : Int) := rfl
  rw [h, bv_byte, bv_byte]
  exact wrap_u8 (a &&& b)

theorem bv_nat (k a : Nat) (h : a < 2 ^ k) : (BitVec.ofInt k (a : Int)).toNat = a := by
  rw [BitVec.toNat_ofInt, ← Int.natCast_emod, Int.toNat_natCast, Nat.mod_eq_of_lt h]
theorem wrap_u64 (a : Nat) (h : a < 2 ^ 64) : IntKind.u64.wrap (a : Int) = (a : Int) := IntWalk.u64_in _ (by have : a < 18446744073709551616 := h; omega)
theorem bits64_or (a b : Nat) (ha : a < 2 ^ 64) (hb : b < 2 ^ 64) : bits .or .u64 (a : Int) (b : Int) = ((a ||| b : Nat) : Int) := by
  have h : bits .or .u64 (a : Int) (b : Int) = IntKind.u64.wrap (((BitVec.ofInt 64 (a : Int) ||| BitVec.ofInt 64 (b : Int)).toNat : Nat) : Int) := rfl
  rw [h, BitVec.toNat_or, bv_nat _ _ ha, bv_nat _ _ hb]
  exact wrap_u64 _ (Nat.or_lt_two_pow ha hb)
theorem bits64_and (a b : Nat) (ha : a < 2 ^ 64) (hb : b < 2 ^ 64) : bits .and .u64 (a : Int) (b : Int) = ((a &&& b : Nat) : Int) := by
  have h : bits .and .u64 (a : Int) (b : Int) = IntKind.u64.wrap (((BitVec.ofInt 64 (a : Int) &&& BitVec.ofInt 64 (b : Int)).toNat : Nat) : Int) := rfl
  rw [h, BitVec.toNat_and, bv_nat _ _ ha, bv_nat _ _ hb]
  exact wrap_u64 _ (Nat.and_lt_two_pow _ hb)
theorem bits64_xor (a b : Nat) (ha : a < 2 ^ 64) (hb : b < 2 ^ 64) : bits .xor .u64 (a : Int) (b : Int) = ((a ^^^ b : Nat) : Int) := by
  have h : bits .xor .u64 (a : Int) (b : Int) = IntKind.u64.wrap (((BitVec.ofInt 64 (a : Int) ^^^ BitVec.ofInt 64 (b : Int)).toNat : Nat) : Int) := rfl
  rw [h, BitVec.toNat_xor, bv_nat _ _ ha, bv_nat _ _ hb]
  exact wrap_u64 _ (Nat.xor_lt_two_pow ha hb)
theorem or_byte (a b : Nat) (hb : b < 256) : a * 256 ||| b = a * 256 + b := by
  have := Nat.shiftLeft_add_eq_or_of_lt (i := 8) (b := b) (by simpa using hb) a
  rw [Nat.shiftLeft_eq] at this
  exact this.symm

theorem byte_beq (a b : UInt8) : ((a.toNat : Int) == (b.toNat : Int)) = (a == b) := by
  rw [Bool.eq_iff_iff]
  simp only [beq_iff_eq, Int.natCast_inj]
  exact ⟨fun h => UInt8.toNat_inj.mp h, fun h => by rw [h]⟩
theorem byte_beq0 (a : UInt8) : ((a.toNat : Int) == 0) = (a == 0) := byte_beq a 0

theorem ret_bool {a b : Bool} (h : a = b) : Ending.returned (.bool a) = .returned (.bool b) := by rw [h]
theorem ret_int {k : IntKind} {a b : Int} (h : a = b) : Ending.returned (.int k a) = .returned (.int k b) := by rw [h]
theorem val_int {k : IntKind} {a b : Int} (h : a = b) : Value.int k a = Value.int k b := by rw [h]
theorem ret_two {a b c d : Value} (h : a = b) (h' : c = d) : Ending.returned (.tuple #[a, c]) = .returned (.tuple #[b, d]) := by rw [h, h']
theorem ret_three {a b c d e f : Value} (h : a = b) (h' : c = d) (h'' : e = f) : Ending.returned (.tuple #[a, c, e]) = .returned (.tuple #[b, d, f]) := by rw [h, h', h'']
theorem ret_str {a b : ByteArray} (h : a = b) : Ending.returned (.string a) = .returned (.string b) := by rw [h]

theorem take_snoc {α : Type} (l : List α) (k : Nat) (h : k < l.length) : l.take (k + 1) = l.take k ++ [l[k]] := List.take_succ_eq_append_getElem h

theorem str_size (l : List UInt8) : (⟨l.toArray⟩ : ByteArray).size = l.length := by simp [ByteArray.size]

/-- string(b), of any slice of bytes. -/
theorem run_str {P : Program} {w : World} {B : Nat} {A : Option Addr} {l : List UInt8} {n : Nat} (src dst e : TypeId) (hs : P.underlying src = some (.slice e)) (he : P.underlying e = some (.int .u8))
    (hd : P.underlying dst = some .string) (hn : l.length = n) (cap : Nat) (h : Rd w B A (vb l)) :
    (convert src dst (.slice A n cap)).run P w = .ok (.string ⟨l.toArray⟩) w := by
  subst hn
  cases A with
  | none =>
    have hl : l = [] := by
      cases l with
      | nil => rfl
      | cons x l =>
        obtain ⟨ad, hA, _⟩ := h (by simp)
        cases hA
    subst hl
    exact run_convert_bytes_nil w src e hs he 0 cap dst hd
  | some ad =>
    have hmap : vb l = (l.map fun b => (b.toNat : Int)).map (Value.int .u8) := by simp [vb]
    have hl : (loadCells ad l.length).run P w = .ok ((l.map fun b => (b.toNat : Int)).map (Value.int .u8)).toArray w := by
      have := run_loadCells_list (P := P) w ad (vb l) (fun j v hj => by
        have hlen : 0 < (vb l).length := by
          rcases Nat.eq_zero_or_pos (vb l).length with h0 | h0
          · rw [List.length_eq_zero_iff.mp h0] at hj; simp at hj
          · exact h0
        obtain ⟨ad', hA, _, hc⟩ := h hlen
        cases hA
        exact hc j v hj)
      rw [hmap] at this
      simpa using this
    rw [run_convert_bytes_string w src dst e _ l.length cap hs he hd, run_bytesToString w _ l.length cap _ hl, foldl_push_bytes]
    have : (l.map fun b => (b.toNat : Int)).map (fun n => UInt8.ofNat n.toNat) = l := by
      rw [List.map_map]
      conv => rhs; rw [← List.map_id l]
      apply List.map_congr_left
      intro b _
      simp
    rw [this]
    congr 2
    apply ByteArray.ext
    simp [ByteArray.empty, ByteArray.emptyWithCapacity]
    rfl

theorem add_zero (a : Addr) : a.add 0 = a := by simp [Addr.add]
/-- 's[:n]'. -/
theorem run_head {P : Program} (t e : TypeId) (i : TypeInfo) (ht : P.underlying t = some (.slice e)) (hi : P.info? e = some i) (A : Option Addr) (len cap n : Nat) (hn : n ≤ cap) (w : World) :
    (Instr.slice t (.slice A len cap) none (some (.int .i64 (n : Int))) none).run P w = .ok (.slice A n cap) w := by
  simp [Instr.slice, run_underlying ht, Instr.sliceBounds, Instr.sliceBound, asIntOf, sizeOf, typeInfo, hi, add_zero]
  omega
/-- The beginning of what can be read. -/
theorem Rd.take {w : World} {B : Nat} {A : Option Addr} {xs : List Value} (h : Rd w B A xs) (n : Nat) : Rd w B A (xs.take n) := fun h0 => by
  obtain ⟨ad, rfl, hb, hc⟩ := h (by simp at h0; omega)
  refine ⟨ad, rfl, hb, fun j u hu => hc j u ?_⟩
  rw [List.getElem?_take] at hu
  split at hu
  · exact hu
  · cases hu
end Go.Proofs.Ytpepbffhhfgdpaa
namespace Go.Proofs.Ytpepbffhhfgdpaa
open Go Go.RowKit
set_option linter.unusedVariables false
set_option linter.unusedSimpArgs false

/-- A device. -/
structure Dev where
  now : List (List UInt8)
  firm : List (List UInt8)
  waits : List (Nat × List UInt8)
  steps : Nat
  fail : Nat
  cut : Int
  down : Bool
/-- n blocks of noughts. -/
def zeroB : List UInt8 := List.replicate 256 0
theorem zeroB_len : zeroB.length = 256 := List.length_replicate
def Dev.new (n : Nat) : Dev := ⟨List.replicate n zeroB, List.replicate n zeroB, [], 0, 0, -1, false⟩
/-- A step: its error, and what is then. -/
def Dev.stepE (D : Dev) : Nat := if D.cut = 0 ∨ D.down = true then 81 else if D.fail = 1 then 80 else 0
def Dev.step (D : Dev) : Dev :=
  if D.cut = 0 ∨ D.down = true then { D with down := true }
  else { D with cut := if 0 < D.cut then D.cut - 1 else D.cut, steps := (D.steps + 1) % 18446744073709551616, fail := D.fail - 1 }
/-- Is there such a block, of n? -/
def hasB (n : Nat) (i : Int) : Bool := decide (0 ≤ i) && decide (i < (n : Int))
def Dev.put (D : Dev) (i : Nat) (l : List UInt8) : Dev := { D with now := D.now.set i l, waits := D.waits ++ [(i, l)] }
def Dev.writeE (D : Dev) (n : Nat) (i : Int) (l : List UInt8) : Nat := if hasB n i = true ∧ l.length = 256 then D.stepE else 2
def Dev.write (D : Dev) (n : Nat) (i : Int) (l : List UInt8) : Dev :=
  if hasB n i = true ∧ l.length = 256 then (if D.stepE = 0 then D.step.put i.toNat l else D.step) else D
def Dev.sync (D : Dev) : Dev := if D.stepE = 0 then { D.step with firm := D.step.now, waits := [] } else D.step
/-- A block that comes through by its sectors. -/
def crL8 (m : Nat) (old new : List UInt8) : List UInt8 := (List.range 256).map fun k => if m / 2 ^ (k / 64) % 2 = 1 then new.getD k 0 else old.getD k 0
def crF : List (Nat × List UInt8) → List Nat → List (List UInt8) → List (List UInt8)
  | (i, l) :: ws, m :: ms, F => crF ws ms (F.set i (crL8 m (F.getD i []) l))
  | _, _, F => F
def Dev.crash (D : Dev) (ms : List Nat) : Dev := { now := crF D.waits ms D.firm, firm := crF D.waits ms D.firm, waits := [], steps := D.steps, fail := 0, cut := -1, down := false }
/-- Bytes laid over others. -/
def over8 (old : List UInt8) (at_ : Nat) (b : List UInt8) : List UInt8 := (List.range old.length).map fun k => if at_ ≤ k ∧ k < at_ + b.length then b.getD (k - at_) 0 else old.getD k 0
def forB (n : Nat) (i at_ : Int) (len : Nat) : Bool := hasB n i && decide (0 ≤ at_) && decide (at_ + (len : Int) ≤ 256)
def Dev.foreign (D : Dev) (n : Nat) (i at_ : Int) (b : List UInt8) : Dev :=
  if forB n i at_ b.length = true then { D with now := D.now.set i.toNat (over8 (D.now.getD i.toNat []) at_.toNat b), firm := D.firm.set i.toNat (over8 (D.firm.getD i.toNat []) at_.toNat b) } else D
def Dev.setFail (D : Dev) (i : Int) : Dev := { D with fail := i.toNat }
def Dev.setCut (D : Dev) (i : Int) : Dev := { D with cut := max i (-1) }

/-- What every device keeps. -/
structure Dev.Ok (D : Dev) (n : Nat) : Prop where
  nl : D.now.length = n
  fl : D.firm.length = n
  nr : ∀ i, i < n → (D.now.getD i []).length = 256
  fr : ∀ i, i < n → (D.firm.getD i []).length = 256
  wl : ∀ k, k < D.waits.length → (D.waits.getD k (0, [])).1 < n ∧ (D.waits.getD k (0, [])).2.length = 256
  fs : D.fail ≤ 9223372036854775807
  cs : -1 ≤ D.cut ∧ D.cut ≤ 9223372036854775807
  ss : D.steps < 18446744073709551616

theorem getD_set {α : Type} (l : List α) (i j : Nat) (x d : α) : (l.set i x).getD j d = if j = i ∧ i < l.length then x else l.getD j d := by
  simp only [List.getD_eq_getElem?_getD, List.getElem?_set]
  by_cases h : i = j
  · subst h
    by_cases hl : i < l.length
    · simp [hl]
    · simp [hl, List.getElem?_eq_none (Nat.le_of_not_lt hl)]
  · rw [if_neg h, if_neg (fun e => h e.1.symm)]
theorem getD_rep {α : Type} (n j : Nat) (x d : α) (h : j < n) : (List.replicate n x).getD j d = x := by
  simp [List.getD_eq_getElem?_getD, List.getElem?_replicate, h]
theorem getD_app {α : Type} (l : List α) (x d : α) (j : Nat) : (l ++ [x]).getD j d = if j = l.length then x else l.getD j d := by
  simp only [List.getD_eq_getElem?_getD]
  by_cases h : j < l.length
  · rw [List.getElem?_append_left h, if_neg (by omega)]
  · by_cases h2 : j = l.length
    · subst h2; simp
    · rw [if_neg h2, List.getElem?_eq_none (by simp; omega), List.getElem?_eq_none (by omega)]
theorem Dev.new_ok (n : Nat) : (Dev.new n).Ok n := by
  refine ⟨List.length_replicate, List.length_replicate, ?_, ?_, ?_, Nat.zero_le _, ⟨Int.le_refl _, by show (-1 : Int) ≤ _; decide⟩, by show 0 < 18446744073709551616; decide⟩
  · intro i hi; show ((List.replicate n zeroB).getD i []).length = 256; rw [getD_rep _ _ _ _ hi, zeroB_len]
  · intro i hi; show ((List.replicate n zeroB).getD i []).length = 256; rw [getD_rep _ _ _ _ hi, zeroB_len]
  · intro k hk; exact absurd hk (Nat.not_lt_zero _)
theorem Dev.Ok.step {D : Dev} {n : Nat} (h : D.Ok n) : D.step.Ok n := by
  obtain ⟨a, b, c, d, e, f, g, s⟩ := h
  unfold Dev.step
  split
  · exact ⟨a, b, c, d, e, f, g, s⟩
  · refine ⟨a, b, c, d, e, by show D.fail - 1 ≤ _; omega, ?_, by show _ % _ < _; omega⟩
    show -1 ≤ (if 0 < D.cut then D.cut - 1 else D.cut) ∧ (if 0 < D.cut then D.cut - 1 else D.cut) ≤ _
    split <;> omega
theorem Dev.Ok.put {D : Dev} {n : Nat} (h : D.Ok n) {i : Nat} (hi : i < n) {l : List UInt8} (hl : l.length = 256) : (D.put i l).Ok n := by
  obtain ⟨a, b, c, d, e, f, g, s⟩ := h
  refine ⟨by simp [Dev.put, a], b, ?_, d, ?_, f, g, s⟩
  · intro j hj
    show ((D.now.set i l).getD j []).length = 256
    rw [getD_set]
    split
    · exact hl
    · exact c j hj
  · intro k hk
    have hk2 : k < D.waits.length + 1 := by simpa [Dev.put] using hk
    show ((D.waits ++ [(i, l)]).getD k (0, [])).1 < n ∧ ((D.waits ++ [(i, l)]).getD k (0, [])).2.length = 256
    rw [getD_app]
    split
    · exact ⟨hi, hl⟩
    · exact e k (by omega)
theorem hasB_iff (n : Nat) (i : Int) : hasB n i = true ↔ 0 ≤ i ∧ i < (n : Int) := by simp [hasB]
theorem Dev.Ok.write {D : Dev} {n : Nat} (h : D.Ok n) (i : Int) (l : List UInt8) : (D.write n i l).Ok n := by
  unfold Dev.write
  split
  · rename_i hi
    have := (hasB_iff n i).1 hi.1
    split
    · exact h.step.put (by omega) hi.2
    · exact h.step
  · exact h
theorem Dev.Ok.sync {D : Dev} {n : Nat} (h : D.Ok n) : D.sync.Ok n := by
  unfold Dev.sync
  split
  · obtain ⟨a, b, c, d, e, f, g, s⟩ := h.step
    exact ⟨a, a, c, c, fun k hk => absurd hk (Nat.not_lt_zero _), f, g, s⟩
  · exact h.step
theorem crL8_len (m : Nat) (old new : List UInt8) : (crL8 m old new).length = 256 := by simp [crL8]
theorem crF_len : ∀ (ws : List (Nat × List UInt8)) (ms : List Nat) (F : List (List UInt8)), (crF ws ms F).length = F.length
  | [], _, _ => rfl
  | (_, _) :: _, [], _ => rfl
  | (i, l) :: ws, m :: ms, F => by rw [crF, crF_len ws ms, List.length_set]
theorem crF_row : ∀ (ws : List (Nat × List UInt8)) (ms : List Nat) (F : List (List UInt8)) (n : Nat), (∀ i, i < n → (F.getD i []).length = 256) → ∀ i, i < n → ((crF ws ms F).getD i []).length = 256
  | [], _, _, _, h => h
  | (_, _) :: _, [], _, _, h => h
  | (i, l) :: ws, m :: ms, F, n, h => by
    rw [crF]
    refine crF_row ws ms _ n fun j hj => ?_
    rw [getD_set]
    split
    · exact crL8_len _ _ _
    · exact h j hj
theorem Dev.Ok.crash {D : Dev} {n : Nat} (h : D.Ok n) (ms : List Nat) : (D.crash ms).Ok n := by
  obtain ⟨a, b, c, d, e, f, g, s⟩ := h
  exact ⟨by show (crF _ _ _).length = n; rw [crF_len, b], by show (crF _ _ _).length = n; rw [crF_len, b], crF_row _ _ _ n d, crF_row _ _ _ n d, fun k hk => absurd hk (Nat.not_lt_zero _), Nat.zero_le _, ⟨Int.le_refl _, by show (-1 : Int) ≤ _; decide⟩, s⟩
theorem over8_len (old : List UInt8) (a : Nat) (b : List UInt8) : (over8 old a b).length = old.length := by simp [over8]
theorem Dev.Ok.foreign {D : Dev} {n : Nat} (h : D.Ok n) (i at_ : Int) (b : List UInt8) : (D.foreign n i at_ b).Ok n := by
  unfold Dev.foreign
  split
  · obtain ⟨a, b', c, d, e, f, g, s⟩ := h
    refine ⟨by simp [a], by simp [b'], ?_, ?_, e, f, g, s⟩
    · intro j hj
      show ((D.now.set _ _).getD j []).length = 256
      rw [getD_set]
      split
      · rename_i hh; rw [over8_len, ← hh.1]; exact c j hj
      · exact c j hj
    · intro j hj
      show ((D.firm.set _ _).getD j []).length = 256
      rw [getD_set]
      split
      · rename_i hh; rw [over8_len, ← hh.1]; exact d j hj
      · exact d j hj
  · exact h
theorem Dev.Ok.setFail {D : Dev} {n : Nat} (h : D.Ok n) {i : Int} (hi : i ≤ 9223372036854775807) : (D.setFail i).Ok n := by
  obtain ⟨a, b, c, d, e, f, g, s⟩ := h
  exact ⟨a, b, c, d, e, by show i.toNat ≤ _; omega, g, s⟩
theorem Dev.Ok.setCut {D : Dev} {n : Nat} (h : D.Ok n) {i : Int} (hi : i ≤ 9223372036854775807) : (D.setCut i).Ok n := by
  obtain ⟨a, b, c, d, e, f, g, s⟩ := h
  exact ⟨a, b, c, d, e, f, by show -1 ≤ max i (-1) ∧ max i (-1) ≤ _; omega, s⟩

/-- What a call may change: the blocks L of those that there are. -/
structure Keep (L : Nat → Prop) (w w' : World) : Prop where
  os : w'.os = w.os
  tape : w'.tape = w.tape
  output : w'.output = w.output
  size : w.heap.size ≤ w'.heap.size
  block : ∀ k, k < w.heap.size → ¬ L k → w'.heap[k]? = w.heap[k]?
theorem Keep.refl (L : Nat → Prop) (w : World) : Keep L w w := ⟨rfl, rfl, rfl, Nat.le_refl _, fun _ _ _ => rfl⟩
theorem Keep.of {L : Nat → Prop} {w w' : World} (h : Below w.heap.size w w') : Keep L w w' := ⟨h.os, h.tape, h.output, h.size, fun k hk _ => h.block k hk⟩
theorem Keep.mono {L M : Nat → Prop} {w w' : World} (h : Keep L w w') (hs : ∀ b, b < w.heap.size → L b → M b) : Keep M w w' := ⟨h.os, h.tape, h.output, h.size, fun k hk hn => h.block k hk fun hl => hn (hs k hk hl)⟩
/-- Of blocks L what is new since w belongs to them, too. -/
def ext (L : Nat → Prop) (w w' : World) (b : Nat) : Prop := L b ∨ (w.heap.size ≤ b ∧ b < w'.heap.size)
theorem Keep.trans {L M : Nat → Prop} {a b c : World} (h : Keep L a b) (k : Keep M b c) (hs : ∀ x, x < a.heap.size → M x → L x) : Keep L a c :=
  ⟨k.os.trans h.os, k.tape.trans h.tape, k.output.trans h.output, Nat.le_trans h.size k.size, fun x hx hn => (k.block x (Nat.lt_of_lt_of_le hx h.size) fun hm => hn (hs x hx hm)).trans (h.block x hx hn)⟩
theorem Keep.ext {L : Nat → Prop} {a b c : World} (h : Keep L a b) (k : Keep (ext L a b) b c) : Keep L a c := h.trans k fun x hx hm => hm.elim id fun h => by omega
theorem Keep.call {L : Nat → Prop} {a b c : World} (h : Keep L a b) (k : Below b.heap.size b c) : Keep L a c := h.trans (Keep.of (L := L) k) fun _ _ h => h
theorem Keep.setCell {L : Nat → Prop} {w w' : World} (h : Keep L w w') {a : Addr} (ha : a.block < w.heap.size → L a.block) (v : Value) : Keep L w (w'.setCell a v) :=
  ⟨h.os, h.tape, h.output, by rw [World.size_setCell]; exact h.size, fun k hk hn => (heap_setCell_other _ _ _ _ (fun e => hn (by rw [e]; exact ha (by omega)))).trans (h.block k hk hn)⟩
theorem Keep.grown {L : Nat → Prop} {w w' w2 : World} {row : Option Nat} (h : Keep L w w') (hg : w'.grownBy w2 row) (hr : ∀ k, row = some k → k < w.heap.size → L k) : Keep L w w2 :=
  ⟨hg.os.trans h.os, hg.tape.trans h.tape, hg.output.trans h.output, Nat.le_trans h.size hg.size, fun k hk hn => (hg.block k (Nat.lt_of_lt_of_le hk h.size) fun e => hn (hr k e.symm hk)).trans (h.block k hk hn)⟩
theorem Keep.drewN {L : Nat → Prop} {w w' : World} (h : Keep L w w') (n : Nat) : Keep L w (w'.drewN n) := ⟨h.os, h.tape, h.output, h.size, h.block⟩
theorem Keep.drew {L : Nat → Prop} {w w' : World} (h : Keep L w w') : Keep L w w'.drew := ⟨h.os, h.tape, h.output, h.size, h.block⟩
theorem Keep.alloc {L : Nat → Prop} {w w' : World} (h : Keep L w w') (o : Obj) : Keep L w (w'.alloc o) := h.call ((Below.refl _ _).alloc (Nat.le_refl _) o)
theorem Keep.below {L : Nat → Prop} {B : Nat} {w w' : World} (h : Keep L w w') (hL : ∀ b, L b → B ≤ b) (hB : B ≤ w.heap.size) : Below B w w' :=
  ⟨h.os, h.tape, h.output, h.size, fun k hk => h.block k (by omega) fun hl => by have := hL k hl; omega⟩
end Go.Proofs.Ytpepbffhhfgdpaa
namespace Go.Proofs.Ytpepbffhhfgdpaa
open Go Go.RowKit
set_option linter.unusedVariables false
set_option linter.unusedSimpArgs false

theorem info_b : (Try.prog.info? 5).map (fun i => (i.zero, i.size, i.bytes)) = some (some (.int .u8 0), 1, 1) := by kernel_rfl
theorem vb_onec (l : List UInt8) : ∀ v ∈ vb l, v.oneCell' = true := by
  intro v hv
  simp only [vb, List.mem_map] at hv
  obtain ⟨b, _, rfl⟩ := hv
  rfl

set_option maxRecDepth 100000 in
set_option maxHeartbeats 400000 in
theorem copyx_any (A : Option Addr) (cs : List Value) (n cap : Nat) (hlen : cs.length = n) (hone : ∀ v ∈ cs, v.oneCell' = true) (w : World) (hl : n ≤ 140737488351232) (h : Rd w w.heap.size A cs) :
    Calls Try.prog 10 #[.slice A n cap] w fun e w' => e = .returned (.slice (some ⟨w.heap.size, 0, none⟩) n (n + 3)) ∧ w'.ownsRow w.heap.size 5 1 (.slice (some ⟨w.heap.size, 0, none⟩) n (n + 3)) n cs ∧ Below w.heap.size w w' := by
  obtain ⟨i0, hi, hz0, hz1, hz2⟩ := info_parts info_b
  have hsz : (Try.prog.info? 5).map (·.size) = some 1 := by rw [hi]; simp [hz1]
  have HL := Lib.hid hlen
  have HONE := Lib.hid hone
  clear hlen hone
  go_enter Try.func10, Try.ntmps10
  go_wp2_with (first
    | (at_make; refine wpList_make_blk _ rfl _ _ 31 rfl 5 i0 (.int .u8 0) Try.underlying31 hi hz0 hz1 rfl .i64 .i64 _ _ n (n + 3) rfl rfl rfl (by omega) (by omega) (by rw [hz2]; omega) (by unfold maxLen; omega) ?_; intro w0 hblk0 hb0 hsize0)
    | ((with_reducible show wpList _ _ _ _ _ _); refine wpList_copy_splice (o := ⟨some 12, _, _, _, _, _⟩) rfl (.tmp 10) (.tmp 11) 31 31 rfl 5 Try.underlying31 hsz (some ⟨w.heap.size, 0, none⟩) A n (n + 3) n cap rfl rfl w.heap.size 0 (List.replicate (n + 3) (.int .u8 0)) 5 hblk0.out cs (by have := HL.out; simp [this]) ?_ (by have := HL.out; simp; omega) HONE.out w.heap.size w hb0 (Nat.le_refl _) ?_))
  · intro h0
    obtain ⟨ad, rfl, hb, hc⟩ := h h0
    exact ⟨ad, rfl, fun j v hv => (hb0.cell (by rw [add_block]; exact hb)).trans (hc j v hv)⟩
  · intro w1 hblk1 hb1
    go_wp2
    go_ret
    refine ⟨rfl, ?_, hb1⟩
    have := own_of_blk (n := n) (cap := n + 3) hblk1.out (Nat.le_refl _) (by omega) (by unfold maxLen; omega) (by have := HL.out; simp [splice]; omega)
    have hsp : (List.take n (splice (List.replicate (n + 3) (Value.int .u8 0)) 0 cs)) = cs := by
      simp only [splice, List.take_zero, List.nil_append]
      rw [List.take_append_of_le_length (by have := HL.out; omega), List.take_of_length_le (by have := HL.out; omega)]
    simp only [hsp] at this
    exact this
theorem copyv_any (A : Option Addr) (cs : List Value) (n cap : Nat) (hlen : cs.length = n) (hone : ∀ v ∈ cs, v.oneCell' = true) (w : World) (hl : n ≤ 140737488351232) (h : Rd w w.heap.size A cs) :
    Calls Try.prog 10 #[.slice A n cap] w fun e w' => ∃ v, e = .returned v ∧ w'.ownsRow w.heap.size 5 1 v n cs ∧ Below w.heap.size w w' :=
  (copyx_any A cs n cap hlen hone w hl h).mono fun e w' ⟨he, ho, hb⟩ => ⟨_, he, ho, hb⟩

set_option maxRecDepth 100000 in
/-- 'string(a) == string(b)'. -/
theorem rsamev_any (A B : Option Addr) (a b : List UInt8) (n m ca cb : Nat) (hn : a.length = n) (hm : b.length = m) (w : World) {BA BB : Nat} (h : Rd w BA A (vb a)) (h' : Rd w BB B (vb b)) :
    Calls Try.prog 20 #[.slice A n ca, .slice B m cb] w fun e w' => e = .returned (.bool (a == b)) ∧ w' = w := by
  have ra := run_str (P := Try.prog) 31 9 5 Try.underlying31 Try.underlying5 Try.underlying9 hn ca h
  have rb := run_str (P := Try.prog) 31 9 5 Try.underlying31 Try.underlying5 Try.underlying9 hm cb h'
  clear hn hm
  go_enter Try.func20, Try.ntmps20
  go_wp2
  go_ret
  exact ⟨rfl, rfl⟩
end Go.Proofs.Ytpepbffhhfgdpaa
namespace Go.Proofs.Ytpepbffhhfgdpaa

theorem zq1 : type_of% @List.getElem_toArray := @List.getElem_toArray
theorem zq2 : type_of% @List.getElem_cons_zero := @List.getElem_cons_zero
theorem zq3 : type_of% @List.getElem_cons_succ := @List.getElem_cons_succ
theorem zq4 : type_of% @List.setIfInBounds_toArray := @List.setIfInBounds_toArray
theorem zq5 : type_of% @List.set_cons_zero := @List.set_cons_zero
theorem zq6 : type_of% @List.set_cons_succ := @List.set_cons_succ
end Go.Proofs.Ytpepbffhhfgdpaa
namespace Go.Proofs.Ytpepbffhhfgdpaa
open Go Go.RowKit
set_option linter.unusedVariables false
set_option linter.unusedSimpArgs false

/-- A block's bytes in memory: at the head of a row. -/
def Row (w : World) (b : Nat) (l : List UInt8) : Prop := ∃ cur : Array Value, w.heap[b]? = some (.cells cur 5 (0, 0)) ∧ ∀ (j : Nat) (x : UInt8), l[j]? = some x → cur[j]? = some (Value.int .u8 (x.toNat : Int))
section
variable {w w' : World} {b : Nat} {l : List UInt8}
theorem Row.lt (h : Row w b l) : b < w.heap.size := by obtain ⟨cur, h1, _⟩ := h; exact (Array.getElem?_eq_some_iff.1 h1).1
theorem Row.keep (h : Row w b l) (hk : w'.heap[b]? = w.heap[b]?) : Row w' b l := by obtain ⟨cur, h1, h2⟩ := h; exact ⟨cur, hk.trans h1, h2⟩
theorem Row.cellAt (h : Row w b l) (k : Nat) (hk : k < l.length) : w.cell? ⟨b, k, none⟩ = some (.int .u8 ((l.getD k 0).toNat : Int)) := by
  obtain ⟨cur, h1, h2⟩ := h
  rw [cell_of_row _ _ _ _ _ _ h1]
  exact h2 k _ (by rw [List.getD_eq_getElem?_getD, List.getElem?_eq_getElem hk]; rfl)
theorem Row.free (h : Row w b l) (k : Nat) : w.frozen? ⟨b, k, none⟩ = false := by obtain ⟨cur, h1, _⟩ := h; exact frozen_of_row _ _ _ _ _ h1
theorem Row.rd (h : Row w b l) : Rd w w.heap.size (some ⟨b, 0, none⟩) (vb l) := fun _ => by
  have hlt := h.lt
  obtain ⟨cur, h1, h2⟩ := h
  refine ⟨_, rfl, hlt, fun j u hj => ?_⟩
  rw [head_add, cell_of_row _ _ _ _ _ _ h1]
  rw [List.getElem?_map] at hj
  cases hl : l[j]? with
  | none => rw [hl] at hj; cases hj
  | some x => rw [hl] at hj; cases hj; exact h2 j x hl
theorem Row.set (h : Row w b l) (k : Nat) (hk : k < l.length) (x : UInt8) : Row (w.setCell ⟨b, k, none⟩ (.int .u8 (x.toNat : Int))) b (l.set k x) := by
  obtain ⟨cur, h1, h2⟩ := h
  have hc : k < cur.size := by have := h2 k l[k] (List.getElem?_eq_getElem hk); exact (Array.getElem?_eq_some_iff.1 this).1
  refine ⟨_, heap_setCell_same _ _ _ _ _ _ h1, fun j y hj => ?_⟩
  rw [Array.getElem?_setIfInBounds]
  rw [List.getElem?_set] at hj
  by_cases e : k = j
  · subst e
    rw [if_pos rfl, if_pos hk] at hj
    rw [if_pos rfl, if_pos hc]
    cases hj; rfl
  · rw [if_neg e] at hj
    rw [if_neg e]
    exact h2 j y hj
theorem Row.of_own {base n c : Nat} {A : Option Addr} (h : w.ownsRow base 5 1 (.slice A n c) n (vb l)) (hn : 0 < n) : ∃ b, A = some ⟨b, 0, none⟩ ∧ base ≤ b ∧ Row w b l := by
  obtain ⟨_, hv⟩ := h
  rcases hv with ⟨_, h0⟩ | ⟨g, cap, cur, e, hg, hh, _, _, _, ht⟩
  · omega
  · injection e with e1 _ _
    refine ⟨g, e1, hg, cur, hh, fun j x hj => ?_⟩
    have h1 : (vb l)[j]? = some (.int .u8 (x.toNat : Int)) := by rw [List.getElem?_map, hj]; rfl
    rw [← ht, List.getElem?_take] at h1
    split at h1
    · rw [← Array.getElem?_toList]; exact h1
    · cases h1
end
/-- Slices of blocks, side by side. -/
def Sl (w : World) (b n : Nat) (g cg : Nat → Nat) : Prop := ∃ cur : Array Value, w.heap[b]? = some (.cells cur 31 (0, 0)) ∧ ∀ i, i < n → cur[i]? = some (Value.slice (some ⟨g i, 0, none⟩) 256 (cg i))
def upd (f : Nat → Nat) (i x : Nat) : Nat → Nat := fun j => if j = i then x else f j
section
variable {w w' : World} {b n : Nat} {g cg : Nat → Nat}
theorem Sl.keep (h : Sl w b n g cg) (hk : w'.heap[b]? = w.heap[b]?) : Sl w' b n g cg := by obtain ⟨cur, h1, h2⟩ := h; exact ⟨cur, hk.trans h1, h2⟩
theorem Sl.cellAt (h : Sl w b n g cg) (i : Nat) (hi : i < n) : w.cell? ⟨b, i, none⟩ = some (.slice (some ⟨g i, 0, none⟩) 256 (cg i)) := by
  obtain ⟨cur, h1, h2⟩ := h
  rw [cell_of_row _ _ _ _ _ _ h1]
  exact h2 i hi
theorem Sl.free (h : Sl w b n g cg) (k : Nat) : w.frozen? ⟨b, k, none⟩ = false := by obtain ⟨cur, h1, _⟩ := h; exact frozen_of_row _ _ _ _ _ h1
theorem Sl.set (h : Sl w b n g cg) (i : Nat) (hi : i < n) (x c : Nat) : Sl (w.setCell ⟨b, i, none⟩ (.slice (some ⟨x, 0, none⟩) 256 c)) b n (upd g i x) (upd cg i c) := by
  obtain ⟨cur, h1, h2⟩ := h
  have hc : i < cur.size := (Array.getElem?_eq_some_iff.1 (h2 i hi)).1
  refine ⟨_, heap_setCell_same _ _ _ _ _ _ h1, fun j hj => ?_⟩
  rw [Array.getElem?_setIfInBounds]
  unfold upd
  by_cases e : i = j
  · subst e; rw [if_pos rfl, if_pos hc, if_pos rfl, if_pos rfl]
  · rw [if_neg e, if_neg (fun h => e h.symm), if_neg (fun h => e h.symm)]; exact h2 j hj
end
/-- Two cells each, side by side. -/
def prs (n : Nat) (a b : Nat → Value) : List Value := (List.range n).flatMap fun k => [a k, b k]
theorem prs_succ (n : Nat) (a b : Nat → Value) : prs (n + 1) a b = prs n a b ++ [a n, b n] := by simp [prs, List.range_succ, List.flatMap_append]
theorem prs_len (n : Nat) (a b : Nat → Value) : (prs n a b).length = n * 2 := by
  induction n with
  | zero => rfl
  | succ n ih => rw [prs_succ, List.length_append, ih]; simp; omega
theorem prs_a (n : Nat) (a b : Nat → Value) (k : Nat) (hk : k < n) : (prs n a b)[k * 2]? = some (a k) := by
  induction n with
  | zero => omega
  | succ n ih =>
    rw [prs_succ]
    by_cases h : k < n
    · rw [List.getElem?_append_left (by rw [prs_len]; omega)]; exact ih h
    · obtain rfl : k = n := by omega
      rw [List.getElem?_append_right (by rw [prs_len]; omega), prs_len, Nat.sub_self]; rfl
theorem prs_b (n : Nat) (a b : Nat → Value) (k : Nat) (hk : k < n) : (prs n a b)[k * 2 + 1]? = some (b k) := by
  induction n with
  | zero => omega
  | succ n ih =>
    rw [prs_succ]
    by_cases h : k < n
    · rw [List.getElem?_append_left (by rw [prs_len]; omega)]; exact ih h
    · obtain rfl : k = n := by omega
      rw [List.getElem?_append_right (by rw [prs_len]; omega), prs_len, Nat.add_sub_cancel_left]; rfl
theorem prs_congr {n : Nat} {a b a' b' : Nat → Value} (ha : ∀ k, k < n → a k = a' k) (hb : ∀ k, k < n → b k = b' k) : prs n a b = prs n a' b' := by
  induction n with
  | zero => rfl
  | succ n ih => rw [prs_succ, prs_succ, ih (fun k hk => ha k (by omega)) (fun k hk => hb k (by omega)), ha n (by omega), hb n (by omega)]
theorem prs_one {n : Nat} {a b : Nat → Value} (ha : ∀ k, (a k).oneCell' = true) (hb : ∀ k, (b k).oneCell' = true) : ∀ u ∈ prs n a b, u.oneCell' = true := by
  intro u hu
  simp only [prs, List.mem_flatMap] at hu
  obtain ⟨k, _, hu⟩ := hu
  rcases List.mem_cons.1 hu with rfl | hu
  · exact ha k
  · rw [List.mem_singleton.1 hu]; exact hb k

/-- Where all of a device lies. K: what each block is. -/
structure Sh where
  bn : Nat
  cn : Nat
  bf : Nat
  cf : Nat
  wv : Value
  g : Nat → Nat
  cg : Nat → Nat
  h : Nat → Nat
  ch : Nat → Nat
  q : Nat → Nat
  cq : Nat → Nat
  K : Nat → Nat
def wA (W : List (Nat × List UInt8)) (k : Nat) : Value := .int .i64 (((W.getD k (0, [])).1 : Nat) : Int)
def wB (q cq : Nat → Nat) (k : Nat) : Value := .slice (some ⟨q k, 0, none⟩) 256 (cq k)
abbrev dCells (S : Sh) (n : Nat) (D : Dev) : Array Value := #[.slice (some ⟨S.bn, 0, none⟩) n S.cn, .slice (some ⟨S.bf, 0, none⟩) n S.cf, S.wv, .int .u64 (D.steps : Int), .int .i64 (D.fail : Int), .int .i64 D.cut, .bool D.down]
structure RDs (S : Sh) (w : World) (p : Nat) (L : Nat → Prop) (n : Nat) (D : Dev) : Prop where
  ok : D.Ok n
  hp : w.heap[p]? = some (.cells (dCells S n D) 58 (0, 0))
  lp : L p ∧ S.K p = 7
  lbn : L S.bn ∧ S.K S.bn = 1
  lbf : L S.bf ∧ S.K S.bf = 2
  lg : ∀ i, i < n → L (S.g i) ∧ S.K (S.g i) = 10 * i + 13
  lh : ∀ i, i < n → L (S.h i) ∧ S.K (S.h i) = 10 * i + 14
  lq : ∀ k, k < D.waits.length → L (S.q k) ∧ S.K (S.q k) = 5
  lw : ∀ b, S.wv.ownBlock = some b → L b ∧ S.K b = 6
  sn : Sl w S.bn n S.g S.cg
  sf : Sl w S.bf n S.h S.ch
  rn : ∀ i, i < n → Row w (S.g i) (D.now.getD i [])
  rf : ∀ i, i < n → Row w (S.h i) (D.firm.getD i [])
  rq : ∀ k, k < D.waits.length → Row w (S.q k) (D.waits.getD k (0, [])).2
  ww : w.ownsRow 0 86 2 S.wv D.waits.length (prs D.waits.length (wA D.waits) (wB S.q S.cq))
  lt : ∀ b, L b → b < w.heap.size
def RD (w : World) (p : Nat) (L : Nat → Prop) (n : Nat) (D : Dev) : Prop := ∃ S, RDs S w p L n D
theorem own_same {w w' : World} {base e sz n : Nat} {v : Value} {xs : List Value} (h : w.ownsRow base e sz v n xs) (hk : ∀ b, v.ownBlock = some b → w'.heap[b]? = w.heap[b]?) : w'.ownsRow base e sz v n xs := by
  obtain ⟨hn, hv⟩ := h
  refine ⟨hn, hv.imp id ?_⟩
  rintro ⟨g, cap, cur, rfl, h1, h2, h3⟩
  exact ⟨g, cap, cur, rfl, h1, (hk g rfl).trans h2, h3⟩
section
variable {S : Sh} {w w' : World} {p n : Nat} {L : Nat → Prop} {D : Dev}
theorem RDs.c0 (h : RDs S w p L n D) : w.cell? ⟨p, 0, none⟩ = some (.slice (some ⟨S.bn, 0, none⟩) n S.cn) := by rw [cell_of_row _ _ _ _ _ _ h.hp]; rfl
theorem RDs.c1 (h : RDs S w p L n D) : w.cell? ⟨p, 1, none⟩ = some (.slice (some ⟨S.bf, 0, none⟩) n S.cf) := by rw [cell_of_row _ _ _ _ _ _ h.hp]; rfl
theorem RDs.c2 (h : RDs S w p L n D) : w.cell? ⟨p, 2, none⟩ = some S.wv := by rw [cell_of_row _ _ _ _ _ _ h.hp]; rfl
theorem RDs.c3 (h : RDs S w p L n D) : w.cell? ⟨p, 3, none⟩ = some (.int .u64 (D.steps : Int)) := by rw [cell_of_row _ _ _ _ _ _ h.hp]; rfl
theorem RDs.c4 (h : RDs S w p L n D) : w.cell? ⟨p, 4, none⟩ = some (.int .i64 (D.fail : Int)) := by rw [cell_of_row _ _ _ _ _ _ h.hp]; rfl
theorem RDs.c5 (h : RDs S w p L n D) : w.cell? ⟨p, 5, none⟩ = some (.int .i64 D.cut) := by rw [cell_of_row _ _ _ _ _ _ h.hp]; rfl
theorem RDs.c6 (h : RDs S w p L n D) : w.cell? ⟨p, 6, none⟩ = some (.bool D.down) := by rw [cell_of_row _ _ _ _ _ _ h.hp]; rfl
theorem RDs.free (h : RDs S w p L n D) (j : Nat) : w.frozen? ⟨p, j, none⟩ = false := frozen_of_row _ _ _ _ _ h.hp
theorem RDs.keep (h : RDs S w p L n D) (hk : ∀ b, L b → w'.heap[b]? = w.heap[b]?) (hs : w.heap.size ≤ w'.heap.size) : RDs S w' p L n D :=
  ⟨h.ok, (hk _ h.lp.1).trans h.hp, h.lp, h.lbn, h.lbf, h.lg, h.lh, h.lq, h.lw, h.sn.keep (hk _ h.lbn.1), h.sf.keep (hk _ h.lbf.1), fun i hi => (h.rn i hi).keep (hk _ (h.lg i hi).1), fun i hi => (h.rf i hi).keep (hk _ (h.lh i hi).1),
    fun k hk' => (h.rq k hk').keep (hk _ (h.lq k hk').1), own_same h.ww fun b hb => hk b (h.lw b hb).1, fun b hb => Nat.lt_of_lt_of_le (h.lt b hb) hs⟩
theorem RDs.call (h : RDs S w p L n D) (hb : Below w.heap.size w w') : RDs S w' p L n D := h.keep (fun b hL => hb.block b (h.lt b hL)) hb.size
theorem RDs.more {M : Nat → Prop} (h : RDs S w p L n D) (hM : ∀ b, L b → M b) (hlt : ∀ b, M b → b < w.heap.size) : RDs S w p M n D :=
  ⟨h.ok, h.hp, ⟨hM _ h.lp.1, h.lp.2⟩, ⟨hM _ h.lbn.1, h.lbn.2⟩, ⟨hM _ h.lbf.1, h.lbf.2⟩, fun i hi => ⟨hM _ (h.lg i hi).1, (h.lg i hi).2⟩, fun i hi => ⟨hM _ (h.lh i hi).1, (h.lh i hi).2⟩, fun i hi => ⟨hM _ (h.lq i hi).1, (h.lq i hi).2⟩, fun i hi => ⟨hM _ (h.lw i hi).1, (h.lw i hi).2⟩,
    h.sn, h.sf, h.rn, h.rf, h.rq, h.ww, hlt⟩
/-- Only the struct's own cells are others. -/
theorem RDs.setp {D' : Dev} (h : RDs S w p L n D) (e1 : D'.now = D.now) (e2 : D'.firm = D.firm) (e3 : D'.waits = D.waits) (ok : D'.Ok n) (hp : w'.heap[p]? = some (.cells (dCells S n D') 58 (0, 0)))
    (hk : ∀ b, b ≠ p → w'.heap[b]? = w.heap[b]?) (hs : w.heap.size ≤ w'.heap.size) : RDs S w' p L n D' := by
  have ne : ∀ b, S.K b ≠ 7 → b ≠ p := fun b hb e => hb (by rw [e]; exact h.lp.2)
  refine ⟨ok, hp, h.lp, h.lbn, h.lbf, h.lg, h.lh, by rw [e3]; exact h.lq, h.lw, h.sn.keep (hk _ (ne _ (by rw [h.lbn.2]; decide))), h.sf.keep (hk _ (ne _ (by rw [h.lbf.2]; decide))), ?_, ?_, ?_, ?_, fun b hb => Nat.lt_of_lt_of_le (h.lt b hb) hs⟩
  · intro i hi; rw [e1]; exact (h.rn i hi).keep (hk _ (ne _ (by rw [(h.lg i hi).2]; omega)))
  · intro i hi; rw [e2]; exact (h.rf i hi).keep (hk _ (ne _ (by rw [(h.lh i hi).2]; omega)))
  · intro k hk'; rw [e3] at hk' ⊢; exact (h.rq k hk').keep (hk _ (ne _ (by rw [(h.lq k hk').2]; decide)))
  · rw [e3]; exact own_same h.ww fun b hb => hk _ (ne _ (by rw [(h.lw b hb).2]; decide))
theorem RDs.setSteps (h : RDs S w p L n D) (x : Nat) (hx : x < 18446744073709551616) : RDs S (w.setCell ⟨p, 3, none⟩ (.int .u64 (x : Int))) p L n { D with steps := x } :=
  h.setp rfl rfl rfl ⟨h.ok.nl, h.ok.fl, h.ok.nr, h.ok.fr, h.ok.wl, h.ok.fs, h.ok.cs, hx⟩ (heap_setCell_same _ _ _ _ _ _ h.hp) (fun b hb => heap_setCell_other _ _ _ _ hb) (by simp)
theorem RDs.setFail (h : RDs S w p L n D) (x : Nat) (hx : x ≤ 9223372036854775807) : RDs S (w.setCell ⟨p, 4, none⟩ (.int .i64 (x : Int))) p L n { D with fail := x } :=
  h.setp rfl rfl rfl ⟨h.ok.nl, h.ok.fl, h.ok.nr, h.ok.fr, h.ok.wl, hx, h.ok.cs, h.ok.ss⟩ (heap_setCell_same _ _ _ _ _ _ h.hp) (fun b hb => heap_setCell_other _ _ _ _ hb) (by simp)
theorem RDs.setCut (h : RDs S w p L n D) (x : Int) (hx : -1 ≤ x ∧ x ≤ 9223372036854775807) : RDs S (w.setCell ⟨p, 5, none⟩ (.int .i64 x)) p L n { D with cut := x } :=
  h.setp rfl rfl rfl ⟨h.ok.nl, h.ok.fl, h.ok.nr, h.ok.fr, h.ok.wl, h.ok.fs, hx, h.ok.ss⟩ (heap_setCell_same _ _ _ _ _ _ h.hp) (fun b hb => heap_setCell_other _ _ _ _ hb) (by simp)
theorem RDs.setDown (h : RDs S w p L n D) (x : Bool) : RDs S (w.setCell ⟨p, 6, none⟩ (.bool x)) p L n { D with down := x } :=
  h.setp rfl rfl rfl ⟨h.ok.nl, h.ok.fl, h.ok.nr, h.ok.fr, h.ok.wl, h.ok.fs, h.ok.cs, h.ok.ss⟩ (heap_setCell_same _ _ _ _ _ _ h.hp) (fun b hb => heap_setCell_other _ _ _ _ hb) (by simp)
/-- Nothing waits. -/
theorem RDs.noWaits (h : RDs S w p L n D) : RDs { S with wv := .slice none 0 0 } (w.setCell ⟨p, 2, none⟩ (.slice none 0 0)) p L n { D with waits := [] } := by
  have ne : ∀ b, S.K b ≠ 7 → b ≠ p := fun b hb e => hb (by rw [e]; exact h.lp.2)
  have hk : ∀ b, b ≠ p → (w.setCell ⟨p, 2, none⟩ (.slice none 0 0)).heap[b]? = w.heap[b]? := fun b hb => heap_setCell_other _ _ _ _ hb
  exact ⟨⟨h.ok.nl, h.ok.fl, h.ok.nr, h.ok.fr, fun k hk' => absurd hk' (Nat.not_lt_zero _), h.ok.fs, h.ok.cs, h.ok.ss⟩, heap_setCell_same _ _ _ _ _ _ h.hp, h.lp, h.lbn, h.lbf, h.lg, h.lh, fun k hk' => absurd hk' (Nat.not_lt_zero _), fun b hb => by simp [Value.ownBlock] at hb,
    h.sn.keep (hk _ (ne _ (by rw [h.lbn.2]; decide))), h.sf.keep (hk _ (ne _ (by rw [h.lbf.2]; decide))), fun i hi => (h.rn i hi).keep (hk _ (ne _ (by rw [(h.lg i hi).2]; omega))), fun i hi => (h.rf i hi).keep (hk _ (ne _ (by rw [(h.lh i hi).2]; omega))),
    fun k hk' => absurd hk' (Nat.not_lt_zero _), ⟨rfl, .inl ⟨rfl, rfl⟩⟩, fun b hb => by rw [World.size_setCell]; exact h.lt b hb⟩
theorem RD.call (h : RD w p L n D) (hb : Below w.heap.size w w') : RD w' p L n D := by obtain ⟨S, h⟩ := h; exact ⟨S, h.call hb⟩
theorem RD.keep {M : Nat → Prop} (h : RD w p L n D) (hk : Keep M w w') (hd : ∀ b, L b → ¬ M b) : RD w' p L n D := by obtain ⟨S, h⟩ := h; exact ⟨S, h.keep (fun b hb => hk.block b (h.lt b hb) (hd b hb)) hk.size⟩
theorem RD.more {M : Nat → Prop} (h : RD w p L n D) (hM : ∀ b, L b → M b) (hlt : ∀ b, M b → b < w.heap.size) : RD w p M n D := by obtain ⟨S, h⟩ := h; exact ⟨S, h.more hM hlt⟩
theorem RD.ok (h : RD w p L n D) : D.Ok n := by obtain ⟨S, h⟩ := h; exact h.ok
theorem RD.lt (h : RD w p L n D) : ∀ b, L b → b < w.heap.size := by obtain ⟨S, h⟩ := h; exact h.lt
end

set_option maxRecDepth 100000 in
set_option maxHeartbeats 4000000 in
theorem rdhas_any (w : World) (p n : Nat) (L : Nat → Prop) (D : Dev) (i : Int) (h : RD w p L n D) :
    Calls Try.prog 46 #[.pointer (some ⟨p, 0, none⟩), .int .i64 i] w fun e w' => e = .returned (.bool (hasB n i)) ∧ w' = w := by
  obtain ⟨S, h⟩ := h
  have d0 := h.c0
  clear h
  by_cases h0 : 0 ≤ i
  · by_cases h1 : i < (n : Int)
    · rw [show hasB n i = true from by simp [hasB, h0, h1]]
      go_enter Try.func46, Try.ntmps46
      go_wp2_with fail
      go_ret
      exact ⟨rfl, rfl⟩
    · rw [show hasB n i = false from by simp [hasB, h1]]
      go_enter Try.func46, Try.ntmps46
      go_wp2_with fail
      go_ret
      exact ⟨rfl, rfl⟩
  · rw [show hasB n i = false from by simp [hasB, h0]]
    go_enter Try.func46, Try.ntmps46
    go_wp2_with fail
    go_ret
    exact ⟨rfl, rfl⟩
/-- What Read tells. -/
def Dev.readE (D : Dev) (n : Nat) (i : Int) : Nat := if hasB n i = true then (if D.down = true then 81 else 0) else 2
def Dev.readB (D : Dev) (n : Nat) (i : Int) : List UInt8 := if D.readE n i = 0 then D.now.getD i.toNat [] else []
set_option maxRecDepth 100000 in
set_option maxHeartbeats 4000000 in
theorem rdread_any (w : World) (p n : Nat) (L : Nat → Prop) (D : Dev) (i : Int) (h : RD w p L n D) :
    Calls Try.prog 38 #[.pointer (some ⟨p, 0, none⟩), .int .i64 i] w fun e w' => ∃ v, e = .returned (.tuple #[v, .int .i64 (D.readE n i : Int)]) ∧ w'.ownsRow w.heap.size 5 1 v (D.readB n i).length (vb (D.readB n i)) ∧ Below w.heap.size w w' := by
  have hh := rdhas_any w p n L D i h
  obtain ⟨S, h⟩ := h
  have d0 := h.c0
  have d6 := h.c6
  by_cases h1 : hasB n i = true
  · rw [h1] at hh
    have HH := Lib.hid hh; clear hh
    obtain ⟨i0, i1⟩ := (hasB_iff n i).1 h1
    by_cases hd : D.down = true
    · have eE : D.readE n i = 81 := by unfold Dev.readE; rw [if_pos h1, if_pos hd]
      have eB : D.readB n i = [] := by unfold Dev.readB; rw [if_neg (by rw [eE]; decide)]
      rw [eE, eB]
      rw [hd] at d6
      clear h eE eB hd
      go_enter Try.func38, Try.ntmps38
      go_wp2_with fail
      refine HH.out.mono ?_
      rintro e w1 ⟨rfl, rfl⟩
      go_wp2_with fail
      go_ret2
      exact ⟨_, rfl, ⟨rfl, .inl ⟨rfl, rfl⟩⟩, Below.refl _ _⟩
    · have hd : D.down = false := by simpa using hd
      have eE : D.readE n i = 0 := by unfold Dev.readE; rw [if_pos h1, if_neg (by rw [hd]; decide)]
      obtain ⟨k, rfl⟩ : ∃ k : Nat, i = (k : Int) := ⟨i.toNat, by omega⟩
      have hk : k < n := by omega
      have eB : D.readB n (k : Int) = D.now.getD k [] := by unfold Dev.readB; rw [if_pos eE]; rfl
      rw [eE, eB]
      rw [hd] at d6
      have hc := h.sn.cellAt k hk
      have hlen := h.ok.nr k hk
      have hr := (h.rn k hk).rd
      generalize D.now.getD k [] = l at *
      have hcp := copyv_any (some ⟨S.g k, 0, none⟩) (vb l) 256 (S.cg k) (by simp [vb, hlen]) (vb_onec l) w (by decide) hr
      have HC := Lib.hid hcp; clear hcp
      rw [hlen]
      clear h eE eB hd hr hlen h1 i0
      generalize S.g k = gk at *
      generalize S.cg k = ck at *
      generalize S.bn = bn at *
      generalize S.cn = cn at *
      go_enter Try.func38, Try.ntmps38
      go_wp2_with fail
      refine HH.out.mono ?_
      rintro e w1 ⟨rfl, rfl⟩
      go_wp2_with fail
      refine HC.out.mono ?_
      rintro e w2 ⟨v, rfl, ho, hb⟩
      go_wp2_with fail
      go_ret2
      exact ⟨_, rfl, ho, hb⟩
  · have eE : D.readE n i = 2 := by unfold Dev.readE; rw [if_neg h1]
    have eB : D.readB n i = [] := by unfold Dev.readB; rw [if_neg (by rw [eE]; decide)]
    rw [eE, eB]
    have h2 : hasB n i = false := by simpa using h1
    rw [h2] at hh
    have HH := Lib.hid hh; clear hh
    clear h eE eB h1 h2
    go_enter Try.func38, Try.ntmps38
    go_wp2_with fail
    refine HH.out.mono ?_
    rintro e w1 ⟨rfl, rfl⟩
    go_wp2_with fail
    go_ret2
    exact ⟨_, rfl, ⟨rfl, .inl ⟨rfl, rfl⟩⟩, Below.refl _ _⟩
end Go.Proofs.Ytpepbffhhfgdpaa
namespace Go.Proofs.Ytpepbffhhfgdpaa
open Go Go.RowKit
set_option linter.unusedVariables false
set_option linter.unusedSimpArgs false

theorem dev_eta (D : Dev) (h : D.down = true) : ({ D with down := true } : Dev) = D := by cases D; simp at h; simp [h]
set_option maxRecDepth 100000 in
set_option maxHeartbeats 4000000 in
theorem rdstep_any (w : World) (p n : Nat) (L : Nat → Prop) (D : Dev) (h : RD w p L n D) :
    Calls Try.prog 32 #[.pointer (some ⟨p, 0, none⟩)] w fun e w' => e = .returned (.int .i64 (D.stepE : Int)) ∧ RD w' p L n D.step ∧ Keep L w w' := by
  obtain ⟨S, h⟩ := h
  have hL := h.lp.1
  have hcs := h.ok.cs
  have hfs := h.ok.fs
  have hss := h.ok.ss
  by_cases h0 : D.cut = 0
  · have eE : D.stepE = 81 := by unfold Dev.stepE; rw [if_pos (.inl h0)]
    have eS : D.step = { D with down := true } := by unfold Dev.step; rw [if_pos (.inl h0)]
    rw [eE, eS]
    have d5 := h.c5
    rw [h0] at d5
    have f6 := h.free 6
    have d6 := h.c6
    have HR := Lib.hid h; clear h
    clear eE eS h0 hcs hfs hss
    go_enter Try.func32, Try.ntmps32
    go_upto_region 3 with fail
    have h2 := HR.out.setDown true
    have k2 : Keep L w (w.setCell ⟨p, 6, none⟩ (.bool true)) := (Keep.refl L w).setCell (fun _ => hL) _
    have d6' := h2.c6
    clear d6 d5 f6
    generalize w.setCell ⟨p, 6, none⟩ (.bool true) = w2 at *
    have HR2 := Lib.hid h2; clear h2
    go_wp2_with fail
    go_ret
    exact ⟨rfl, ⟨S, HR2.out⟩, k2⟩
  · by_cases hd : D.down = true
    · have eE : D.stepE = 81 := by unfold Dev.stepE; rw [if_pos (.inr hd)]
      have eS : D.step = D := by unfold Dev.step; rw [if_pos (.inr hd), dev_eta D hd]
      rw [eE, eS]
      have d5 := h.c5
      have d6 := h.c6
      rw [hd] at d6
      have HR := Lib.hid h; clear h
      clear eE eS hd hcs hfs hss
      go_enter Try.func32, Try.ntmps32
      go_wp2_with fail
      go_ret
      exact ⟨rfl, ⟨S, HR.out⟩, Keep.refl _ _⟩
    · have hd : D.down = false := by simpa using hd
      have hno : ¬ (D.cut = 0 ∨ D.down = true) := fun h => h.elim h0 (fun h => by rw [hd] at h; cases h)
      have eE : D.stepE = if D.fail = 1 then 80 else 0 := by unfold Dev.stepE; rw [if_neg hno]
      have eS : D.step = { D with cut := if 0 < D.cut then D.cut - 1 else D.cut, steps := (D.steps + 1) % 18446744073709551616, fail := D.fail - 1 } := by unfold Dev.step; rw [if_neg hno]
      obtain ⟨E, hE⟩ : ∃ E, E = D.stepE := ⟨_, rfl⟩
      obtain ⟨T, hT⟩ : ∃ T, T = D.step := ⟨_, rfl⟩
      rw [← hE, ← hT]
      rw [eE] at hE
      rw [eS] at hT
      have HE := Lib.hid hE; clear hE
      have HT := Lib.hid hT; clear hT
      have d5 := h.c5
      have d6 := h.c6
      rw [hd] at d6
      have f5 := h.free 5
      have HR := Lib.hid h; clear h
      clear eE eS hd hno
      obtain ⟨c, hc⟩ : ∃ c, c = D.cut := ⟨_, rfl⟩
      obtain ⟨c2, hc2⟩ : ∃ c2, c2 = if 0 < D.cut then D.cut - 1 else D.cut := ⟨_, rfl⟩
      rw [← hc] at d5 hcs h0
      rw [← hc] at hc2
      have hwc : 0 < c → IntKind.i64.wrap (c - 1) = c2 := fun h => by rw [IntWalk.i64_in _ (by omega), hc2, if_pos h]
      have hwu : IntKind.u64.wrap ((D.steps : Int) + 1) = (((D.steps + 1) % 18446744073709551616 : Nat) : Int) := by rw [IntKind.wrap_u64]; omega
      have hst : (D.steps + 1) % 18446744073709551616 < 18446744073709551616 := Nat.mod_lt _ (by decide)
      obtain ⟨s, hs⟩ : ∃ s, s = D.steps := ⟨_, rfl⟩
      obtain ⟨s2, hs2⟩ : ∃ s2, s2 = (D.steps + 1) % 18446744073709551616 := ⟨_, rfl⟩
      rw [← hs2] at hwu hst
      rw [← hs] at hwu
      obtain ⟨f, hf⟩ : ∃ f, f = D.fail := ⟨_, rfl⟩
      rw [← hf] at hfs
      have hc2b : -1 ≤ c2 ∧ c2 ≤ 9223372036854775807 := by rw [hc2]; split <;> omega
      have HC := Lib.hid (And.intro hc hc2); clear hc hc2
      have HS := Lib.hid (And.intro hs hs2); clear hs hs2 hss
      have HF := Lib.hid hf; clear hf
      go_enter Try.func32, Try.ntmps32
      by_cases hcp : 0 < c
      · have hw := hwc hcp
        clear hwc
        go_upto_region 7 with fail
        have h2 := HR.out.setCut c2 hc2b
        have k2 : Keep L w (w.setCell ⟨p, 5, none⟩ (.int .i64 c2)) := (Keep.refl L w).setCell (fun _ => hL) _
        clear d5 d6 f5 HR
        generalize w.setCell ⟨p, 5, none⟩ (.int .i64 c2) = w2 at *
        have HR2 := Lib.hid h2; clear h2
        have d3 := HR2.out.c3
        have f3 := HR2.out.free 3
        rw [← HS.out.1] at d3
        go_upto_region 8 with fail
        have h3 := HR2.out.setSteps s2 hst
        have k3 : Keep L w (w2.setCell ⟨p, 3, none⟩ (.int .u64 (s2 : Int))) := k2.setCell (fun _ => hL) _
        clear d3 f3 k2 HR2
        generalize w2.setCell ⟨p, 3, none⟩ (.int .u64 (s2 : Int)) = w3 at *
        have HR3 := Lib.hid h3; clear h3
        have d4 := HR3.out.c4
        rw [← HF.out] at d4
        have f4 := HR3.out.free 4
        by_cases hf0 : f = 0
        · have d4z : w3.cell? ⟨p, 4, none⟩ = some (.int .i64 0) := by rw [d4, hf0]; rfl
          clear f4 d4
          go_wp2_with fail
          go_ret
          have e1 : E = 0 := by rw [HE.out, ← HF.out, hf0]; rfl
          have e2 : T = { D with cut := c2, steps := s2 } := by
            have e3 : D.fail - 1 = D.fail := by rw [← HF.out, hf0]
            rw [HT.out, HC.out.2, HC.out.1, HS.out.2, e3]
          rw [e1, e2]
          exact ⟨rfl, ⟨S, HR3.out⟩, k3⟩
        · have hfi : ¬ (f : Int) = 0 := by omega
          obtain ⟨f2, hf2⟩ : ∃ f2, f2 = f - 1 := ⟨_, rfl⟩
          have hwf : IntKind.i64.wrap ((f : Int) - 1) = (f2 : Int) := by rw [IntWalk.i64_in _ (by omega)]; omega
          have hwf2 : (f : Int) - 1 = (f2 : Int) := by omega
          have hf2b : f2 ≤ 9223372036854775807 := by omega
          have HF2 := Lib.hid hf2; clear hf2
          go_upto_region 11 with fail
          have h4 := HR3.out.setFail f2 hf2b
          have k4 : Keep L w (w3.setCell ⟨p, 4, none⟩ (.int .i64 (f2 : Int))) := k3.setCell (fun _ => hL) _
          clear d4 f4 k3 HR3
          generalize w3.setCell ⟨p, 4, none⟩ (.int .i64 (f2 : Int)) = w4 at *
          have HR4 := Lib.hid h4; clear h4
          have d4 := HR4.out.c4
          by_cases hf1 : f = 1
          · have h20 : f2 = 0 := by have := HF2.out; omega
            have d4z : w4.cell? ⟨p, 4, none⟩ = some (.int .i64 0) := by rw [d4, h20]; rfl
            clear d4
            go_wp2_with fail
            go_ret
            have e1 : E = 80 := by rw [HE.out, ← HF.out, if_pos hf1]
            have e2 : T = { D with cut := c2, steps := s2, fail := f2 } := by rw [HT.out, HC.out.2, HC.out.1, HS.out.2, HF2.out, HF.out]
            rw [e1, e2]
            exact ⟨rfl, ⟨S, HR4.out⟩, k4⟩
          · have h20 : ¬ (f2 : Int) = 0 := by have := HF2.out; omega
            go_wp2_with fail
            go_ret
            have e1 : E = 0 := by rw [HE.out, ← HF.out, if_neg hf1]
            have e2 : T = { D with cut := c2, steps := s2, fail := f2 } := by rw [HT.out, HC.out.2, HC.out.1, HS.out.2, HF2.out, HF.out]
            rw [e1, e2]
            exact ⟨rfl, ⟨S, HR4.out⟩, k4⟩
      · have hw2 : c2 = c := by rw [HC.out.2, if_neg hcp]
        clear hwc
        go_upto_region 7 with fail
        have h2 : RDs S w p L n { D with cut := c2 } := by
          have : ({ D with cut := c2 } : Dev) = D := by rw [hw2, HC.out.1]
          rw [this]; exact HR.out
        have k2 : Keep L w w := Keep.refl L w
        clear d5 d6 f5 HR
        obtain ⟨w2, hw2'⟩ : ∃ w2, w2 = w := ⟨_, rfl⟩
        rw [← hw2'] at h2
        have k2 : Keep L w w2 := by rw [hw2']; exact Keep.refl L w
        conv => rw [← hw2']
        have HW := Lib.hid hw2'; clear hw2'
        have HR2 := Lib.hid h2; clear h2
        have d3 := HR2.out.c3
        have f3 := HR2.out.free 3
        rw [← HS.out.1] at d3
        go_upto_region 8 with fail
        have h3 := HR2.out.setSteps s2 hst
        have k3 : Keep L w (w2.setCell ⟨p, 3, none⟩ (.int .u64 (s2 : Int))) := k2.setCell (fun _ => hL) _
        clear d3 f3 k2 HR2
        generalize w2.setCell ⟨p, 3, none⟩ (.int .u64 (s2 : Int)) = w3 at *
        have HR3 := Lib.hid h3; clear h3
        have d4 := HR3.out.c4
        rw [← HF.out] at d4
        have f4 := HR3.out.free 4
        by_cases hf0 : f = 0
        · have d4z : w3.cell? ⟨p, 4, none⟩ = some (.int .i64 0) := by rw [d4, hf0]; rfl
          clear f4 d4
          go_wp2_with fail
          go_ret
          have e1 : E = 0 := by rw [HE.out, ← HF.out, hf0]; rfl
          have e2 : T = { D with cut := c2, steps := s2 } := by
            have e3 : D.fail - 1 = D.fail := by rw [← HF.out, hf0]
            rw [HT.out, HC.out.2, HC.out.1, HS.out.2, e3]
          rw [e1, e2]
          exact ⟨rfl, ⟨S, HR3.out⟩, k3⟩
        · have hfi : ¬ (f : Int) = 0 := by omega
          obtain ⟨f2, hf2⟩ : ∃ f2, f2 = f - 1 := ⟨_, rfl⟩
          have hwf : IntKind.i64.wrap ((f : Int) - 1) = (f2 : Int) := by rw [IntWalk.i64_in _ (by omega)]; omega
          have hwf2 : (f : Int) - 1 = (f2 : Int) := by omega
          have hf2b : f2 ≤ 9223372036854775807 := by omega
          have HF2 := Lib.hid hf2; clear hf2
          go_upto_region 11 with fail
          have h4 := HR3.out.setFail f2 hf2b
          have k4 : Keep L w (w3.setCell ⟨p, 4, none⟩ (.int .i64 (f2 : Int))) := k3.setCell (fun _ => hL) _
          clear d4 f4 k3 HR3
          generalize w3.setCell ⟨p, 4, none⟩ (.int .i64 (f2 : Int)) = w4 at *
          have HR4 := Lib.hid h4; clear h4
          have d4 := HR4.out.c4
          by_cases hf1 : f = 1
          · have h20 : f2 = 0 := by have := HF2.out; omega
            have d4z : w4.cell? ⟨p, 4, none⟩ = some (.int .i64 0) := by rw [d4, h20]; rfl
            clear d4
            go_wp2_with fail
            go_ret
            have e1 : E = 80 := by rw [HE.out, ← HF.out, if_pos hf1]
            have e2 : T = { D with cut := c2, steps := s2, fail := f2 } := by rw [HT.out, HC.out.2, HC.out.1, HS.out.2, HF2.out, HF.out]
            rw [e1, e2]
            exact ⟨rfl, ⟨S, HR4.out⟩, k4⟩
          · have h20 : ¬ (f2 : Int) = 0 := by have := HF2.out; omega
            go_wp2_with fail
            go_ret
            have e1 : E = 0 := by rw [HE.out, ← HF.out, if_neg hf1]
            have e2 : T = { D with cut := c2, steps := s2, fail := f2 } := by rw [HT.out, HC.out.2, HC.out.1, HS.out.2, HF2.out, HF.out]
            rw [e1, e2]
            exact ⟨rfl, ⟨S, HR4.out⟩, k4⟩
end Go.Proofs.Ytpepbffhhfgdpaa
namespace Go.Proofs.Ytpepbffhhfgdpaa
open Go Go.RowKit
set_option linter.unusedVariables false
set_option linter.unusedSimpArgs false

section
variable {S : Sh} {w w' : World} {p n : Nat} {L : Nat → Prop} {D : Dev}
theorem upd_at (f : Nat → Nat) (i x : Nat) : upd f i x i = x := by simp [upd]
theorem upd_ne (f : Nat → Nat) (i x j : Nat) (h : j ≠ i) : upd f i x j = f j := by simp [upd, h]
/-- A block tells a new row. -/
theorem RDs.newNow {M : Nat → Prop} (h : RDs S w p L n D) {k b c : Nat} {l : List UInt8} (hk : k < n) (hb : ¬ L b) (hr : Row w b l) (hl : l.length = 256) (hM : ∀ x, L x → M x) (hMb : M b) (hlt : ∀ x, M x → x < w.heap.size) :
    RDs { S with g := upd S.g k b, cg := upd S.cg k c, K := upd S.K b (10 * k + 13) } (w.setCell ⟨S.bn, k, none⟩ (.slice (some ⟨b, 0, none⟩) 256 c)) p M n { D with now := D.now.set k l } := by
  have nL : ∀ x, L x → x ≠ b := fun x hx e => hb (e ▸ hx)
  have kK : ∀ x, L x → upd S.K b (10 * k + 13) x = S.K x := fun x hx => upd_ne _ _ _ _ (nL x hx)
  have nb : ∀ x, S.K x ≠ 1 → x ≠ S.bn := fun x hx e => hx (by rw [e]; exact h.lbn.2)
  have hk' : ∀ x, x ≠ S.bn → (w.setCell ⟨S.bn, k, none⟩ (.slice (some ⟨b, 0, none⟩) 256 c)).heap[x]? = w.heap[x]? := fun x hx => heap_setCell_other _ _ _ _ hx
  have hbn : b ≠ S.bn := fun e => hb (e ▸ h.lbn.1)
  refine ⟨⟨by simp [h.ok.nl], h.ok.fl, ?_, h.ok.fr, h.ok.wl, h.ok.fs, h.ok.cs, h.ok.ss⟩, ?_, ⟨hM _ h.lp.1, (kK _ h.lp.1).trans h.lp.2⟩, ⟨hM _ h.lbn.1, (kK _ h.lbn.1).trans h.lbn.2⟩, ⟨hM _ h.lbf.1, (kK _ h.lbf.1).trans h.lbf.2⟩, ?_,
    fun i hi => ⟨hM _ (h.lh i hi).1, (kK _ (h.lh i hi).1).trans (h.lh i hi).2⟩, fun i hi => ⟨hM _ (h.lq i hi).1, (kK _ (h.lq i hi).1).trans (h.lq i hi).2⟩,
    fun i hi => ⟨hM _ (h.lw i hi).1, (kK _ (h.lw i hi).1).trans (h.lw i hi).2⟩, h.sn.set k hk b c, h.sf.keep (hk' _ (nb _ (by rw [h.lbf.2]; decide))), ?_, ?_, ?_, ?_, fun x hx => by rw [World.size_setCell]; exact hlt x hx⟩
  · intro j hj
    show ((D.now.set k l).getD j []).length = 256
    rw [getD_set]
    split
    · exact hl
    · exact h.ok.nr j hj
  · rw [hk' _ (nb _ (by rw [h.lp.2]; decide))]; exact h.hp
  · intro i hi
    show M (upd S.g k b i) ∧ upd S.K b (10 * k + 13) (upd S.g k b i) = 10 * i + 13
    by_cases e : i = k
    · subst e; rw [upd_at, upd_at]; exact ⟨hMb, rfl⟩
    · rw [upd_ne _ _ _ _ e, kK _ (h.lg i hi).1]; exact ⟨hM _ (h.lg i hi).1, (h.lg i hi).2⟩
  · intro i hi
    show Row _ (upd S.g k b i) ((D.now.set k l).getD i [])
    rw [getD_set, h.ok.nl]
    by_cases e : i = k
    · subst e; rw [upd_at, if_pos ⟨rfl, hk⟩]; exact hr.keep (hk' _ hbn)
    · rw [upd_ne _ _ _ _ e, if_neg (fun h => e h.1)]; exact (h.rn i hi).keep (hk' _ (nb _ (by rw [(h.lg i hi).2]; omega)))
  · intro i hi; exact (h.rf i hi).keep (hk' _ (nb _ (by rw [(h.lh i hi).2]; omega)))
  · intro i hi; exact (h.rq i hi).keep (hk' _ (nb _ (by rw [(h.lq i hi).2]; decide)))
  · exact own_same h.ww fun x hx => hk' _ (nb _ (by rw [(h.lw x hx).2]; decide))
/-- A block's firm row is a new one. -/
theorem RDs.newFirm {M : Nat → Prop} (h : RDs S w p L n D) {k b c : Nat} {l : List UInt8} (hk : k < n) (hb : ¬ L b) (hr : Row w b l) (hl : l.length = 256) (hM : ∀ x, L x → M x) (hMb : M b) (hlt : ∀ x, M x → x < w.heap.size) :
    RDs { S with h := upd S.h k b, ch := upd S.ch k c, K := upd S.K b (10 * k + 14) } (w.setCell ⟨S.bf, k, none⟩ (.slice (some ⟨b, 0, none⟩) 256 c)) p M n { D with firm := D.firm.set k l } := by
  have nL : ∀ x, L x → x ≠ b := fun x hx e => hb (e ▸ hx)
  have kK : ∀ x, L x → upd S.K b (10 * k + 14) x = S.K x := fun x hx => upd_ne _ _ _ _ (nL x hx)
  have nb : ∀ x, S.K x ≠ 2 → x ≠ S.bf := fun x hx e => hx (by rw [e]; exact h.lbf.2)
  have hk' : ∀ x, x ≠ S.bf → (w.setCell ⟨S.bf, k, none⟩ (.slice (some ⟨b, 0, none⟩) 256 c)).heap[x]? = w.heap[x]? := fun x hx => heap_setCell_other _ _ _ _ hx
  have hbn : b ≠ S.bf := fun e => hb (e ▸ h.lbf.1)
  refine ⟨⟨h.ok.nl, by simp [h.ok.fl], h.ok.nr, ?_, h.ok.wl, h.ok.fs, h.ok.cs, h.ok.ss⟩, ?_, ⟨hM _ h.lp.1, (kK _ h.lp.1).trans h.lp.2⟩, ⟨hM _ h.lbn.1, (kK _ h.lbn.1).trans h.lbn.2⟩, ⟨hM _ h.lbf.1, (kK _ h.lbf.1).trans h.lbf.2⟩,
    fun i hi => ⟨hM _ (h.lg i hi).1, (kK _ (h.lg i hi).1).trans (h.lg i hi).2⟩, ?_, fun i hi => ⟨hM _ (h.lq i hi).1, (kK _ (h.lq i hi).1).trans (h.lq i hi).2⟩,
    fun i hi => ⟨hM _ (h.lw i hi).1, (kK _ (h.lw i hi).1).trans (h.lw i hi).2⟩, h.sn.keep (hk' _ (nb _ (by rw [h.lbn.2]; decide))), h.sf.set k hk b c, ?_, ?_, ?_, ?_, fun x hx => by rw [World.size_setCell]; exact hlt x hx⟩
  · intro j hj
    show ((D.firm.set k l).getD j []).length = 256
    rw [getD_set]
    split
    · exact hl
    · exact h.ok.fr j hj
  · rw [hk' _ (nb _ (by rw [h.lp.2]; decide))]; exact h.hp
  · intro i hi
    show M (upd S.h k b i) ∧ upd S.K b (10 * k + 14) (upd S.h k b i) = 10 * i + 14
    by_cases e : i = k
    · subst e; rw [upd_at, upd_at]; exact ⟨hMb, rfl⟩
    · rw [upd_ne _ _ _ _ e, kK _ (h.lh i hi).1]; exact ⟨hM _ (h.lh i hi).1, (h.lh i hi).2⟩
  · intro i hi; exact (h.rn i hi).keep (hk' _ (nb _ (by rw [(h.lg i hi).2]; omega)))
  · intro i hi
    show Row _ (upd S.h k b i) ((D.firm.set k l).getD i [])
    rw [getD_set, h.ok.fl]
    by_cases e : i = k
    · subst e; rw [upd_at, if_pos ⟨rfl, hk⟩]; exact hr.keep (hk' _ hbn)
    · rw [upd_ne _ _ _ _ e, if_neg (fun h => e h.1)]; exact (h.rf i hi).keep (hk' _ (nb _ (by rw [(h.lh i hi).2]; omega)))
  · intro i hi; exact (h.rq i hi).keep (hk' _ (nb _ (by rw [(h.lq i hi).2]; decide)))
  · exact own_same h.ww fun x hx => hk' _ (nb _ (by rw [(h.lw x hx).2]; decide))
/-- A write more waits: its row's block is b, the list's g2. -/
theorem RDs.newWait {M : Nat → Prop} (h : RDs S w p L n D) {k b c g2 cap : Nat} {l : List UInt8} (hk : k < n) (hb : ¬ L b) (hr : Row w b l) (hl : l.length = 256) (hM : ∀ x, L x → M x) (hMb : M b) (hMg : M g2)
    (hw : w'.ownsRow 0 86 2 (.slice (some ⟨g2, 0, none⟩) (D.waits.length + 1) cap) (D.waits.length + 1) (prs D.waits.length (wA D.waits) (wB S.q S.cq) ++ [.int .i64 (k : Int), .slice (some ⟨b, 0, none⟩) 256 c])) (hg : w.grownBy w' S.wv.ownBlock) (hat : S.wv.ownBlock = some g2 ∨ w.heap.size ≤ g2)
    (hlt : ∀ x, M x → x < w'.heap.size) :
    RDs { S with wv := .slice (some ⟨g2, 0, none⟩) (D.waits.length + 1) cap, q := upd S.q D.waits.length b, cq := upd S.cq D.waits.length c, K := upd (upd S.K g2 6) b 5 } (w'.setCell ⟨p, 2, none⟩ (.slice (some ⟨g2, 0, none⟩) (D.waits.length + 1) cap)) p M n { D with waits := D.waits ++ [(k, l)] } := by
  have nL : ∀ x, L x → x ≠ b := fun x hx e => hb (e ▸ hx)
  have kg : ∀ x, L x → S.K x ≠ 6 → x ≠ g2 := fun x hx h6 e => by
    rcases hat with ha | ha
    · exact h6 (by rw [e]; exact (h.lw _ ha).2)
    · have := h.lt x hx; omega
  have kK : ∀ x, L x → S.K x ≠ 6 → upd (upd S.K g2 6) b 5 x = S.K x := fun x hx h6 => by rw [upd_ne _ _ _ _ (nL x hx), upd_ne _ _ _ _ (kg x hx h6)]
  have ne : ∀ b, S.K b ≠ 7 → b ≠ p := fun b hb e => hb (by rw [e]; exact h.lp.2)
  have nw : ∀ x, S.K x ≠ 6 → some x ≠ S.wv.ownBlock := fun x hx e => hx (h.lw x e.symm).2
  have hk' : ∀ x, x < w.heap.size → S.K x ≠ 7 → S.K x ≠ 6 → (w'.setCell ⟨p, 2, none⟩ (.slice (some ⟨g2, 0, none⟩) (D.waits.length + 1) cap)).heap[x]? = w.heap[x]? := fun x hx h7 h6 =>
    (heap_setCell_other _ _ _ _ (ne x h7)).trans (hg.block x hx (nw x h6))
  have hgb : g2 ≠ b := fun e => by
    rcases hat with ha | ha
    · exact hb (e ▸ (h.lw _ ha).1)
    · have := hr.lt; omega
  have hgp : g2 ≠ p := fun e => by
    rcases hat with ha | ha
    · have := (h.lw _ ha).2; rw [e, h.lp.2] at this; cases this
    · have := h.lt p h.lp.1; omega
  refine ⟨⟨h.ok.nl, h.ok.fl, h.ok.nr, h.ok.fr, ?_, h.ok.fs, h.ok.cs, h.ok.ss⟩, ?_, ⟨hM _ h.lp.1, (kK _ h.lp.1 (by rw [h.lp.2]; decide)).trans h.lp.2⟩, ⟨hM _ h.lbn.1, (kK _ h.lbn.1 (by rw [h.lbn.2]; decide)).trans h.lbn.2⟩,
    ⟨hM _ h.lbf.1, (kK _ h.lbf.1 (by rw [h.lbf.2]; decide)).trans h.lbf.2⟩,
    fun i hi => ⟨hM _ (h.lg i hi).1, (kK _ (h.lg i hi).1 (by rw [(h.lg i hi).2]; omega)).trans (h.lg i hi).2⟩, fun i hi => ⟨hM _ (h.lh i hi).1, (kK _ (h.lh i hi).1 (by rw [(h.lh i hi).2]; omega)).trans (h.lh i hi).2⟩, ?_, ?_,
    h.sn.keep (hk' _ (h.lt _ h.lbn.1) (by rw [h.lbn.2]; decide) (by rw [h.lbn.2]; decide)), h.sf.keep (hk' _ (h.lt _ h.lbf.1) (by rw [h.lbf.2]; decide) (by rw [h.lbf.2]; decide)),
    fun i hi => (h.rn i hi).keep (hk' _ (h.lt _ (h.lg i hi).1) (by rw [(h.lg i hi).2]; omega) (by rw [(h.lg i hi).2]; omega)), fun i hi => (h.rf i hi).keep (hk' _ (h.lt _ (h.lh i hi).1) (by rw [(h.lh i hi).2]; omega) (by rw [(h.lh i hi).2]; omega)), ?_, ?_, fun x hx => by rw [World.size_setCell]; exact hlt x hx⟩
  · intro j hj
    have hj2 : j < D.waits.length + 1 := by simpa using hj
    show ((D.waits ++ [(k, l)]).getD j (0, [])).1 < n ∧ ((D.waits ++ [(k, l)]).getD j (0, [])).2.length = 256
    rw [getD_app]
    split
    · exact ⟨hk, hl⟩
    · exact h.ok.wl j (by omega)
  · have hp' : w'.heap[p]? = some (.cells (dCells S n D) 58 (0, 0)) := (hg.block p (h.lt p h.lp.1) (nw p (by rw [h.lp.2]; decide))).trans h.hp
    exact heap_setCell_same _ _ _ _ _ _ hp'
  · intro j hj
    have hj2 : j < D.waits.length + 1 := by simpa using hj
    show M (upd S.q D.waits.length b j) ∧ upd (upd S.K g2 6) b 5 (upd S.q D.waits.length b j) = 5
    by_cases e : j = D.waits.length
    · subst e; rw [upd_at, upd_at]; exact ⟨hMb, rfl⟩
    · rw [upd_ne _ _ _ _ e, kK _ (h.lq j (by omega)).1 (by rw [(h.lq j (by omega)).2]; decide)]; exact ⟨hM _ (h.lq j (by omega)).1, (h.lq j (by omega)).2⟩
  · intro x hx
    have hx2 : g2 = x := by simpa [Value.ownBlock] using hx
    subst hx2
    exact ⟨hMg, by show upd (upd S.K g2 6) b 5 g2 = 6; rw [upd_ne _ _ _ _ hgb, upd_at]⟩
  · intro j hj
    have hj2 : j < D.waits.length + 1 := by simpa using hj
    show Row _ (upd S.q D.waits.length b j) ((D.waits ++ [(k, l)]).getD j (0, [])).2
    rw [getD_app]
    by_cases e : j = D.waits.length
    · subst e
      rw [upd_at, if_pos rfl]
      exact hr.keep ((heap_setCell_other _ _ _ _ (fun e => hb (by rw [e]; exact h.lp.1))).trans (hg.block b hr.lt fun e => hb (h.lw b e.symm).1))
    · rw [upd_ne _ _ _ _ e, if_neg e]
      exact (h.rq j (by omega)).keep (hk' _ (h.lt _ (h.lq j (by omega)).1) (by rw [(h.lq j (by omega)).2]; decide) (by rw [(h.lq j (by omega)).2]; decide))
  · show (w'.setCell ⟨p, 2, none⟩ _).ownsRow 0 86 2 _ (D.waits ++ [(k, l)]).length (prs (D.waits ++ [(k, l)]).length (wA (D.waits ++ [(k, l)])) (wB (upd S.q D.waits.length b) (upd S.cq D.waits.length c)))
    have e1 : (D.waits ++ [(k, l)]).length = D.waits.length + 1 := by simp
    have e2 : prs (D.waits.length + 1) (wA (D.waits ++ [(k, l)])) (wB (upd S.q D.waits.length b) (upd S.cq D.waits.length c)) = prs D.waits.length (wA D.waits) (wB S.q S.cq) ++ [.int .i64 (k : Int), .slice (some ⟨b, 0, none⟩) 256 c] := by
      rw [prs_succ]
      congr 1
      · apply prs_congr
        · intro j hj; unfold wA; rw [getD_app, if_neg (by omega)]
        · intro j hj; unfold wB; rw [upd_ne _ _ _ _ (by omega), upd_ne _ _ _ _ (by omega)]
      · unfold wA wB; rw [getD_app, if_pos rfl, upd_at, upd_at]
    rw [e1, e2]
    exact own_same hw fun x hx => heap_setCell_other _ _ _ _ (fun e => by
      have hx2 : g2 = x := by simpa [Value.ownBlock] using hx
      exact hgp (hx2.trans e))
end
end Go.Proofs.Ytpepbffhhfgdpaa
namespace Go.Proofs.Ytpepbffhhfgdpaa
open Go Go.RowKit
set_option linter.unusedVariables false
set_option linter.unusedSimpArgs false

/-- The first m values of a function. -/
def fl (m : Nat) (f : Nat → Value) : List Value := (List.range m).map f
theorem fl_len (m : Nat) (f : Nat → Value) : (fl m f).length = m := by simp [fl]
theorem fl_get (m : Nat) (f : Nat → Value) (k : Nat) (hk : k < m) : (fl m f)[k]? = some (f k) := by simp [fl, hk]
theorem fl_of {m : Nat} {f : Nat → Value} {k : Nat} {v : Value} (h : (fl m f)[k]? = some v) : k < m ∧ v = f k := by
  have hk : k < m := by have := (List.getElem?_eq_some_iff.1 h).1; rwa [fl_len] at this
  rw [fl_get _ _ _ hk] at h
  exact ⟨hk, by injection h with h; exact h.symm⟩
theorem fl_congr {m : Nat} {f g : Nat → Value} (h : ∀ k, k < m → f k = g k) : fl m f = fl m g := by
  unfold fl
  apply List.map_congr_left
  intro i hi
  exact h i (List.mem_range.mp hi)
theorem fl_add (m k : Nat) (f : Nat → Value) : fl (m + k) f = fl m f ++ fl k fun j => f (m + j) := by
  apply List.ext_getElem?
  intro i
  by_cases h : i < m
  · rw [List.getElem?_append_left (by rw [fl_len]; exact h), fl_get _ _ _ h, fl_get _ _ _ (by omega)]
  · rw [List.getElem?_append_right (by rw [fl_len]; omega), fl_len]
    by_cases h2 : i < m + k
    · rw [fl_get _ _ _ h2, fl_get _ _ _ (by omega), Nat.add_sub_cancel' (by omega)]
    · rw [List.getElem?_eq_none (by rw [fl_len]; omega), List.getElem?_eq_none (by rw [fl_len]; omega)]
theorem fl_vb (l : List UInt8) (n : Nat) (h : l.length = n) : vb l = fl n fun k => .int .u8 ((l.getD k 0).toNat : Int) := by
  apply List.ext_getElem?
  intro i
  rw [List.getElem?_map]
  by_cases hi : i < n
  · rw [fl_get _ _ _ hi, List.getD_eq_getElem?_getD, List.getElem?_eq_getElem (by omega)]; rfl
  · rw [List.getElem?_eq_none (by omega), List.getElem?_eq_none (by rw [fl_len]; omega)]; rfl
/-- Block b, of type t, holds at least m values: those of f. -/
def Fr (w : World) (b : Nat) (t : TypeId) (m : Nat) (f : Nat → Value) : Prop :=
  ∃ cur : Array Value, w.heap[b]? = some (.cells cur t (0, 0)) ∧ m ≤ cur.size ∧ ∀ k, k < m → cur[k]? = some (f k)
/-- Values laid over others. -/
def layF (f : Nat → Value) (o : Nat) (vs : List Value) (k : Nat) : Value := if o ≤ k ∧ k < o + vs.length then (vs[k - o]?).getD undef else f k
/-- Only block g is another one. -/
structure Turn (g : Nat) (w w' : World) : Prop where
  os : w'.os = w.os
  tape : w'.tape = w.tape
  output : w'.output = w.output
  size : w'.heap.size = w.heap.size
  block : ∀ k, k ≠ g → w'.heap[k]? = w.heap[k]?
theorem Turn.refl (g : Nat) (w : World) : Turn g w w := ⟨rfl, rfl, rfl, rfl, fun _ _ => rfl⟩
theorem Turn.trans {g : Nat} {a b c : World} (h : Turn g a b) (k : Turn g b c) : Turn g a c := ⟨k.os.trans h.os, k.tape.trans h.tape, k.output.trans h.output, k.size.trans h.size, fun x hx => (k.block x hx).trans (h.block x hx)⟩
theorem Turn.drew {g : Nat} {a b : World} (h : Turn g a b) : Turn g a b.drew := ⟨h.os, h.tape, h.output, h.size, h.block⟩
theorem Turn.drew1 {g : Nat} {a b : World} (h : Turn g a.drew b) : Turn g a b := ⟨h.os, h.tape, h.output, h.size, h.block⟩
theorem Turn.keep {g : Nat} {L : Nat → Prop} {a b c : World} (h : Keep L a b) (k : Turn g b c) (hg : g < a.heap.size → L g) : Keep L a c :=
  ⟨k.os.trans h.os, k.tape.trans h.tape, k.output.trans h.output, by rw [k.size]; exact h.size, fun x hx hn => (k.block x fun e => hn (by rw [e]; exact hg (by omega))).trans (h.block x hx hn)⟩
theorem Turn.below {g B : Nat} {a b c : World} (h : Below B a b) (k : Turn g b c) (hg : B ≤ g) : Below B a c :=
  ⟨k.os.trans h.os, k.tape.trans h.tape, k.output.trans h.output, by rw [k.size]; exact h.size, fun x hx => (k.block x (by omega)).trans (h.block x hx)⟩
theorem Turn.cell {g : Nat} {a b : World} (h : Turn g a b) {p : Addr} (hp : p.block ≠ g) : b.cell? p = a.cell? p := World.cell?_of_block (h.block _ hp)
theorem turn_setCell (w : World) (b o : Nat) (v : Value) : Turn b w (w.setCell ⟨b, o, none⟩ v) := ⟨rfl, rfl, rfl, by rw [World.size_setCell], fun k hk => heap_setCell_other _ _ _ _ hk⟩
theorem turn_setCells (b : Nat) : ∀ (vs : List Value) (o : Nat) (w : World), Turn b w (w.setCells b o vs)
  | [], _, w => Turn.refl b w
  | v :: vs, o, w => (turn_setCell w b o v).trans (turn_setCells b vs (o + 1) _)
theorem turn_setRow (w : World) (b : Nat) (cs : Array Value) : Turn b w (w.setRow b cs) := ⟨rfl, rfl, rfl, by simp [World.setRow], fun k hk => setRow_other w b k cs hk⟩
section
variable {w w' : World} {b g m : Nat} {t : TypeId} {f f' : Nat → Value}
theorem Fr.lt (h : Fr w b t m f) : b < w.heap.size := by obtain ⟨cur, h1, _⟩ := h; exact (Array.getElem?_eq_some_iff.1 h1).1
theorem Fr.keep (h : Fr w b t m f) (hk : w'.heap[b]? = w.heap[b]?) : Fr w' b t m f := by obtain ⟨cur, h1, h2⟩ := h; exact ⟨cur, hk.trans h1, h2⟩
theorem Fr.call (h : Fr w b t m f) (hb : Below w.heap.size w w') : Fr w' b t m f := h.keep (hb.block _ h.lt)
theorem Fr.turn (h : Fr w b t m f) (ht : Turn g w w') (hn : b ≠ g) : Fr w' b t m f := h.keep (ht.block _ hn)
theorem Fr.congr (h : Fr w b t m f) (e : ∀ k, k < m → f k = f' k) : Fr w b t m f' := by obtain ⟨cur, h1, h2, h3⟩ := h; exact ⟨cur, h1, h2, fun k hk => by rw [h3 k hk, e k hk]⟩
theorem Fr.cellAt (h : Fr w b t m f) (k : Nat) (hk : k < m) : w.cell? ⟨b, k, none⟩ = some (f k) := by obtain ⟨cur, h1, _, h3⟩ := h; rw [cell_of_row _ _ _ _ _ _ h1]; exact h3 k hk
theorem Fr.free (h : Fr w b t m f) (k : Nat) : w.frozen? ⟨b, k, none⟩ = false := by obtain ⟨cur, h1, _⟩ := h; exact frozen_of_row _ _ _ _ _ h1
theorem Fr.range (h : Fr w b t m f) (o n : Nat) (ho : o + n ≤ m) : w.rangeAt b o (fl n fun j => f (o + j)) := fun j v hj => by
  obtain ⟨hk, rfl⟩ := fl_of hj
  exact h.cellAt _ (by omega)
theorem Fr.there (h : Fr w b t m f) (o n : Nat) (ho : o + n ≤ m) : w.there b o n := fun j hj => by
  rw [h.cellAt _ (by omega)]
  exact ⟨rfl, h.free _⟩
theorem Fr.rd (h : Fr w b t m f) : Rd w w.heap.size (some ⟨b, 0, none⟩) (fl m f) := fun _ => ⟨_, rfl, h.lt, fun j u hj => by
  obtain ⟨hk, rfl⟩ := fl_of hj
  rw [head_add]; exact h.cellAt _ hk⟩
theorem Fr.setCell (h : Fr w b t m f) (o : Nat) (ho : o < m) (v : Value) : Fr (w.setCell ⟨b, o, none⟩ v) b t m (fun k => if k = o then v else f k) := by
  obtain ⟨cur, h1, h2, h3⟩ := h
  refine ⟨_, heap_setCell_same _ _ _ _ _ _ h1, by rw [Array.size_setIfInBounds]; exact h2, fun k hk => ?_⟩
  rw [Array.getElem?_setIfInBounds]
  by_cases e : o = k
  · subst e
    rw [if_pos rfl, if_pos (by omega)]
    show some v = some (if o = o then v else f o)
    rw [if_pos rfl]
  · rw [if_neg e]
    show _ = some (if k = o then v else f k)
    rw [if_neg (fun h => e h.symm)]; exact h3 k hk
theorem Fr.setCells : ∀ (vs : List Value) (o : Nat) (w : World) (f : Nat → Value), Fr w b t m f → o + vs.length ≤ m → Fr (w.setCells b o vs) b t m (layF f o vs)
  | [], o, w, f, h, _ => h.congr fun k _ => by unfold layF; rw [if_neg (by simp)]
  | v :: vs, o, w, f, h, ho => by
    simp only [List.length_cons] at ho
    refine (Fr.setCells vs (o + 1) _ _ (h.setCell o (by omega) v) (by omega)).congr fun k hk => ?_
    unfold layF
    simp only [List.length_cons]
    by_cases e : k = o
    · subst e
      rw [if_neg (by omega), if_pos rfl, if_pos (by omega), Nat.sub_self]; rfl
    · by_cases e2 : o + 1 ≤ k ∧ k < o + 1 + vs.length
      · rw [if_pos e2, if_pos (by omega), show k - o = (k - (o + 1)) + 1 from by omega]; rfl
      · rw [if_neg e2, if_neg e, if_neg (by omega)]
theorem Fr.size_setCells : ∀ (vs : List Value) (o : Nat) (w : World) (cs : Array Value) (t : TypeId) (b : Nat), w.heap[b]? = some (.cells cs t (0, 0)) → ∃ cur : Array Value, (w.setCells b o vs).heap[b]? = some (.cells cur t (0, 0)) ∧ cur.size = cs.size
  | [], _, _, cs, _, _, h => ⟨cs, h, rfl⟩
  | v :: vs, o, w, cs, t, b, h => by
    obtain ⟨cur, h1, h2⟩ := Fr.size_setCells vs (o + 1) (w.setCell ⟨b, o, none⟩ v) _ t b (heap_setCell_same _ _ _ _ _ _ h)
    exact ⟨cur, h1, by rw [h2, Array.size_setIfInBounds]⟩
theorem Fr.splice (h : Fr w b t m f) (o : Nat) (vs : List Value) (ho : o + vs.length ≤ m) (cur : List Value) (h1 : w.heap[b]? = some (.cells cur.toArray t (0, 0))) : Fr (w.setRow b (splice cur o vs).toArray) b t m (layF f o vs) := by
  obtain ⟨cur', h1', h2, h3⟩ := h
  rw [h1] at h1'
  injection h1' with h1'
  injection h1' with e1
  subst e1
  have h2' : m ≤ cur.length := by simpa using h2
  have hl : o + vs.length ≤ cur.length := by omega
  refine ⟨_, setRow_heap _ _ _ _ _ _ h1, by rw [List.size_toArray, length_splice _ _ _ hl]; exact h2', fun k hk => ?_⟩
  have h3 := h3 k hk
  rw [List.getElem?_toArray] at h3 ⊢
  unfold Go.splice layF
  by_cases e : k < o
  · rw [List.getElem?_append_left (by simp; omega), List.getElem?_take, if_pos e, if_neg (by omega)]; exact h3
  · rw [List.getElem?_append_right (by simp; omega)]
    have e4 : (List.take o cur).length = o := by simp; omega
    rw [e4]
    by_cases e2 : k < o + vs.length
    · rw [List.getElem?_append_left (by omega), if_pos (by omega), List.getElem?_eq_getElem (by omega)]; rfl
    · rw [List.getElem?_append_right (by omega), if_neg (by omega), List.getElem?_drop, show o + vs.length + (k - o - vs.length) = k from by omega]; exact h3
theorem Fr.new (w : World) (cs : List Value) (t : TypeId) (m : Nat) (hm : m ≤ cs.length) : Fr (w.alloc (.cells cs.toArray t)) w.heap.size t m (fun k => (cs[k]?).getD undef) :=
  ⟨_, heap_alloc_new w _, by simpa using hm, fun k hk => by
    show _ = some ((cs[k]?).getD undef)
    rw [List.getElem?_toArray, List.getElem?_eq_getElem (show k < cs.length by omega)]; rfl⟩
theorem Fr.of_own {base n sz c : Nat} {A : Option Addr} (h : w.ownsRow base t sz (.slice A n c) n (fl m f)) (hm : m = n * sz) (hn : 0 < n) : ∃ b, A = some ⟨b, 0, none⟩ ∧ base ≤ b ∧ Fr w b t m f := by
  subst hm
  obtain ⟨_, hv⟩ := h
  rcases hv with ⟨_, h0⟩ | ⟨g, cap, cur, e, hg, hh, hc, _, hs, ht⟩
  · omega
  · injection e with e1 _ _
    refine ⟨g, e1, hg, cur, hh, by rw [hs]; exact Nat.mul_le_mul_right _ hc, fun j hj => ?_⟩
    have h1 := fl_get (n * sz) f j hj
    rw [← ht, List.getElem?_take, if_pos hj] at h1
    rw [← Array.getElem?_toList]; exact h1
end
/-- A value of several cells, wherever it lies. -/
theorem yieldsIf_load_at {P : Program} {ops : Array Oper} {S : World → Prop} {op : Oper} {a : Act} (hw : Region.wanted op (yielded ops a.tmps) = true) (ty : TypeId) (x : Operand) (ho : op.op = .load ty x)
    (ad : Addr) (hx : a.eval x = .pointer (some ad)) (cs : List Value) (d : TypeDesc) (hS : ∀ w, S w → ∀ j v, cs[j]? = some v → w.cell? (ad.add j) = some v)
    (hu : P.underlying ty = some d) (hd : d.isRow = true) (hi : (P.info? ty).map (·.size) = some cs.length) : YieldsIf P ops S op (.agg cs.toArray) a :=
  .inl ⟨hw, fun w hw' => by
    have hl : (loadCells ad cs.length).run P w = .ok cs.toArray w := run_loadCells_list (P := P) w ad cs (hS w hw')
    have hv : (loadVar ty ad).run P w = .ok (.agg cs.toArray) w := by
      cases hq : P.info? ty with
      | none => simp [hq] at hi
      | some i =>
        have hs : i.size = cs.length := by simpa [hq] using hi
        have hagg : (isAgg ty).run P w = .ok true w := by
          unfold isAgg
          rw [Sem.run_bind, run_underlying hu w]
          cases d <;> simp_all
        simp [loadVar, Sem.run_bind, hagg, sizeOf, typeInfo, hq, hs, hl]
    unfold execOp
    simp only [ho, hx, Instr.loadAt, Instr.sureAddr, Sem.run_bind, Sem.run_pure, Result.andThen_ok, hv]⟩
/-- copy into the midst of a row. -/
theorem wpList_copy_fr {P : Program} {w : World} {ops : Array Oper} {rest : List Oper} {o : Oper} {a : Act} {Q : Exit → Act → World → Prop} (hgd : o.guard = none) (d s : Operand) (dT sT : TypeId)
    (ho : o.op = .call { callee := .builtin .copy, args := #[d, s], argTypes := #[dT, sT] }) (elem : TypeId) (hu : P.underlying dT = some (.slice elem)) (hsz : (P.info? elem).map (·.size) = some 1)
    (dp sp : Option Addr) (dLen dCap sLen sCap : Nat) (hd : a.eval d = .slice dp dLen dCap) (hs : a.eval s = .slice sp sLen sCap)
    (g off m : Nat) (t : TypeId) (f : Nat → Value) (hF : Fr w g t m f) (cs : List Value) (hn : cs.length = Nat.min sLen dLen)
    (hpos : 0 < cs.length → dp = some ⟨g, off, none⟩ ∧ ∃ ad, sp = some ad ∧ ∀ j v, cs[j]? = some v → w.cell? (ad.add j) = some v)
    (hfit : off + cs.length ≤ m) (h1 : ∀ v ∈ cs, v.oneCell' = true)
    (h : ∀ w', Hid (Fr w' g t m (layF f off cs)) → Hid (Turn g w w') → wpList P ops Q rest (a.put o.dst (goInt cs.length)) w') :
    wpList P ops Q (o :: rest) a w := by
  by_cases h0 : cs.length = 0
  · obtain rfl : cs = [] := List.eq_nil_of_length_eq_zero h0
    refine wpList_copy_nothing hgd d s dT sT ho elem hu hsz dp sp dLen dCap sLen sCap hd hs (by simpa using hn.symm) ?_
    exact h w (Lib.hid (hF.congr fun k _ => by unfold layF; rw [if_neg (by simp)])) (Lib.hid (Turn.refl g w))
  · obtain ⟨rfl, ad, rfl, hsrc⟩ := hpos (by omega)
    obtain ⟨cur, hc, hcm, _⟩ := id hF
    obtain ⟨cl, rfl⟩ : ∃ cl : List Value, cur = cl.toArray := ⟨cur.toList, by simp⟩
    refine wpList_copy_own hgd d s dT sT ho elem hu hsz g off dLen dCap ad sLen sCap hd hs cl.toArray t hc cs hn hsrc (by simp at hcm ⊢; omega) h1 ?_
    have := h (w.setRow g (splice cl off cs).toArray) (Lib.hid (hF.splice off cs hfit cl hc)) (Lib.hid (turn_setRow _ _ _))
    simpa [splice] using this
theorem step_copy_fr {P : Program} {ops : Array Oper} {o : Oper} {a : Act} {w : World} {K : Act → World → Prop} {Q : Exit → Act → World → Prop} {E : Prop} (hgd : o.guard = none) (d s : Operand) (dT sT : TypeId)
    (ho : o.op = .call { callee := .builtin .copy, args := #[d, s], argTypes := #[dT, sT] }) (elem : TypeId) (hu : P.underlying dT = some (.slice elem)) (hsz : (P.info? elem).map (·.size) = some 1)
    (g off dLen dCap : Nat) (ad : Addr) (sLen sCap : Nat) (hd : a.eval d = .slice (some ⟨g, off, none⟩) dLen dCap) (hs : a.eval s = .slice (some ad) sLen sCap)
    (m : Nat) (t : TypeId) (f : Nat → Value) (hF : Fr w g t m f) (cs : List Value) (hn : cs.length = Nat.min sLen dLen)
    (hsrc : ∀ j v, cs[j]? = some v → w.cell? (ad.add j) = some v)
    (hfit : off + cs.length ≤ m) (h1 : ∀ v ∈ cs, v.oneCell' = true)
    (h : ∀ w', Hid (Fr w' g t m (layF f off cs)) → Hid (Turn g w w') → K (a.put o.dst (goInt cs.length)) w') :
    if Region.wanted o (yielded ops a.tmps) = true then Oper.wp P o a w K Q else E := by
  have hw : Region.wanted o (yielded ops a.tmps) = true := by simp [Region.wanted, hgd]
  rw [if_pos hw]
  obtain ⟨cur, hc, hcm, _⟩ := id hF
  obtain ⟨cl, rfl⟩ : ∃ cl : List Value, cur = cl.toArray := ⟨cur.toList, by simp⟩
  have hrun := run_copy_row (P := P) w dT sT o.type elem g off dLen dCap ad sLen sCap cl.toArray t cs hu hsz hc hn hsrc (by simp at hcm ⊢; omega) h1
  unfold Oper.wp
  simp [execOp, ho, resolve, invoke, builtin, hd, hs, hrun, Result.andThen]
  have hh := h (w.setRow g (splice cl off cs).toArray) (Lib.hid (hF.splice off cs hfit cl hc)) (Lib.hid (turn_setRow _ _ _))
  simp only [splice] at hh
  exact hh
/-- 'make([]T, l)', of elements of several cells: the block that is made. -/
theorem run_make_fr {P : Program} (w : World) (t e : TypeId) (i : TypeInfo) (z : Value) (h1 : P.underlying t = some (.slice e)) (h2 : P.info? e = some i) (h3 : i.zero = some z) (c : Nat) (hb : i.bytes * c ≤ 281474976710656) (hc : c ≤ maxLen)
    (v : Value) (hz : ∀ x ∈ z.cells.toList, x = v) (hs : z.cells.size = i.size) (hp : 0 < i.size) :
    ∃ w', (Instr.makeSlice t (.int .i64 (c : Int)) (.int .i64 (c : Int))).run P w = .ok (.slice (some ⟨w.heap.size, 0, none⟩) c c) w' ∧ Fr w' w.heap.size e (c * i.size) (fun _ => v) ∧ Below w.heap.size w w' ∧ w'.heap.size = w.heap.size + 1 := by
  have hm : (c : Int) ≤ 9223372036854775807 := by have h := hc; simp [maxLen] at h; omega
  have hb' : (i.bytes : Int) * (c : Int) ≤ 281474976710656 := by
    have h : ((i.bytes * c : Nat) : Int) ≤ 281474976710656 := by omega
    rwa [Int.natCast_mul] at h
  have hr := run_make (P := P) w t e i z h1 h2 h3 .i64 .i64 c c (by omega) (Int.le_refl _) hb' hm
  simp only [Int.toNat_natCast] at hr
  refine ⟨_, hr, ⟨_, heap_alloc_new w _, by rw [size_madeCells]; exact Nat.le_refl _, fun k hk => ?_⟩, (Below.refl _ _).alloc (Nat.le_refl _) _, by rw [World.size_alloc]⟩
  have hv : ∀ j, j < z.cells.size → z.cells[j]? = some v := fun j hj => by
    rw [Array.getElem?_eq_getElem hj, hz z.cells[j] (by simp)]
  have h0 : 0 < z.cells.size := by omega
  unfold madeCells
  rw [Array.getElem?_map, Array.getElem?_range, if_pos hk]
  have := hv (k % z.cells.size) (Nat.mod_lt _ h0)
  simp [Array.getD, Nat.mod_lt _ h0] at this ⊢
  exact this
end Go.Proofs.Ytpepbffhhfgdpaa
namespace Go.Proofs.Ytpepbffhhfgdpaa
open Go Go.RowKit
set_option linter.unusedVariables false
set_option linter.unusedSimpArgs false

/-- How much a device has been asked. -/
def Dev.load (D : Dev) : Nat := max D.waits.length D.steps
theorem load_waits (D : Dev) : D.waits.length ≤ D.load := Nat.le_max_left _ _
theorem load_steps (D : Dev) : D.steps ≤ D.load := Nat.le_max_right _ _
theorem load_le {D : Dev} {m : Nat} (h1 : D.waits.length ≤ m) (h2 : D.steps ≤ m) : D.load ≤ m := Nat.max_le.2 ⟨h1, h2⟩
theorem load_new (n : Nat) : (Dev.new n).load = 0 := rfl
theorem steps_step (D : Dev) : D.step.steps ≤ D.steps + 1 := by
  unfold Dev.step
  split
  · exact Nat.le_succ _
  · exact Nat.mod_le _ _
theorem waits_stepE (D : Dev) : D.step.waits = D.waits := by unfold Dev.step; split <;> rfl
theorem load_step (D : Dev) : D.step.load ≤ D.load + 1 := load_le (by rw [waits_stepE]; have := load_waits D; omega) (by have := load_steps D; have := steps_step D; omega)
theorem load_write (D : Dev) (n : Nat) (i : Int) (l : List UInt8) : (D.write n i l).load ≤ D.load + 1 := by
  unfold Dev.write
  split
  · split
    · refine load_le ?_ (by show D.step.steps ≤ _; have := load_steps D; have := steps_step D; omega)
      show (D.step.waits ++ [(i.toNat, l)]).length ≤ _
      rw [waits_stepE, List.length_append]
      have := load_waits D
      simp; omega
    · exact load_step D
  · omega
theorem load_sync (D : Dev) : D.sync.load ≤ D.load + 1 := by
  unfold Dev.sync
  split
  · exact load_le (Nat.zero_le _) (by show D.step.steps ≤ _; have := load_steps D; have := steps_step D; omega)
  · exact load_step D
theorem load_crash (D : Dev) (ms : List Nat) : (D.crash ms).load ≤ D.load := load_le (Nat.zero_le _) (load_steps D)
theorem load_foreign (D : Dev) (n : Nat) (i a : Int) (b : List UInt8) : (D.foreign n i a b).load = D.load := by unfold Dev.foreign; split <;> rfl

/-- The byte of blocks at a place, and what waits. -/
def bF (M : List (List UInt8)) (k : Nat) : Value := .int .u8 (((M.getD (k / 256) []).getD (k % 256) 0).toNat : Int)
def wF (W : List (Nat × List UInt8)) (k : Nat) : Value := if k % 257 = 0 then .int .i64 ((W.getD (k / 257) (0, [])).1 : Int) else .int .u8 (((W.getD (k / 257) (0, [])).2.getD (k % 257 - 1) 0).toNat : Int)
theorem bF_one (M : List (List UInt8)) (k : Nat) : (bF M k).oneCell' = true := rfl
theorem wF_one (W : List (Nat × List UInt8)) (k : Nat) : (wF W k).oneCell' = true := by unfold wF; split <;> rfl
/-- One block of them. -/
theorem bF_block (M : List (List UInt8)) (i : Nat) (h : (M.getD i []).length = 256) : fl 256 (fun j => bF M (i * 256 + j)) = vb (M.getD i []) := by
  rw [fl_vb _ 256 h]
  refine fl_congr fun k hk => ?_
  unfold bF
  rw [show (i * 256 + k) / 256 = i from by omega, show (i * 256 + k) % 256 = k from by omega]
theorem bF_set (M : List (List UInt8)) (i n : Nat) (l : List UInt8) (hl : l.length = 256) (hi : i < M.length) : ∀ k, layF (bF M) (i * 256) (vb l) k = bF (M.set i l) k := by
  intro k
  unfold layF bF
  rw [List.length_map, hl, getD_set]
  by_cases h : i * 256 ≤ k ∧ k < i * 256 + 256
  · rw [if_pos h, show k / 256 = i from by omega, if_pos ⟨rfl, hi⟩, show k % 256 = k - i * 256 from by omega, List.getElem?_map, List.getElem?_eq_getElem (by omega), List.getD_eq_getElem?_getD, List.getElem?_eq_getElem (by omega)]; rfl
  · rw [if_neg h, if_neg (fun e => h (by have := e.1; omega))]
theorem bF_over (M : List (List UInt8)) (i a : Nat) (b : List UInt8) (hi : i < M.length) (hl : (M.getD i []).length = 256) (ha : a + b.length ≤ 256) : ∀ k, layF (bF M) (i * 256 + a) (vb b) k = bF (M.set i (over8 (M.getD i []) a b)) k := by
  intro k
  unfold layF bF
  rw [List.length_map]
  by_cases h : k / 256 = i
  · rw [show (M.set i (over8 (M.getD i []) a b)).getD (k / 256) [] = over8 (M.getD i []) a b from by rw [getD_set, if_pos ⟨h, hi⟩], h]
    have e : (over8 (M.getD i []) a b).getD (k % 256) 0 = if a ≤ k % 256 ∧ k % 256 < a + b.length then b.getD (k % 256 - a) 0 else (M.getD i []).getD (k % 256) 0 := by
      unfold over8
      rw [List.getD_eq_getElem?_getD, List.getElem?_map, List.getElem?_range (by rw [hl]; omega)]; rfl
    rw [e]
    by_cases h2 : a ≤ k % 256 ∧ k % 256 < a + b.length
    · rw [if_pos h2, if_pos (by omega), show k - (i * 256 + a) = k % 256 - a from by omega, List.getElem?_map, List.getElem?_eq_getElem (by omega), List.getD_eq_getElem?_getD, List.getElem?_eq_getElem (by omega)]; rfl
    · rw [if_neg h2, if_neg (by omega)]
  · rw [show (M.set i (over8 (M.getD i []) a b)).getD (k / 256) [] = M.getD (k / 256) [] from by rw [getD_set, if_neg (fun e => h e.1)], if_neg (by omega)]
/-- One that waits. -/
def wL (x : Nat × List UInt8) : List Value := .int .i64 (x.1 : Int) :: vb x.2
theorem wL_len (x : Nat × List UInt8) (h : x.2.length = 256) : (wL x).length = 257 := by simp [wL, h]
theorem wL_one (x : Nat × List UInt8) : ∀ v ∈ wL x, v.oneCell' = true := by
  intro v hv
  rcases List.mem_cons.1 hv with rfl | hv
  · rfl
  · obtain ⟨b, _, rfl⟩ := List.mem_map.1 hv; rfl
theorem wF_at (W : List (Nat × List UInt8)) (k : Nat) (h : (W.getD k (0, [])).2.length = 256) : fl 257 (fun j => wF W (k * 257 + j)) = wL (W.getD k (0, [])) := by
  apply List.ext_getElem?
  intro j
  by_cases hj : j < 257
  · rw [fl_get _ _ _ hj]
    unfold wF wL
    rw [show (k * 257 + j) / 257 = k from by omega, show (k * 257 + j) % 257 = j from by omega]
    rcases j with _ | j
    · rfl
    · rw [if_neg (by omega), List.getElem?_cons_succ, List.getElem?_map, Nat.add_sub_cancel, List.getElem?_eq_getElem (by omega), List.getD_eq_getElem?_getD, List.getElem?_eq_getElem (by omega)]; rfl
  · rw [List.getElem?_eq_none (by rw [fl_len]; omega), List.getElem?_eq_none (by rw [wL_len _ h]; omega)]
theorem wF_add (W : List (Nat × List UInt8)) (x : Nat × List UInt8) (h : x.2.length = 256) : fl (W.length * 257) (wF W) ++ wL x = fl ((W ++ [x]).length * 257) (wF (W ++ [x])) := by
  have e : (W ++ [x]).length * 257 = W.length * 257 + 257 := by rw [List.length_append]; simp; omega
  rw [e, fl_add]
  congr 1
  · refine fl_congr fun k hk => ?_
    unfold wF
    rw [show (W ++ [x]).getD (k / 257) (0, []) = W.getD (k / 257) (0, []) from by rw [getD_app, if_neg (by omega)]]
  · rw [wF_at _ _ (by rw [getD_app, if_pos rfl]; exact h), getD_app, if_pos rfl]

/-- Where the code's device lies, and how it counts. -/
structure Cs where
  bn : Nat
  cn : Nat
  bf : Nat
  cf : Nat
  wv : Value
  fl : Nat
  cu : Bool
  la : Nat
abbrev cCells (S : Cs) (n : Nat) (D : Dev) : Array Value := #[.slice (some ⟨S.bn, 0, none⟩) n S.cn, .slice (some ⟨S.bf, 0, none⟩) n S.cf, S.wv, .int .u64 (D.steps : Int), .int .u64 (S.fl : Int), .bool S.cu, .int .u64 (S.la : Int), .bool D.down]
structure CDs (S : Cs) (w : World) (d : Nat) (L : Nat → Prop) (n : Nat) (D : Dev) : Prop where
  ok : D.Ok n
  n4 : 0 < n ∧ n ≤ 4096
  cc : n ≤ S.cn ∧ n ≤ S.cf
  ss : D.steps < 9223372036854775808
  rf : D.fail = S.fl - D.steps ∧ S.fl < 18446744073709551616
  rc : D.cut = (if S.cu = true then ((S.la - D.steps : Nat) : Int) else -1) ∧ S.la < 18446744073709551616
  inv : ∀ i, i < n → (∀ k, k < D.waits.length → (D.waits.getD k (0, [])).1 ≠ i) → D.now.getD i [] = D.firm.getD i []
  hp : w.heap[d]? = some (.cells (cCells S n D) 69 (0, 0))
  ld : L d ∧ L S.bn ∧ L S.bf
  ne : S.bn ≠ d ∧ S.bf ≠ d ∧ S.bn ≠ S.bf
  lw : ∀ b, S.wv.ownBlock = some b → L b ∧ b ≠ d ∧ b ≠ S.bn ∧ b ≠ S.bf
  rn : Fr w S.bn 81 (n * 256) (bF D.now)
  rr : Fr w S.bf 81 (n * 256) (bF D.firm)
  ww : w.ownsRow 0 83 257 S.wv D.waits.length (fl (D.waits.length * 257) (wF D.waits))
  lt : ∀ b, L b → b < w.heap.size
def CD (w : World) (d : Nat) (L : Nat → Prop) (n : Nat) (D : Dev) : Prop := ∃ S, CDs S w d L n D
section
variable {S : Cs} {w w' : World} {d n : Nat} {L M : Nat → Prop} {D : Dev}
theorem CDs.c0 (h : CDs S w d L n D) : w.cell? ⟨d, 0, none⟩ = some (.slice (some ⟨S.bn, 0, none⟩) n S.cn) := by rw [cell_of_row _ _ _ _ _ _ h.hp]; rfl
theorem CDs.c1 (h : CDs S w d L n D) : w.cell? ⟨d, 1, none⟩ = some (.slice (some ⟨S.bf, 0, none⟩) n S.cf) := by rw [cell_of_row _ _ _ _ _ _ h.hp]; rfl
theorem CDs.c2 (h : CDs S w d L n D) : w.cell? ⟨d, 2, none⟩ = some S.wv := by rw [cell_of_row _ _ _ _ _ _ h.hp]; rfl
theorem CDs.c3 (h : CDs S w d L n D) : w.cell? ⟨d, 3, none⟩ = some (.int .u64 (D.steps : Int)) := by rw [cell_of_row _ _ _ _ _ _ h.hp]; rfl
theorem CDs.c4 (h : CDs S w d L n D) : w.cell? ⟨d, 4, none⟩ = some (.int .u64 (S.fl : Int)) := by rw [cell_of_row _ _ _ _ _ _ h.hp]; rfl
theorem CDs.c5 (h : CDs S w d L n D) : w.cell? ⟨d, 5, none⟩ = some (.bool S.cu) := by rw [cell_of_row _ _ _ _ _ _ h.hp]; rfl
theorem CDs.c6 (h : CDs S w d L n D) : w.cell? ⟨d, 6, none⟩ = some (.int .u64 (S.la : Int)) := by rw [cell_of_row _ _ _ _ _ _ h.hp]; rfl
theorem CDs.c7 (h : CDs S w d L n D) : w.cell? ⟨d, 7, none⟩ = some (.bool D.down) := by rw [cell_of_row _ _ _ _ _ _ h.hp]; rfl
theorem CDs.free (h : CDs S w d L n D) (j : Nat) : w.frozen? ⟨d, j, none⟩ = false := frozen_of_row _ _ _ _ _ h.hp
theorem CDs.keep' (h : CDs S w d L n D) (hk : ∀ b, L b → w'.heap[b]? = w.heap[b]?) (hs : w.heap.size ≤ w'.heap.size) : CDs S w' d L n D :=
  ⟨h.ok, h.n4, h.cc, h.ss, h.rf, h.rc, h.inv, (hk _ h.ld.1).trans h.hp, h.ld, h.ne, h.lw, h.rn.keep (hk _ h.ld.2.1), h.rr.keep (hk _ h.ld.2.2), own_same h.ww fun b hb => hk b (h.lw b hb).1, fun b hb => Nat.lt_of_lt_of_le (h.lt b hb) hs⟩
theorem CDs.keep (h : CDs S w d L n D) (hk : Keep M w w') (hd : ∀ b, L b → ¬ M b) : CDs S w' d L n D := h.keep' (fun b hb => hk.block b (h.lt b hb) (hd b hb)) hk.size
theorem CDs.call (h : CDs S w d L n D) (hb : Below w.heap.size w w') : CDs S w' d L n D := h.keep' (fun b hL => hb.block b (h.lt b hL)) hb.size
theorem CDs.more (h : CDs S w d L n D) (hM : ∀ b, L b → M b) (hlt : ∀ b, M b → b < w.heap.size) : CDs S w d M n D :=
  ⟨h.ok, h.n4, h.cc, h.ss, h.rf, h.rc, h.inv, h.hp, ⟨hM _ h.ld.1, hM _ h.ld.2.1, hM _ h.ld.2.2⟩, h.ne, fun b hb => ⟨hM _ (h.lw b hb).1, (h.lw b hb).2⟩, h.rn, h.rr, h.ww, hlt⟩
/-- Only the struct's own cells are others. -/
theorem CDs.setp {S' : Cs} {D' : Dev} (h : CDs S w d L n D) (e1 : D'.now = D.now) (e2 : D'.firm = D.firm) (e3 : D'.waits = D.waits) (es : S'.bn = S.bn ∧ S'.cn = S.cn ∧ S'.bf = S.bf ∧ S'.cf = S.cf ∧ S'.wv = S.wv)
    (hs : D'.steps < 9223372036854775808) (hf : D'.fail = S'.fl - D'.steps ∧ S'.fl < 18446744073709551616 ∧ D'.fail ≤ 9223372036854775807) (hc : D'.cut = (if S'.cu = true then ((S'.la - D'.steps : Nat) : Int) else -1) ∧ S'.la < 18446744073709551616 ∧ D'.cut ≤ 9223372036854775807)
    (hp : w'.heap[d]? = some (.cells (cCells S' n D') 69 (0, 0)))
    (ht : Turn d w w') : CDs S' w' d L n D' := by
  obtain ⟨b1, b2, b3, b4, b5⟩ := es
  refine ⟨⟨by rw [e1]; exact h.ok.nl, by rw [e2]; exact h.ok.fl, by rw [e1]; exact h.ok.nr, by rw [e2]; exact h.ok.fr, by rw [e3]; exact h.ok.wl, hf.2.2, ⟨?_, hc.2.2⟩, by omega⟩, h.n4, by rw [b2, b4]; exact h.cc, hs, ⟨hf.1, hf.2.1⟩, ⟨hc.1, hc.2.1⟩, by rw [e1, e2, e3]; exact h.inv, hp, by rw [b1, b3]; exact h.ld, by rw [b1, b3]; exact h.ne, by rw [b1, b3, b5]; exact h.lw, ?_, ?_, ?_, fun b hb => by rw [ht.size]; exact h.lt b hb⟩
  · rw [hc.1]; split <;> omega
  · rw [b1, e1]; exact h.rn.turn ht h.ne.1
  · rw [b3, e2]; exact h.rr.turn ht h.ne.2.1
  · rw [b5, e3]; exact own_same h.ww fun b hb => ht.block b (h.lw b hb).2.1
end
theorem CD.keep {w w' : World} {d n : Nat} {L M : Nat → Prop} {D : Dev} (h : CD w d L n D) (hk : Keep M w w') (hd : ∀ b, L b → ¬ M b) : CD w' d L n D := by obtain ⟨S, h⟩ := h; exact ⟨S, h.keep hk hd⟩
theorem CD.call {w w' : World} {d n : Nat} {L : Nat → Prop} {D : Dev} (h : CD w d L n D) (hb : Below w.heap.size w w') : CD w' d L n D := by obtain ⟨S, h⟩ := h; exact ⟨S, h.call hb⟩
theorem CD.lt {w : World} {d n : Nat} {L : Nat → Prop} {D : Dev} (h : CD w d L n D) : ∀ b, L b → b < w.heap.size := by obtain ⟨S, h⟩ := h; exact h.lt
theorem CD.ok {w : World} {d n : Nat} {L : Nat → Prop} {D : Dev} (h : CD w d L n D) : D.Ok n := by obtain ⟨S, h⟩ := h; exact h.ok
theorem CD.more {w : World} {d n : Nat} {L M : Nat → Prop} {D : Dev} (h : CD w d L n D) (hM : ∀ b, L b → M b) (hlt : ∀ b, M b → b < w.heap.size) : CD w d M n D := by obtain ⟨S, h⟩ := h; exact ⟨S, h.more hM hlt⟩
/-- What Foreign answers; what Firm tells. -/
def forE (n : Nat) (i at_ : Int) (len : Nat) : Nat := if forB n i at_ len = true then 0 else 2
def Dev.firmE (n : Nat) (i : Int) : Nat := if hasB n i = true then 0 else 2
def Dev.firmB (D : Dev) (n : Nat) (i : Int) : List UInt8 := if hasB n i = true then D.firm.getD i.toNat [] else []
theorem ext_lt {L : Nat → Prop} {w w' : World} (h : ∀ b, L b → b < w.heap.size) (hs : w.heap.size ≤ w'.heap.size) : ∀ b, ext L w w' b → b < w'.heap.size := fun b hb => hb.elim (fun h1 => Nat.lt_of_lt_of_le (h b h1) hs) fun h1 => h1.2
theorem CDs.ext {S : Cs} {w w0 : World} {d n : Nat} {L : Nat → Prop} {D : Dev} (h : CDs S w d L n D) (hlt : ∀ b, L b → b < w0.heap.size) (hs : w0.heap.size ≤ w.heap.size) : CD w d (ext L w0 w) n D := ⟨S, h.more (fun _ h => .inl h) (ext_lt hlt hs)⟩
theorem Turn.keepL {g : Nat} {L : Nat → Prop} {a b : World} (h : Turn g a b) (hg : L g) : Keep L a b := Turn.keep (Keep.refl _ _) h fun _ => hg
end Go.Proofs.Ytpepbffhhfgdpaa
namespace Go.Proofs.Ytpepbffhhfgdpaa
open Go Go.RowKit
set_option linter.unusedVariables false
set_option linter.unusedSimpArgs false

set_option maxRecDepth 100000 in
set_option maxHeartbeats 4000000 in
theorem cdhas_any (S : Cs) (w : World) (d n : Nat) (L : Nat → Prop) (D : Dev) (i : Int) (h : CDs S w d L n D) :
    Calls Try.prog 49 #[.pointer (some ⟨d, 0, none⟩), .int .i64 i] w fun e w' => e = .returned (.bool (hasB n i)) ∧ w' = w := by
  have d0 := h.c0
  have hn4 := h.n4.2
  clear h
  by_cases h0 : 0 ≤ i
  · by_cases h1 : i < (n : Int)
    · rw [show hasB n i = true from by simp [hasB, h0, h1]]
      go_enter Try.func49, Try.ntmps49
      go_wp2_with fail
      go_ret
      exact ⟨rfl, rfl⟩
    · rw [show hasB n i = false from by simp [hasB, h1]]
      go_enter Try.func49, Try.ntmps49
      go_wp2_with fail
      go_ret
      exact ⟨rfl, rfl⟩
  · rw [show hasB n i = false from by simp [hasB, h0]]
    go_enter Try.func49, Try.ntmps49
    go_wp2_with fail
    go_ret
    exact ⟨rfl, rfl⟩
section
variable (w : World) (d n : Nat) (L : Nat → Prop) (D : Dev)
set_option maxRecDepth 100000 in
theorem cdsteps_any (h : CD w d L n D) : Calls Try.prog 25 #[.pointer (some ⟨d, 0, none⟩)] w fun e w' => e = .returned (.int .u64 (D.steps : Int)) ∧ Below w.heap.size w w' := by
  obtain ⟨S, h⟩ := h
  have d0 := h.c3
  clear h
  go_enter Try.func25, Try.ntmps25
  go_wp2_with fail
  go_ret
  exact ⟨rfl, Below.refl _ _⟩
theorem wv_form {S : Cs} {w : World} {d n : Nat} {L : Nat → Prop} {D : Dev} (h : CDs S w d L n D) : ∃ A c, S.wv = .slice A D.waits.length c ∧ D.waits.length ≤ c ∧ Rd w w.heap.size A (fl (D.waits.length * 257) (wF D.waits)) := by
  have hww := h.ww
  obtain ⟨hn, hv⟩ := id hww
  rcases hv with ⟨e, h0⟩ | ⟨g, cap, cur, e, hg, hh, hc, hcm, hs, ht⟩
  · exact ⟨none, 0, by rw [e, h0], by omega, fun h1 => by rw [fl_len, h0] at h1; omega⟩
  · refine ⟨some ⟨g, 0, none⟩, cap, e, hc, fun _ => ⟨_, rfl, (Array.getElem?_eq_some_iff.1 hh).1, fun j u hj => ?_⟩⟩
    exact World.ownsRow.cells hww (g := g) (by rw [e]; rfl) j u hj
set_option maxRecDepth 100000 in
theorem cddown_any (h : CD w d L n D) : Calls Try.prog 26 #[.pointer (some ⟨d, 0, none⟩)] w fun e w' => e = .returned (.bool D.down) ∧ Below w.heap.size w w' := by
  obtain ⟨S, h⟩ := h
  have d0 := h.c7
  clear h
  go_enter Try.func26, Try.ntmps26
  go_wp2_with fail
  go_ret
  exact ⟨rfl, Below.refl _ _⟩
end
abbrev z256 : Array Value := (fl 256 fun _ => .int .u8 0).toArray
theorem zeroBlock (w : World) : (zeroValue 81).run Try.prog w = .ok (.agg z256) w := by kernel_rfl
theorem block_size : (Try.prog.info? 81).map (·.size) = some 256 := by kernel_rfl
/-- A slice that the call made, whatever its block's type; it can be read and written to. -/
def Own8 (w : World) (base : Nat) (v : Value) (n : Nat) (xs : List Value) : Prop := ∃ e : TypeId, w.ownsRow base e 1 v n xs
theorem Rd.of_own8 {w : World} {base n : Nat} {v : Value} {xs : List Value} (h : Own8 w base v n xs) : ∃ A c, v = .slice A n c ∧ xs.length = n ∧ Rd w w.heap.size A xs := by
  obtain ⟨e, h⟩ := h
  exact Rd.of_own h
theorem Own8.below {w w' : World} {base n : Nat} {v : Value} {xs : List Value} (h : Own8 w base v n xs) (hb : Below w.heap.size w w') : Own8 w' base v n xs := by
  obtain ⟨e, h⟩ := h
  exact ⟨e, own_below h hb⟩
theorem own8_nil (w : World) (base : Nat) : Own8 w base (.slice none 0 0) 0 (vb []) := ⟨0, World.ownsRow_nil _ _ _ _⟩
theorem new_there (w : World) : (w.alloc (.cells z256 81)).there w.heap.size 0 256 := (Fr.new w (fl 256 fun _ => .int .u8 0) 81 256 (by rw [fl_len]; exact Nat.le_refl _)).there 0 256 (Nat.le_refl _)
theorem new_thereV (w : World) (l : List UInt8) (hl : l.length = 256) : (w.alloc (.cells z256 81)).there w.heap.size 0 (vb l).toArray.size := by
  have e : (vb l).toArray.size = 256 := by simp [hl]
  rw [e]; exact new_there w
theorem new_own8 (w : World) (l : List UInt8) (hl : l.length = 256) : Own8 ((w.alloc (.cells z256 81)).setCells w.heap.size 0 (vb l)) w.heap.size (.slice (some ⟨w.heap.size, 0, none⟩) 256 256) 256 (vb l) ∧ Below w.heap.size w ((w.alloc (.cells z256 81)).setCells w.heap.size 0 (vb l)) := by
  have hF := Fr.setCells (vb l) 0 _ _ (Fr.new w (fl 256 fun _ => .int .u8 0) 81 256 (by rw [fl_len]; exact Nat.le_refl _)) (by rw [List.length_map, hl]; exact Nat.le_refl _)
  have hs := Fr.size_setCells (vb l) 0 (w.alloc (.cells z256 81)) z256 81 w.heap.size (heap_alloc_new w _)
  refine ⟨⟨81, by rw [List.length_map, hl], .inr ?_⟩, Turn.below ((Below.refl _ _).alloc (Nat.le_refl _) _) (turn_setCells _ _ _ _) (Nat.le_refl _)⟩
  obtain ⟨cur, h1, h2⟩ := hs
  have hz : cur.size = 256 := by rw [h2]; show (fl 256 fun _ => Value.int .u8 0).toArray.size = 256; simp [fl_len]
  refine ⟨w.heap.size, 256, cur, rfl, Nat.le_refl _, h1, Nat.le_refl _, by unfold maxLen; omega, by omega, ?_⟩
  obtain ⟨cur', h1', _, h3⟩ := hF
  rw [h1] at h1'
  injection h1' with h1'
  injection h1' with e
  subst e
  rw [fl_vb l 256 hl]
  apply List.ext_getElem?
  intro k
  rw [List.getElem?_take]
  by_cases hk : k < 256
  · rw [if_pos (by omega), fl_get _ _ _ hk, Array.getElem?_toList, h3 k hk]
    unfold layF
    rw [List.length_map, hl, if_pos (by omega), List.getElem?_map, Nat.sub_zero, List.getElem?_eq_getElem (by omega), List.getD_eq_getElem?_getD, List.getElem?_eq_getElem (by omega)]; rfl
  · rw [if_neg (by omega), List.getElem?_eq_none (by rw [fl_len]; omega)]
theorem vb_all (l : List UInt8) : (vb l).toArray.all (·.oneCell') = true := all_oneCell_toArray fun v hv => by obtain ⟨b, _, rfl⟩ := List.mem_map.1 hv; rfl
theorem vb_size (l : List UInt8) (hl : l.length = 256) : (Try.prog.info? 81).map (·.size) = some (vb l).toArray.size := by rw [List.size_toArray, List.length_map, hl]; exact block_size
theorem vb_len (l : List UInt8) (hl : l.length = 256) : (Try.prog.info? 81).map (·.size) = some (vb l).length := by rw [List.length_map, hl]; exact block_size
set_option maxRecDepth 100000 in
set_option maxHeartbeats 4000000 in
theorem cdfirm_any (w : World) (d n : Nat) (L : Nat → Prop) (D : Dev) (h : CD w d L n D) (i : Int) : Calls Try.prog 45 #[.pointer (some ⟨d, 0, none⟩), .int .i64 i] w fun e w' => ∃ v, e = .returned (.tuple #[v, .int .i64 (Dev.firmE n i : Int)]) ∧ Own8 w' w.heap.size v (D.firmB n i).length (vb (D.firmB n i)) ∧ Below w.heap.size w w' := by
  obtain ⟨S, h⟩ := h
  have hh := cdhas_any S w d n L D i h
  have d0 := h.c1
  have d7 := h.c7
  have hn4 := h.n4.2
  by_cases h1 : hasB n i = true
  · rw [h1] at hh
    have HH := Lib.hid hh; clear hh
    obtain ⟨i0, i1⟩ := (hasB_iff n i).1 h1
    have eE : Dev.firmE n i = 0 := by unfold Dev.firmE; rw [if_pos h1]
    obtain ⟨k, rfl⟩ : ∃ k : Nat, i = (k : Int) := ⟨i.toNat, by omega⟩
    have hk : k < n := by omega
    have eB : D.firmB n (k : Int) = D.firm.getD k [] := by unfold Dev.firmB; rw [if_pos h1]; rfl
    rw [eE, eB]
    have hlen := h.ok.fr k hk
    have hr := h.rr.range (k * 256) 256 (by omega)
    rw [bF_block _ _ hlen] at hr
    generalize D.firm.getD k [] = l at *
    rw [hlen]
    have HR := Lib.hid hr; clear hr
    have HL := Lib.hid hlen; clear hlen
    have hz := zeroBlock
    clear h eE eB h1 i0
    generalize S.bf = bn at *
    generalize S.cf = cn at *
    go_enter Try.func45, Try.ntmps45
    go_wp2_with fail
    refine HH.out.mono ?_
    rintro e w1 ⟨rfl, rfl⟩
    go_wp2_with (first
      | (refine wpList_load_mid rfl 81 (.tmp 18) rfl bn (k * 256) rfl (vb l) (.array 256 5) HR.out Try.underlying81 rfl (vb_len l HL.out) ?_)
      | (refine wpList_store_mid rfl 81 (.tmp 6) (.tmp 19) rfl w1.heap.size 0 (vb l).toArray rfl rfl (new_thereV w1 l HL.out) (vb_size l HL.out) (vb_all l) ?_))
    go_ret2
    exact ⟨_, rfl, (new_own8 w1 l HL.out).1, (new_own8 w1 l HL.out).2⟩
  · have eE : Dev.firmE n i = 2 := by unfold Dev.firmE; rw [if_neg h1]
    have eB : D.firmB n i = [] := by unfold Dev.firmB; rw [if_neg h1]
    rw [eE, eB]
    have h2 : hasB n i = false := by simpa using h1
    rw [h2] at hh
    have HH := Lib.hid hh; clear hh
    clear h eE eB h1 h2
    go_enter Try.func45, Try.ntmps45
    go_wp2_with fail
    refine HH.out.mono ?_
    rintro e w1 ⟨rfl, rfl⟩
    go_wp2_with fail
    go_ret2
    exact ⟨_, rfl, own8_nil _ _, Below.refl _ _⟩
set_option maxRecDepth 100000 in
set_option maxHeartbeats 4000000 in
theorem cdread_any (w : World) (d n : Nat) (L : Nat → Prop) (D : Dev) (h : CD w d L n D) (i : Int) : Calls Try.prog 37 #[.pointer (some ⟨d, 0, none⟩), .int .i64 i] w fun e w' => ∃ v, e = .returned (.tuple #[v, .int .i64 (D.readE n i : Int)]) ∧ Own8 w' w.heap.size v (D.readB n i).length (vb (D.readB n i)) ∧ Below w.heap.size w w' := by
  obtain ⟨S, h⟩ := h
  have hh := cdhas_any S w d n L D i h
  have d0 := h.c0
  have d7 := h.c7
  have hn4 := h.n4.2
  by_cases h1 : hasB n i = true
  · rw [h1] at hh
    have HH := Lib.hid hh; clear hh
    obtain ⟨i0, i1⟩ := (hasB_iff n i).1 h1
    by_cases hd : D.down = true
    · have eE : D.readE n i = 81 := by unfold Dev.readE; rw [if_pos h1, if_pos hd]
      have eB : D.readB n i = [] := by unfold Dev.readB; rw [if_neg (by rw [eE]; decide)]
      rw [eE, eB]
      rw [hd] at d7
      clear h eE eB hd
      go_enter Try.func37, Try.ntmps37
      go_wp2_with fail
      refine HH.out.mono ?_
      rintro e w1 ⟨rfl, rfl⟩
      go_wp2_with fail
      go_ret2
      exact ⟨_, rfl, own8_nil _ _, Below.refl _ _⟩
    have hd : D.down = false := by simpa using hd
    rw [hd] at d7
    have eE : D.readE n i = 0 := by unfold Dev.readE; rw [if_pos h1, if_neg (by rw [hd]; decide)]
    obtain ⟨k, rfl⟩ : ∃ k : Nat, i = (k : Int) := ⟨i.toNat, by omega⟩
    have hk : k < n := by omega
    have eB : D.readB n (k : Int) = D.now.getD k [] := by unfold Dev.readB; rw [if_pos eE]; rfl
    rw [eE, eB]
    have hlen := h.ok.nr k hk
    have hr := h.rn.range (k * 256) 256 (by omega)
    rw [bF_block _ _ hlen] at hr
    generalize D.now.getD k [] = l at *
    rw [hlen]
    have HR := Lib.hid hr; clear hr
    have HL := Lib.hid hlen; clear hlen
    have hz := zeroBlock
    clear h eE eB h1 i0 hd
    generalize S.bn = bn at *
    generalize S.cn = cn at *
    go_enter Try.func37, Try.ntmps37
    go_wp2_with fail
    refine HH.out.mono ?_
    rintro e w1 ⟨rfl, rfl⟩
    go_wp2_with (first
      | (refine wpList_load_mid rfl 81 (.tmp 25) rfl bn (k * 256) rfl (vb l) (.array 256 5) HR.out Try.underlying81 rfl (vb_len l HL.out) ?_)
      | (refine wpList_store_mid rfl 81 (.tmp 6) (.tmp 26) rfl w1.heap.size 0 (vb l).toArray rfl rfl (new_thereV w1 l HL.out) (vb_size l HL.out) (vb_all l) ?_))
    go_ret2
    exact ⟨_, rfl, (new_own8 w1 l HL.out).1, (new_own8 w1 l HL.out).2⟩
  · have eE : D.readE n i = 2 := by unfold Dev.readE; rw [if_neg h1]
    have eB : D.readB n i = [] := by unfold Dev.readB; rw [if_neg (by rw [eE]; decide)]
    rw [eE, eB]
    have h2 : hasB n i = false := by simpa using h1
    rw [h2] at hh
    have HH := Lib.hid hh; clear hh
    clear h eE eB h1 h2
    go_enter Try.func37, Try.ntmps37
    go_wp2_with fail
    refine HH.out.mono ?_
    rintro e w1 ⟨rfl, rfl⟩
    go_wp2_with fail
    go_ret2
    exact ⟨_, rfl, own8_nil _ _, Below.refl _ _⟩
/- A device that is not there. -/
section
variable (w : World)
theorem cdsteps_nil : Calls Try.prog 25 #[.pointer none] w fun e w' => e = .returned (.int .u64 0) ∧ Below w.heap.size w w' := by
  go_enter Try.func25, Try.ntmps25
  go_wp2_with fail
  go_ret
  exact ⟨rfl, Below.refl _ _⟩
theorem cddown_nil : Calls Try.prog 26 #[.pointer none] w fun e w' => e = .returned (.bool false) ∧ Below w.heap.size w w' := by
  go_enter Try.func26, Try.ntmps26
  go_wp2_with fail
  go_ret
  exact ⟨rfl, Below.refl _ _⟩
theorem cdstep_nil : Calls Try.prog 31 #[.pointer none] w fun e w' => e = .returned (.int .i64 1) ∧ Below w.heap.size w w' := by
  go_enter Try.func31, Try.ntmps31
  go_wp2_with fail
  go_ret
  exact ⟨rfl, Below.refl _ _⟩
theorem cdsync_nil : Calls Try.prog 39 #[.pointer none] w fun e w' => e = .returned (.int .i64 1) ∧ Below w.heap.size w w' := by
  go_enter Try.func39, Try.ntmps39
  go_wp2_with fail
  go_ret
  exact ⟨rfl, Below.refl _ _⟩
theorem cdfork_nil : Calls Try.prog 44 #[.pointer none] w fun e w' => e = .returned (.pointer none) ∧ Below w.heap.size w w' := by
  go_enter Try.func44, Try.ntmps44
  go_wp2_with fail
  go_ret
  exact ⟨rfl, Below.refl _ _⟩
theorem cdread_nil (i : Int) : Calls Try.prog 37 #[.pointer none, .int .i64 i] w fun e w' => ∃ A c, e = .returned (.tuple #[.slice A 0 c, .int .i64 1]) ∧ Below w.heap.size w w' := by
  go_enter Try.func37, Try.ntmps37
  go_wp2_with fail
  go_ret2
  exact ⟨_, _, rfl, Below.refl _ _⟩
theorem cdfirm_nil (i : Int) : Calls Try.prog 45 #[.pointer none, .int .i64 i] w fun e w' => ∃ A c, e = .returned (.tuple #[.slice A 0 c, .int .i64 1]) ∧ Below w.heap.size w w' := by
  go_enter Try.func45, Try.ntmps45
  go_wp2_with fail
  go_ret2
  exact ⟨_, _, rfl, Below.refl _ _⟩
theorem cdfail_nil (i : Int) : Calls Try.prog 27 #[.pointer none, .int .i64 i] w fun e w' => e = .returned (.tuple #[]) ∧ Below w.heap.size w w' := by
  go_enter Try.func27, Try.ntmps27
  go_wp2_with fail
  refine bodyPost_ret (results_none rfl _ _ _) rfl ?_
  exact ⟨rfl, Below.refl _ _⟩
theorem cdcut_nil (i : Int) : Calls Try.prog 28 #[.pointer none, .int .i64 i] w fun e w' => e = .returned (.tuple #[]) ∧ Below w.heap.size w w' := by
  go_enter Try.func28, Try.ntmps28
  go_wp2_with fail
  refine bodyPost_ret (results_none rfl _ _ _) rfl ?_
  exact ⟨rfl, Below.refl _ _⟩
theorem cdwrite_nil (i : Int) (A : Option Addr) (len cap : Nat) : Calls Try.prog 34 #[.pointer none, .int .i64 i, .slice A len cap] w fun e w' => e = .returned (.int .i64 1) ∧ Below w.heap.size w w' := by
  go_enter Try.func34, Try.ntmps34
  go_wp2_with fail
  go_ret
  exact ⟨rfl, Below.refl _ _⟩
theorem cdcrash_nil (A : Option Addr) (len cap : Nat) : Calls Try.prog 29 #[.pointer none, .slice A len cap] w fun e w' => e = .returned (.int .i64 1) ∧ Below w.heap.size w w' := by
  go_enter Try.func29, Try.ntmps29
  go_wp2_with fail
  go_ret
  exact ⟨rfl, Below.refl _ _⟩
theorem cdforeign_nil (i at_ : Int) (A : Option Addr) (len cap : Nat) : Calls Try.prog 42 #[.pointer none, .int .i64 i, .int .i64 at_, .slice A len cap] w fun e w' => e = .returned (.int .i64 1) ∧ Below w.heap.size w w' := by
  go_enter Try.func42, Try.ntmps42
  go_wp2_with fail
  go_ret
  exact ⟨rfl, Below.refl _ _⟩
end
end Go.Proofs.Ytpepbffhhfgdpaa
namespace Go.Proofs.Ytpepbffhhfgdpaa
open Go Go.RowKit Go.ChangeShapes Go.WideShapes Go.ChangeAt
set_option linter.unusedVariables false
set_option linter.unusedSimpArgs false

section
variable {H : Type} {enc : TypeId × Value → H} {P : Program} {W W' : World}

theorem trodAll_below (hlaid : laidOutB P = true) (hb : Below W.heap.size W W') :
    ∀ {ts : List TypeId} {vs : List Value} {ds : List (DataW H)} {ps : List MemPlace}, (ts.all fun t => P.readableRec t && decide (t < P.types.size)) = true →
      DataW.TrodAll enc P W 0 (fun _ => true) true ts vs ds ps → (∀ x ∈ ps, x.block < W.heap.size) →
      DataW.TrodAll enc P W' 0 (fun b => decide (b < W.heap.size)) true ts vs ds ps := by
  intro ts
  induction ts with
  | nil =>
    intro vs ds ps _ h _
    obtain ⟨rfl, rfl, rfl⟩ := trodAll_nil h
    exact trodAll_mk0
  | cons t ts ih =>
    intro vs ds ps hr h hlt
    obtain ⟨v, vs, d, ds, p, q, rfl, rfl, rfl, h0, h1⟩ := trodAll_cons h
    simp only [List.all_cons, Bool.and_eq_true, decide_eq_true_eq] at hr
    exact trodAll_cons_mk (Below.trod hlaid hr.1.1 hr.1.2 h0 hb fun x hx => hlt x (List.mem_append_left _ hx)) (ih (by simpa using hr.2) h1 fun x hx => hlt x (List.mem_append_right _ hx))

/-- What a row asks behind the call, of a law that answers true and leaves all older memory alone. -/
theorem law_post {fn : Func} {s : ChangeSpec} {args : Array Value} {ds gs : List (DataW H)} {before : List MemPlace} (tb : TypeId) (hbool : P.underlying tb = some .bool) (hres : fn.resultTypes = #[tb]) (hvars : s.vars = [])
    (hlaid : laidOutB P = true) (hread : (fn.params.toList.all fun t => P.readableRec t && decide (t < P.types.size)) = true)
    (hW : DataW.Whole enc P fn.params.toList s.vars false W args.toList ds gs before) (hspec : (s.fn H (ds ++ gs)).results = [.lit (.bool true)] ∧ (s.fn H (ds ++ gs)).args = ds ∧ (s.fn H (ds ++ gs)).vars = [])
    (hb : Below W.heap.size W W') : s.post enc P fn false true false false W args (.bool true) W' := by
  have hW' := hW
  obtain ⟨p, q, hA, hV, rfl, _, _⟩ := hW
  refine ⟨ds, gs, _, [], p, [], hW', ?_, ?_, ?_, hb.frame _, fun h => by cases h⟩
  · rw [hspec.1, hres]
    exact trodAll_cons_mk (p' := []) (shut_bool hbool true) trodAll_mk0
  · rw [hspec.2.1]
    exact trodAll_below hlaid hb hread hA fun x hx => hW'.lt x (List.mem_append_left _ hx)
  · rw [hspec.2.2, hvars]; rfl

/-- A slice of bytes among the arguments, opened. -/
theorem open_bytes_cap {t e : TypeId} {v : Value} {d : DataW H} {ps : List MemPlace} {r : Reach} {b0 : Nat} (ht : P.underlying t = some (.slice e)) (he : P.underlying e = some (.int .u8)) (hc : P.cellsOf e = 1)
    (hv : Value.okWide P W r b0 t v) (hd : DataW.Trod enc P W 0 (fun _ => true) true t v d ps) (hlt : ∀ x ∈ ps, x.block < W.heap.size)
    (hsz : ∀ elems spare, d = .slice elems spare → elems.length + spare.length ≤ reachBytes) :
    ∃ A l cap, v = .slice A l.length cap ∧ Rd W W.heap.size A (vb l) ∧ l.length ≤ 140737488351232 ∧ l.length ≤ cap := by
  obtain ⟨a0, len, cap, rfl⟩ := okWide_slice ht hv
  obtain ⟨fuel, hf⟩ := hd
  rcases open_ints ht he hc hf with ⟨hcs, hx⟩ | ⟨a, len', cap', zs, hcs, _, hl, hm, hz, hx, hcell, hwz⟩
  · simp [Value.cells] at hcs
    obtain ⟨rfl, rfl, rfl⟩ := hcs
    exact ⟨none, [], 0, rfl, Rd.nil _ _ _, by simp, by simp⟩
  · simp [Value.cells] at hcs
    obtain ⟨rfl, rfl, rfl⟩ := hcs
    simp only [Prod.mk.injEq] at hx
    obtain ⟨rfl, rfl⟩ := hx
    simp only [if_true] at hz
    have hs := hsz _ _ rfl
    simp only [lits, List.length_map, List.length_take, List.length_drop, reachBytes] at hs
    refine ⟨some a, (zs.take len).map fun n => UInt8.ofNat n.toNat, cap, by simp; omega, ?_, by simp; omega, by simp; omega⟩
    intro h0
    refine ⟨a, rfl, ?_, ?_⟩
    · simp only [vb, List.length_map, List.length_take] at h0
      have : (⟨a.block, a.off, none⟩ : Addr).block < W.heap.size := by
        have h1 := hcell 0 (by omega)
        have h2 := World.block_lt_of_cell? W _ h1
        rwa [add_block] at h2
      exact this
    · intro j u hj
      simp only [vb, List.map_map, List.getElem?_map, Option.map_eq_some_iff, Function.comp] at hj
      obtain ⟨n, hn, rfl⟩ := hj
      rw [List.getElem?_take] at hn
      split at hn
      · have hjl : j < zs.length := by
          rcases Nat.lt_or_ge j zs.length with h | h
          · exact h
          · rw [List.getElem?_eq_none h] at hn; cases hn
        rw [hcell j hjl]
        have e1 : zs.getD j 0 = n := by simp [List.getD, hn]
        rw [e1]
        have hw := hwz n (List.mem_of_getElem? hn)
        have hb : 0 ≤ n ∧ n ≤ 255 := by simpa [Lit.wf, IntKind.min, IntKind.max, IntKind.signed, IntKind.bits] using hw
        congr 2
        rw [UInt8.toNat_ofNat']
        omega
      · cases hn

theorem open_bytes {t e : TypeId} {v : Value} {d : DataW H} {ps : List MemPlace} {r : Reach} {b0 : Nat} (ht : P.underlying t = some (.slice e)) (he : P.underlying e = some (.int .u8)) (hc : P.cellsOf e = 1)
    (hv : Value.okWide P W r b0 t v) (hd : DataW.Trod enc P W 0 (fun _ => true) true t v d ps) (hlt : ∀ x ∈ ps, x.block < W.heap.size)
    (hsz : ∀ elems spare, d = .slice elems spare → elems.length + spare.length ≤ reachBytes) :
    ∃ A l cap, v = .slice A l.length cap ∧ Rd W W.heap.size A (vb l) ∧ l.length ≤ 140737488351232 := by
  obtain ⟨A, l, cap, h1, h2, h3, _⟩ := open_bytes_cap ht he hc hv hd hlt hsz
  exact ⟨A, l, cap, h1, h2, h3⟩

/-- A string among the arguments, opened. -/
theorem open_str {t : TypeId} {v : Value} {d : DataW H} {ps : List MemPlace} {r : Reach} {b0 : Nat} {base : Nat} {sp : Nat → Bool} {held : Bool} (ht : P.underlying t = some .string)
    (hv : Value.okWide P W r b0 t v) (hd : DataW.Trod enc P W base sp held t v d ps) (hsz : ∀ bs, d = .lit (.string bs) → bs.length ≤ reachBytes) :
    ∃ s : List UInt8, v = .string ⟨s.toArray⟩ ∧ d = .lit (.string s) ∧ ps = [] ∧ s.length ≤ 140737488351232 := by
  obtain ⟨s, rfl, rfl, rfl, _⟩ := ChangeMaps.open_string ht hv hd
  refine ⟨s.data.toList, rfl, rfl, rfl, ?_⟩
  have := hsz _ rfl
  simpa [reachBytes] using this
/-- The elements of an array of bytes. -/
theorem mapM_u8 {e : TypeId} {sp : Nat → Bool} {held : Bool} {base m : Nat} (he : P.underlying e = some (.int .u8)) {cs : List Value} {c : Nat} : ∀ (L : List Nat) (xs : List (DataW H × List MemPlace)),
    L.mapM (fun i => DataW.trod enc P W base sp held m e ((cs.drop (i * c)).take c)) = some xs → ∀ i ∈ L, ∃ n : Nat, n < 256 ∧ (cs.drop (i * c)).take c = [.int .u8 (n : Int)]
  | [], _, _ => fun _ h => by simp at h
  | i :: L, xs, h => by
    rw [List.mapM_cons] at h
    simp only [bind, Option.bind_eq_some_iff, pure, Option.some.injEq] at h
    obtain ⟨y, hy, ys, hys, rfl⟩ := h
    have ih := mapM_u8 he L ys hys
    obtain ⟨a, ea, rfl, wa⟩ := DataW.trod_int he hy
    have hb : 0 ≤ a ∧ a ≤ 255 := by simpa [Lit.wf, IntKind.min, IntKind.max, IntKind.signed, IntKind.bits] using wa
    intro j hj
    rcases List.mem_cons.mp hj with rfl | hj
    · exact ⟨a.toNat, by omega, by rw [ea]; congr 2; omega⟩
    · exact ih j hj

/-- n bytes by value. -/
abbrev arrN (n : Nat) (f : Nat → Nat) : Array Value := ((List.range n).map fun i => Value.int .u8 (f i : Int)).toArray

/-- An array of bytes among the arguments, opened. -/
theorem open_arr_u8 {t e : TypeId} {n : Nat} {v : Value} {d : DataW H} {ps : List MemPlace} {r : Reach} {b0 : Nat} {base : Nat} {sp : Nat → Bool} {held : Bool} (ht : P.underlying t = some (.array n e)) (he : P.underlying e = some (.int .u8)) (hc : P.cellsOf e = 1) (hn : P.cellsOf t = n)
    (hv : Value.okWide P W r b0 t v) (hd : DataW.Trod enc P W base sp held t v d ps) :
    ∃ f : Nat → Nat, v = .agg (arrN n f) ∧ ∀ i, i < n → f i < 256 := by
  simp only [Value.okWide, ht] at hv
  obtain ⟨cs, rfl, hsz, _⟩ := hv
  rw [hn] at hsz
  obtain ⟨fuel, hf⟩ := hd
  cases fuel with
  | zero => simp [DataW.trod] at hf
  | succ m =>
    unfold DataW.trod at hf
    rw [ht] at hf
    have e0 : (Value.agg cs).cells.toList.length = P.cellsOf t := by rw [hn]; simpa [Value.cells] using hsz
    dsimp only at hf
    rw [if_pos e0] at hf
    simp only [Value.cells, Option.map_eq_some_iff] at hf
    obtain ⟨ys, hy, _⟩ := hf
    have key := mapM_u8 he _ ys hy
    rw [hc] at key
    have key' : ∀ i (hi : i < n), ∃ k : Nat, k < 256 ∧ cs[i]? = some (.int .u8 (k : Int)) := by
      intro i hi
      obtain ⟨k, hk, e1⟩ := key i (List.mem_range.mpr hi)
      refine ⟨k, hk, ?_⟩
      have hl : i < cs.toList.length := by simpa [hsz] using hi
      have e2 : cs.toList[i]? = some (.int .u8 (k : Int)) := by
        have : ((cs.toList.drop (i * 1)).take 1)[0]? = some (Value.int .u8 (k : Int)) := by rw [e1]; rfl
        simpa using this
      simpa using e2
    refine ⟨fun i => match cs[i]? with | some (.int _ a) => a.toNat | _ => 0, ?_, ?_⟩
    · congr 1
      apply Array.ext_getElem?
      intro i
      by_cases hi : i < n
      · obtain ⟨k, hk, e1⟩ := key' i hi
        simp [e1, hi]
      · have : cs.size ≤ i := by omega
        simp [Array.getElem?_eq_none this, hi]
    · intro i hi
      obtain ⟨k, hk, e1⟩ := key' i hi
      simp [e1, hk]
end

theorem Try.own : ownKnob Try.prog.godebug = none := by kernel_rfl
theorem Try.laidOut : laidOutB Try.prog = true := by kernel_rfl
theorem Try.cellsU8 : Try.prog.cellsOf 5 = 1 := by kernel_rfl
theorem Try.bytesU8 : Try.prog.bytesOf 5 = 1 := by kernel_rfl
end Go.Proofs.Ytpepbffhhfgdpaa
namespace Go.Proofs.Ytpepbffhhfgdpaa
open Go Go.RowKit Go.ChangeShapes Go.WideShapes Go.ChangeAt Go.Deep
set_option linter.unusedVariables false
set_option linter.unusedSimpArgs false

section
variable {H : Type} {enc : TypeId × Value → H} {P : Program} {W W' : World}
theorem list_getD_range {α : Type} (l : List α) (d : α) (n : Nat) (h : l.length = n) : (List.range n).map (fun i => l.getD i d) = l := by
  apply List.ext_getElem?
  intro i
  by_cases hi : i < n
  · rw [List.getElem?_map, List.getElem?_range hi, Option.map_some, List.getD_eq_getElem?_getD, List.getElem?_eq_getElem (by omega)]; rfl
  · rw [List.getElem?_eq_none (by simp; omega), List.getElem?_eq_none (by omega)]
/-- A struct by value: its cells V, and what is read of them, Y. -/
theorem open_struct {t : TypeId} {fs : Array Field} {v : Value} {d : DataW H} {ps : List MemPlace} {r : Reach} {b0 base : Nat} {spare : Nat → Bool} {held : Bool} (hs : P.underlying t = some (.struct fs)) (hone : oneCellFields P fs = true) (hC : P.cellsOf t = fs.size)
    (hv : Value.okWide P W r b0 t v) (hd : DataW.Trod enc P W base spare held t v d ps) :
    ∃ (V : Nat → Value) (Y : Nat → DataW H × List MemPlace) (n : Nat), v = .agg ((List.range fs.size).map V).toArray ∧ d = .agg ((List.range fs.size).map fun i => (Y i).1) ∧ ps = (List.range fs.size).flatMap (fun i => (Y i).2) ∧
      ∀ (i : Nat) (f : Field), fs[i]? = some f → DataW.trod enc P W base spare held n f.type [V i] = some (Y i) := by
  obtain ⟨cs, rfl, hsz⟩ := okWide_struct hs hv
  obtain ⟨fuel, hf⟩ := hd
  obtain ⟨xs, n, _, hx, hcl, hlen, hg⟩ := DataW.trod_struct hs hf
  have hl : cs.toList.length = fs.size := by rw [Array.length_toList, hsz, hC]
  obtain ⟨Y, hY⟩ : ∃ Y : Nat → DataW H × List MemPlace, Y = fun i => xs.getD i (.nil, []) := ⟨_, rfl⟩
  have ex : (List.range fs.size).map Y = xs := by rw [hY]; exact list_getD_range xs _ _ hlen
  have hyi : ∀ i, i < fs.size → xs[i]? = some (Y i) := fun i hi => by rw [hY, List.getElem?_eq_getElem (by omega)]; simp [List.getD, hlen, hi]
  clear hY
  simp only [Prod.mk.injEq] at hx
  refine ⟨fun i => cs.toList.getD i undef, Y, n, ?_, ?_, ?_, fun i f hi => ?_⟩
  · rw [list_getD_range cs.toList undef fs.size hl]
  · rw [hx.1, ← ex, List.map_map]; rfl
  · rw [hx.2, ← ex, List.flatMap_map]
  · obtain ⟨ho, hk⟩ := hone_of hone i f hi
    have hlt : i < fs.size := (Array.getElem?_eq_some_iff.1 hi).1
    have := hg i f hi
    rw [ho, hk, show (Value.agg cs).cells.toList = cs.toList from rfl, take1_drop cs.toList i undef (by omega)] at this
    rw [this, hyi i hlt]
/-- How much a struct's fields may be. -/
theorem sized_struct {ts : List TypeId} {ds : List (DataW H)} (h : (DataW.weightsEach P ts ds).all (· ≤ reachBytes) = true) {j : Nat} {t : TypeId} {fs : Array Field} {parts : List (DataW H)} (ht : ts[j]? = some t) (hd : ds[j]? = some (.agg parts)) (hu : P.underlying t = some (.struct fs)) :
    (DataW.weightsEach P (fs.toList.map (·.type)) parts).all (· ≤ reachBytes) = true := by
  rw [List.all_eq_true]
  intro n hn
  exact List.all_eq_true.1 h n (DataW.weights_mem_each ht hd n (by simp only [DataW.weights, hu]; exact hn))
/-- A field that is a slice of bytes. -/
theorem field_bytes {t e : TypeId} {c : Value} {y : DataW H × List MemPlace} {fuel : Nat} (ht : P.underlying t = some (.slice e)) (he : P.underlying e = some (.int .u8)) (hc : P.cellsOf e = 1)
    (hf : DataW.trod enc P W 0 (fun _ => true) true fuel t [c] = some y) (hlt : ∀ x ∈ y.2, x.block < W.heap.size) (hsz : ∀ elems spare, y.1 = .slice elems spare → elems.length + spare.length ≤ reachBytes) :
    ∃ A l cap, c = .slice A l.length cap ∧ Rd W W.heap.size A (vb l) ∧ l.length ≤ 140737488351232 ∧ l.length ≤ cap := by
  rcases open_ints ht he hc hf with ⟨hcs, hx⟩ | ⟨a, len, cap, zs, hcs, _, hl, hm, hz, hx, hcell, hwz⟩
  · rw [List.cons.injEq] at hcs
    rw [hcs.1]
    exact ⟨none, [], 0, rfl, Rd.nil _ _ _, by simp, by simp⟩
  · rw [List.cons.injEq] at hcs
    rw [hcs.1]
    have hx1 := congrArg Prod.fst hx
    simp only [if_true] at hz
    have hs := hsz _ _ hx1
    simp only [lits, List.length_map, List.length_take, List.length_drop, reachBytes] at hs
    refine ⟨some a, (zs.take len).map fun n => UInt8.ofNat n.toNat, cap, by simp; omega, ?_, by simp; omega, by simp; omega⟩
    intro h0
    refine ⟨a, rfl, ?_, ?_⟩
    · simp only [vb, List.length_map, List.length_take] at h0
      have : (⟨a.block, a.off, none⟩ : Addr).block < W.heap.size := by
        have h1 := hcell 0 (by omega)
        have h2 := World.block_lt_of_cell? W _ h1
        rwa [add_block] at h2
      exact this
    · intro j u hj
      simp only [vb, List.map_map, List.getElem?_map, Option.map_eq_some_iff, Function.comp] at hj
      obtain ⟨n, hn, rfl⟩ := hj
      rw [List.getElem?_take] at hn
      split at hn
      · have hjl : j < zs.length := by
          rcases Nat.lt_or_ge j zs.length with h | h
          · exact h
          · rw [List.getElem?_eq_none h] at hn; cases hn
        rw [hcell j hjl]
        have e1 : zs.getD j 0 = n := by simp [List.getD, hn]
        rw [e1]
        have hw := hwz n (List.mem_of_getElem? hn)
        have hb : 0 ≤ n ∧ n ≤ 255 := by simpa [Lit.wf, IntKind.min, IntKind.max, IntKind.signed, IntKind.bits] using hw
        congr 2
        rw [UInt8.toNat_ofNat']
        omega
      · cases hn
/-- A field that is a number. -/
theorem field_int {t : TypeId} {k : IntKind} {c : Value} {y : DataW H × List MemPlace} {fuel : Nat} {base : Nat} {spare : Nat → Bool} {held : Bool} (ht : P.underlying t = some (.int k)) (hf : DataW.trod enc P W base spare held fuel t [c] = some y) : ∃ n, c = .int k n ∧ (Lit.int k n).wf = true := by
  obtain ⟨n, h, _, hw⟩ := DataW.trod_int ht hf
  rw [List.cons.injEq] at h
  exact ⟨n, h.1, hw⟩
/-- A slice of structs: the cell of each field of each element, and what it is. -/
theorem open_structs {t e : TypeId} {fs : Array Field} {v : Value} {d : DataW H} {ps : List MemPlace} {r : Reach} {b0 base : Nat} {held : Bool} (ht : P.underlying t = some (.slice e)) (he : P.underlying e = some (.struct fs)) (hone : oneCellFields P fs = true) (hC : P.cellsOf e = fs.size)
    (hv : Value.okWide P W r b0 t v) (hd : DataW.Trod enc P W base (fun _ => true) held t v d ps) (hsz : ∀ elems spare, d = .slice elems spare → (elems.length + spare.length) * P.bytesOf e ≤ reachBytes) (hby : 0 < P.bytesOf e) :
    ∃ (A : Option Addr) (len cap : Nat), v = .slice A len cap ∧ len ≤ reachBytes ∧ ∀ i, i < len → ∃ ad, A = some ad ∧ ∃ n : Nat, ∀ (j : Nat) (f : Field), fs[j]? = some f → ∃ (c : Value) (y : DataW H × List MemPlace), W.cell? (ad.add (i * fs.size + j)) = some c ∧ DataW.trod enc P W base (fun _ => true) held n f.type [c] = some y := by
  obtain ⟨a0, len, cap, rfl⟩ := okWide_slice ht hv
  obtain ⟨fuel, hf⟩ := hd
  rcases open_slice ht hf with ⟨hcs, hx⟩ | ⟨a, len', cap', m, n, D, Pl, hcs, _, hl, hm, hmm, hx, hi⟩
  · simp [Value.cells] at hcs
    obtain ⟨rfl, rfl, rfl⟩ := hcs
    exact ⟨none, 0, 0, rfl, Nat.zero_le _, fun i hi => by omega⟩
  · simp [Value.cells] at hcs
    obtain ⟨rfl, rfl, rfl⟩ := hcs
    have hx1 := congrArg Prod.fst hx
    have hs := hsz _ _ hx1
    simp only [List.length_map, List.length_range] at hs
    simp only [if_true] at hmm
    refine ⟨some a, len, cap, rfl, ?_, fun i hil => ⟨a, rfl, ?_⟩⟩
    · have h1 : len ≤ (len + (m - len)) * P.bytesOf e := Nat.le_trans (Nat.le_add_right _ _) (Nat.le_mul_of_pos_right _ hby)
      omega
    · obtain ⟨cs', hc, htr⟩ := hi i (by omega)
      rw [hC] at hc
      obtain ⟨xs, n', _, _, hcl, hlen, hg⟩ := DataW.trod_struct he htr
      obtain ⟨_, hcl2, hat⟩ := World.cells?_some hc
      refine ⟨n', fun j f hj => ?_⟩
      obtain ⟨ho, hk⟩ := hone_of hone j f hj
      have hjl : j < fs.size := (Array.getElem?_eq_some_iff.1 hj).1
      have hg2 := hg j f hj
      rw [ho, hk, take1_drop cs' j undef (by omega)] at hg2
      refine ⟨cs'.getD j undef, xs[j]'(by omega), ?_, by rw [hg2, List.getElem?_eq_getElem (by omega)]⟩
      rw [← Go.Deep.add_add, hat j hjl, List.getD_eq_getElem?_getD, List.getElem?_eq_getElem (by omega)]
      rfl
/-- Structs of two numbers: the numbers. -/
theorem structs_int2 {f0 f1 : Field} {A : Option Addr} {len base : Nat} {held : Bool} (h0 : P.underlying f0.type = some (.int .i64)) (h1 : P.underlying f1.type = some (.int .i64))
    (h : ∀ i, i < len → ∃ ad, A = some ad ∧ ∃ n : Nat, ∀ (j : Nat) (f : Field), (#[f0, f1] : Array Field)[j]? = some f → ∃ (c : Value) (y : DataW H × List MemPlace), W.cell? (ad.add (i * (#[f0, f1] : Array Field).size + j)) = some c ∧ DataW.trod enc P W base (fun _ => true) held n f.type [c] = some y) :
    ∃ K M : Nat → Int, ∀ i, i < len → ∃ ad, A = some ad ∧ ad.block < W.heap.size ∧ W.cell? (ad.add (i * 2)) = some (.int .i64 (K i)) ∧ W.cell? (ad.add (i * 2 + 1)) = some (.int .i64 (M i)) ∧ -9223372036854775808 ≤ M i ∧ M i ≤ 9223372036854775807 := by
  have step : ∀ i : Nat, ∃ km : Int × Int, i < len → ∃ ad, A = some ad ∧ ad.block < W.heap.size ∧ W.cell? (ad.add (i * 2)) = some (.int .i64 km.1) ∧ W.cell? (ad.add (i * 2 + 1)) = some (.int .i64 km.2) ∧ -9223372036854775808 ≤ km.2 ∧ km.2 ≤ 9223372036854775807 := by
    intro i
    by_cases hi : i < len
    · obtain ⟨ad, e, n, hf⟩ := h i hi
      obtain ⟨c0, y0, hc0, ht0⟩ := hf 0 f0 rfl
      obtain ⟨c1, y1, hc1, ht1⟩ := hf 1 f1 rfl
      obtain ⟨a, rfl, wa⟩ := field_int h0 ht0
      obtain ⟨b, rfl, wb⟩ := field_int h1 ht1
      have hb : -9223372036854775808 ≤ b ∧ b ≤ 9223372036854775807 := by simpa [Lit.wf, IntKind.min, IntKind.max, IntKind.signed, IntKind.bits] using wb
      refine ⟨(a, b), fun _ => ⟨ad, e, ?_, hc0, hc1, hb.1, hb.2⟩⟩
      have := World.block_lt_of_cell? W _ hc0
      rwa [add_block] at this
    · exact ⟨(0, 0), fun h => (hi h).elim⟩
  obtain ⟨f, hf⟩ := Classical.axiomOfChoice step
  exact ⟨fun i => (f i).1, fun i => (f i).2, hf⟩
/-- A field that is a slice of bytes, however long. -/
theorem field_bytes0 {t e : TypeId} {c : Value} {y : DataW H × List MemPlace} {fuel : Nat} (ht : P.underlying t = some (.slice e)) (he : P.underlying e = some (.int .u8)) (hc : P.cellsOf e = 1)
    (hf : DataW.trod enc P W 0 (fun _ => true) true fuel t [c] = some y) :
    ∃ A l cap, c = .slice A l.length cap ∧ Rd W W.heap.size A (vb l) ∧ l.length ≤ cap := by
  rcases open_ints ht he hc hf with ⟨hcs, hx⟩ | ⟨a, len, cap, zs, hcs, _, hl, hm, hz, hx, hcell, hwz⟩
  · rw [List.cons.injEq] at hcs
    rw [hcs.1]
    exact ⟨none, [], 0, rfl, Rd.nil _ _ _, by simp⟩
  · rw [List.cons.injEq] at hcs
    rw [hcs.1]
    simp only [if_true] at hz
    refine ⟨some a, (zs.take len).map fun n => UInt8.ofNat n.toNat, cap, by simp; omega, ?_, by simp; omega⟩
    intro h0
    refine ⟨a, rfl, ?_, ?_⟩
    · simp only [vb, List.length_map, List.length_take] at h0
      have h1 := hcell 0 (by omega)
      have h2 := World.block_lt_of_cell? W _ h1
      rwa [add_block] at h2
    · intro j u hj
      simp only [vb, List.map_map, List.getElem?_map, Option.map_eq_some_iff, Function.comp] at hj
      obtain ⟨n, hn, rfl⟩ := hj
      rw [List.getElem?_take] at hn
      split at hn
      · have hjl : j < zs.length := by
          rcases Nat.lt_or_ge j zs.length with h | h
          · exact h
          · rw [List.getElem?_eq_none h] at hn; cases hn
        rw [hcell j hjl]
        have e1 : zs.getD j 0 = n := by simp [List.getD, hn]
        rw [e1]
        have hw := hwz n (List.mem_of_getElem? hn)
        have hb : 0 ≤ n ∧ n ≤ 255 := by simpa [Lit.wf, IntKind.min, IntKind.max, IntKind.signed, IntKind.bits] using hw
        congr 2
        rw [UInt8.toNat_ofNat']
        omega
      · cases hn
/-- Structs of a uint64, a bool and a slice of bytes: what they are. -/
theorem structs_item {f0 f1 f2 : Field} {e : TypeId} {A : Option Addr} {len : Nat} (h0 : P.underlying f0.type = some (.int .u64)) (h1 : P.underlying f1.type = some .bool) (h2 : P.underlying f2.type = some (.slice e)) (he : P.underlying e = some (.int .u8)) (hc : P.cellsOf e = 1)
    (h : ∀ i, i < len → ∃ ad, A = some ad ∧ ∃ n : Nat, ∀ (j : Nat) (f : Field), (#[f0, f1, f2] : Array Field)[j]? = some f → ∃ (c : Value) (y : DataW H × List MemPlace), W.cell? (ad.add (i * (#[f0, f1, f2] : Array Field).size + j)) = some c ∧ DataW.trod enc P W 0 (fun _ => true) true n f.type [c] = some y) :
    ∃ (N : Nat → Nat) (I : Nat → Bool) (B : Nat → Option Addr) (T : Nat → List UInt8) (C : Nat → Nat), ∀ i, i < len → N i < 18446744073709551616 ∧ Rd W W.heap.size (B i) (vb (T i)) ∧ (T i).length ≤ C i ∧ ∃ ad, A = some ad ∧ ad.block < W.heap.size ∧ W.cell? (ad.add (i * 3)) = some (.int .u64 (N i : Int)) ∧ W.cell? (ad.add (i * 3 + 1)) = some (.bool (I i)) ∧ W.cell? (ad.add (i * 3 + 2)) = some (.slice (B i) (T i).length (C i)) := by
  have step : ∀ i : Nat, ∃ x : Nat × Bool × Option Addr × List UInt8 × Nat, i < len → x.1 < 18446744073709551616 ∧ Rd W W.heap.size x.2.2.1 (vb x.2.2.2.1) ∧ x.2.2.2.1.length ≤ x.2.2.2.2 ∧ ∃ ad, A = some ad ∧ ad.block < W.heap.size ∧ W.cell? (ad.add (i * 3)) = some (.int .u64 (x.1 : Int)) ∧ W.cell? (ad.add (i * 3 + 1)) = some (.bool x.2.1) ∧ W.cell? (ad.add (i * 3 + 2)) = some (.slice x.2.2.1 x.2.2.2.1.length x.2.2.2.2) := by
    intro i
    by_cases hi : i < len
    · obtain ⟨ad, ea, n, hf⟩ := h i hi
      obtain ⟨c0, y0, hc0, ht0⟩ := hf 0 f0 rfl
      obtain ⟨c1, y1, hc1, ht1⟩ := hf 1 f1 rfl
      obtain ⟨c2, y2, hc2, ht2⟩ := hf 2 f2 rfl
      obtain ⟨a, rfl, wa⟩ := field_int h0 ht0
      obtain ⟨b, eb, _⟩ := DataW.trod_bool h1 ht1
      rw [List.cons.injEq] at eb
      obtain ⟨rfl, _⟩ := eb
      obtain ⟨B, t, cap, rfl, hr, hl⟩ := field_bytes0 h2 he hc ht2
      have hb : 0 ≤ a ∧ a ≤ 18446744073709551615 := by simpa [Lit.wf, IntKind.min, IntKind.max, IntKind.signed, IntKind.bits] using wa
      have hblk := World.block_lt_of_cell? W _ hc0
      rw [add_block] at hblk
      refine ⟨(a.toNat, b, B, t, cap), fun _ => ⟨?_, hr, hl, ad, ea, hblk, ?_, hc1, hc2⟩⟩
      · show a.toNat < _
        omega
      · show W.cell? (ad.add (i * 3)) = some (.int .u64 (a.toNat : Int))
        rw [Int.toNat_of_nonneg hb.1]
        exact hc0
    · exact ⟨(0, false, none, [], 0), fun h => (hi h).elim⟩
  obtain ⟨f, hf⟩ := Classical.axiomOfChoice step
  exact ⟨fun i => (f i).1, fun i => (f i).2.1, fun i => (f i).2.2.1, fun i => (f i).2.2.2.1, fun i => (f i).2.2.2.2, hf⟩
end
end Go.Proofs.Ytpepbffhhfgdpaa
namespace Go.Proofs.Ytpepbffhhfgdpaa
open Go Go.RowKit Go.ChangeShapes Go.WideShapes Go.ChangeAt Go.Deep
set_option linter.unusedVariables false
set_option linter.unusedSimpArgs false

section
variable {P : Program} {W : World} {H : Type} {enc : TypeId × Value → H}
theorem weightsAll_mem {e : TypeId} : ∀ {l : List (DataW H)} {d : DataW H}, d ∈ l → ∀ m ∈ d.weights P e, m ∈ DataW.weightsAll P e l
  | [], _, h, _, _ => by simp at h
  | d0 :: l, d, h, m, hm => by
    simp only [DataW.weightsAll, List.mem_append]
    rcases List.mem_cons.1 h with rfl | h
    · exact .inl hm
    · exact .inr (weightsAll_mem h m hm)
/-- A slice of structs: the cell of each field of each element, what it is, and how much. -/
theorem open_structsW {t e : TypeId} {fs : Array Field} {v : Value} {d : DataW H} {ps : List MemPlace} {r : Reach} {b0 base : Nat} {held : Bool} (ht : P.underlying t = some (.slice e)) (he : P.underlying e = some (.struct fs)) (hone : oneCellFields P fs = true) (hC : P.cellsOf e = fs.size)
    (hv : Value.okWide P W r b0 t v) (hd : DataW.Trod enc P W base (fun _ => true) held t v d ps) (hw : ∀ m ∈ d.weights P t, m ≤ reachBytes) (hby : 0 < P.bytesOf e) :
    ∃ (A : Option Addr) (len cap : Nat), v = .slice A len cap ∧ len ≤ reachBytes ∧ ∀ i, i < len → ∃ ad, A = some ad ∧ ∃ n : Nat, ∀ (j : Nat) (f : Field), fs[j]? = some f → ∃ (c : Value) (y : DataW H × List MemPlace), W.cell? (ad.add (i * fs.size + j)) = some c ∧ DataW.trod enc P W base (fun _ => true) held n f.type [c] = some y ∧ ∀ m ∈ y.1.weights P f.type, m ≤ reachBytes := by
  obtain ⟨a0, len, cap, rfl⟩ := okWide_slice ht hv
  obtain ⟨fuel, hf⟩ := hd
  rcases open_slice ht hf with ⟨hcs, hx⟩ | ⟨a, len', cap', m, n, D, Pl, hcs, _, hl, hm, hmm, hx, hi⟩
  · simp [Value.cells] at hcs
    obtain ⟨rfl, rfl, rfl⟩ := hcs
    exact ⟨none, 0, 0, rfl, Nat.zero_le _, fun i hi => by omega⟩
  · simp [Value.cells] at hcs
    obtain ⟨rfl, rfl, rfl⟩ := hcs
    have hx1 := congrArg Prod.fst hx
    simp only at hx1
    simp only [if_true] at hmm
    rw [hx1] at hw
    have hs := hw _ (by simp only [DataW.weights, ht]; exact List.mem_cons_self)
    simp only [List.length_map, List.length_range] at hs
    refine ⟨some a, len, cap, rfl, ?_, fun i hil => ⟨a, rfl, ?_⟩⟩
    · have h1 : len ≤ (len + (m - len)) * P.bytesOf e := Nat.le_trans (Nat.le_add_right _ _) (Nat.le_mul_of_pos_right _ hby)
      omega
    · obtain ⟨cs', hc, htr⟩ := hi i (by omega)
      have hDw : ∀ q ∈ (D i).weights P e, q ≤ reachBytes := fun q hq => hw q (by
        simp only [DataW.weights, ht]
        refine List.mem_cons_of_mem _ (List.mem_append_left _ (weightsAll_mem (d := D i) ?_ q hq))
        exact List.mem_map.2 ⟨i, List.mem_range.2 hil, rfl⟩)
      rw [hC] at hc
      obtain ⟨xs, n', _, hxx, hcl, hlen, hg⟩ := DataW.trod_struct he htr
      obtain ⟨_, hcl2, hat⟩ := World.cells?_some hc
      refine ⟨n', fun j f hj => ?_⟩
      obtain ⟨ho, hk⟩ := hone_of hone j f hj
      have hjl : j < fs.size := (Array.getElem?_eq_some_iff.1 hj).1
      have hg2 := hg j f hj
      rw [ho, hk, take1_drop cs' j undef (by omega)] at hg2
      refine ⟨cs'.getD j undef, xs[j]'(by omega), ?_, by rw [hg2, List.getElem?_eq_getElem (by omega)], fun q hq => hDw q ?_⟩
      · rw [← Go.Deep.add_add, hat j hjl, List.getD_eq_getElem?_getD, List.getElem?_eq_getElem (by omega)]
        rfl
      · have e1 : D i = .agg (xs.map (·.1)) := congrArg Prod.fst hxx
        rw [e1]
        simp only [DataW.weights, he]
        refine DataW.weights_mem_each (j := j) (t := f.type) (d := (xs[j]'(by omega)).1) ?_ ?_ q hq
        · rw [List.getElem?_map, Array.getElem?_toList, hj]; rfl
        · rw [List.getElem?_map, List.getElem?_eq_getElem (by omega)]; rfl
/-- A field that is a slice of bytes, and how long it may be. -/
theorem field_bytesW {t e : TypeId} {c : Value} {y : DataW H × List MemPlace} {fuel : Nat} (ht : P.underlying t = some (.slice e)) (he : P.underlying e = some (.int .u8)) (hc : P.cellsOf e = 1) (hb : P.bytesOf e = 1)
    (hf : DataW.trod enc P W 0 (fun _ => true) true fuel t [c] = some y) (hw : ∀ m ∈ y.1.weights P t, m ≤ reachBytes) :
    ∃ A l cap, c = .slice A l.length cap ∧ Rd W W.heap.size A (vb l) ∧ l.length ≤ cap ∧ l.length ≤ 140737488351232 := by
  obtain ⟨A, l, cap, h1, h2, h3⟩ := field_bytes0 ht he hc hf
  refine ⟨A, l, cap, h1, h2, h3, ?_⟩
  rcases open_ints ht he hc hf with ⟨hcs, hx⟩ | ⟨a, len, cap2, zs, hcs, _, hl, hm, hz, hx, hcell, hwz⟩
  · rw [h1, List.cons.injEq] at hcs
    have := hcs.1
    injection this with _ h5 _
    omega
  · rw [h1, List.cons.injEq] at hcs
    have h4 := hcs.1
    injection h4 with _ h5 _
    have hx1 := congrArg Prod.fst hx
    simp only at hx1
    rw [hx1] at hw
    have hs := hw _ (by simp only [DataW.weights, ht]; exact List.mem_cons_self)
    simp only [if_true] at hz
    simp only [lits, List.length_map, List.length_take, List.length_drop, hb, Nat.mul_one, reachBytes] at hs
    omega
/-- What a struct of three numbers and two slices of bytes is. -/
structure OpV where
  k : Int
  i : Int
  a : Int
  B : Option Addr
  bl : List UInt8
  bc : Nat
  M : Option Addr
  ml : List UInt8
  mc : Nat
def i64in (x : Int) : Prop := -9223372036854775808 ≤ x ∧ x ≤ 9223372036854775807
structure OpV.Ok (W : World) (o : OpV) : Prop where
  hk : i64in o.k
  hi : i64in o.i
  ha : i64in o.a
  hb : Rd W W.heap.size o.B (vb o.bl) ∧ o.bl.length ≤ o.bc ∧ o.bl.length ≤ 140737488351232
  hm : Rd W W.heap.size o.M (vb o.ml) ∧ o.ml.length ≤ o.mc ∧ o.ml.length ≤ 140737488351232
/-- Where it lies. -/
structure OpV.At (W : World) (ad : Addr) (i : Nat) (o : OpV) : Prop where
  lt : ad.block < W.heap.size
  c0 : W.cell? (ad.add (i * 5)) = some (.int .i64 o.k)
  c1 : W.cell? (ad.add (i * 5 + 1)) = some (.int .i64 o.i)
  c2 : W.cell? (ad.add (i * 5 + 2)) = some (.int .i64 o.a)
  c3 : W.cell? (ad.add (i * 5 + 3)) = some (.slice o.B o.bl.length o.bc)
  c4 : W.cell? (ad.add (i * 5 + 4)) = some (.slice o.M o.ml.length o.mc)
theorem field_add (ad : Addr) (n k : Nat) (hk : k ≠ 0) : (⟨(ad.add n).block, (ad.add n).off + k, none⟩ : Addr) = ad.add (n + k) := by
  rw [← add_add]
  unfold Addr.add
  rw [if_neg hk]
/-- As the walk meets it, in a later world. -/
theorem OpV.At.go {ad : Addr} {i : Nat} {o : OpV} {w' : World} (h : o.At W ad i) (hb : Below W.heap.size W w') :
    w'.cell? (ad.add (i * 5)) = some (.int .i64 o.k) ∧ w'.cell? ⟨(ad.add (i * 5)).block, (ad.add (i * 5)).off + 1, none⟩ = some (.int .i64 o.i) ∧ w'.cell? ⟨(ad.add (i * 5)).block, (ad.add (i * 5)).off + 2, none⟩ = some (.int .i64 o.a) ∧
      w'.cell? ⟨(ad.add (i * 5)).block, (ad.add (i * 5)).off + 3, none⟩ = some (.slice o.B o.bl.length o.bc) ∧ w'.cell? ⟨(ad.add (i * 5)).block, (ad.add (i * 5)).off + 4, none⟩ = some (.slice o.M o.ml.length o.mc) := by
  have hk : ∀ k, w'.cell? (ad.add (i * 5 + k)) = W.cell? (ad.add (i * 5 + k)) := fun k => hb.cell (by rw [add_block]; exact h.lt)
  refine ⟨(hk 0).trans h.c0, ?_, ?_, ?_, ?_⟩
  · rw [field_add _ _ _ (by decide)]; exact (hk 1).trans h.c1
  · rw [field_add _ _ _ (by decide)]; exact (hk 2).trans h.c2
  · rw [field_add _ _ _ (by decide)]; exact (hk 3).trans h.c3
  · rw [field_add _ _ _ (by decide)]; exact (hk 4).trans h.c4
theorem OpV.At.keepW {ad : Addr} {i : Nat} {o : OpV} {w' : World} (h : o.At W ad i) (hb : Below W.heap.size W w') : o.At w' ad i := by
  have hk : ∀ k, w'.cell? (ad.add (i * 5 + k)) = W.cell? (ad.add (i * 5 + k)) := fun k => hb.cell (by rw [add_block]; exact h.lt)
  exact ⟨Nat.lt_of_lt_of_le h.lt hb.size, (hk 0).trans h.c0, (hk 1).trans h.c1, (hk 2).trans h.c2, (hk 3).trans h.c3, (hk 4).trans h.c4⟩
theorem structs_op {f0 f1 f2 f3 f4 : Field} {e : TypeId} {A : Option Addr} {len : Nat} (h0 : P.underlying f0.type = some (.int .i64)) (h1 : P.underlying f1.type = some (.int .i64)) (h2 : P.underlying f2.type = some (.int .i64)) (h3 : P.underlying f3.type = some (.slice e)) (h4 : P.underlying f4.type = some (.slice e)) (he : P.underlying e = some (.int .u8)) (hc : P.cellsOf e = 1) (hb : P.bytesOf e = 1)
    (h : ∀ i, i < len → ∃ ad, A = some ad ∧ ∃ n : Nat, ∀ (j : Nat) (f : Field), (#[f0, f1, f2, f3, f4] : Array Field)[j]? = some f → ∃ (c : Value) (y : DataW H × List MemPlace), W.cell? (ad.add (i * (#[f0, f1, f2, f3, f4] : Array Field).size + j)) = some c ∧ DataW.trod enc P W 0 (fun _ => true) true n f.type [c] = some y ∧ ∀ m ∈ y.1.weights P f.type, m ≤ reachBytes) :
    ∃ O : Nat → OpV, ∀ i, i < len → (O i).Ok W ∧ ∃ ad, A = some ad ∧ (O i).At W ad i := by
  have step : ∀ i : Nat, ∃ o : OpV, i < len → o.Ok W ∧ ∃ ad, A = some ad ∧ o.At W ad i := by
    intro i
    by_cases hi : i < len
    · obtain ⟨ad, ea, n, hf⟩ := h i hi
      obtain ⟨c0, y0, hc0, ht0, _⟩ := hf 0 f0 rfl
      obtain ⟨c1, y1, hc1, ht1, _⟩ := hf 1 f1 rfl
      obtain ⟨c2, y2, hc2, ht2, _⟩ := hf 2 f2 rfl
      obtain ⟨c3, y3, hc3, ht3, hw3⟩ := hf 3 f3 rfl
      obtain ⟨c4, y4, hc4, ht4, hw4⟩ := hf 4 f4 rfl
      obtain ⟨k, rfl, wk⟩ := field_int h0 ht0
      obtain ⟨x, rfl, wx⟩ := field_int h1 ht1
      obtain ⟨a, rfl, wa⟩ := field_int h2 ht2
      obtain ⟨B, bl, bc, rfl, hB, hbc, hbl⟩ := field_bytesW h3 he hc hb ht3 hw3
      obtain ⟨M, ml, mc, rfl, hM, hmc, hml⟩ := field_bytesW h4 he hc hb ht4 hw4
      have r : ∀ z : Int, (Lit.int .i64 z).wf = true → i64in z := fun z hz => by unfold i64in; simpa [Lit.wf, IntKind.min, IntKind.max, IntKind.signed, IntKind.bits] using hz
      have hblk := World.block_lt_of_cell? W _ hc0
      rw [add_block] at hblk
      exact ⟨⟨k, x, a, B, bl, bc, M, ml, mc⟩, fun _ => ⟨⟨r k wk, r x wx, r a wa, ⟨hB, hbc, hbl⟩, ⟨hM, hmc, hml⟩⟩, ad, ea, ⟨hblk, hc0, hc1, hc2, hc3, hc4⟩⟩⟩
    · exact ⟨⟨0, 0, 0, none, [], 0, none, [], 0⟩, fun h => (hi h).elim⟩
  exact Classical.axiomOfChoice step
end
end Go.Proofs.Ytpepbffhhfgdpaa
namespace Go.Proofs.Ytpepbffhhfgdpaa
open Go Go.RowKit Go.ChangeShapes Go.WideShapes Go.ChangeAt Go.Deep
set_option linter.unusedVariables false
set_option linter.unusedSimpArgs false

/-- Slices of bytes that can be read, side by side, in blocks of S. -/
def RdS (w : World) (S : Nat → Prop) (A : Option Addr) (ls : List (List UInt8)) : Prop :=
  ∀ i, i < ls.length → ∃ ad B c, A = some ad ∧ S ad.block ∧ ad.block < w.heap.size ∧ w.cell? (ad.add i) = some (.slice B (ls.getD i []).length c) ∧ (ls.getD i []).length ≤ c ∧ (ls.getD i []).length ≤ 140737488351232 ∧
    (0 < (ls.getD i []).length → ∃ bd, B = some bd ∧ S bd.block ∧ bd.block < w.heap.size ∧ ∀ j u, (vb (ls.getD i []))[j]? = some u → w.cell? (bd.add j) = some u)
section
variable {w w' : World} {S : Nat → Prop} {A : Option Addr} {ls : List (List UInt8)}
theorem RdS.keep (h : RdS w S A ls) (hk : ∀ p : Addr, S p.block → p.block < w.heap.size → w'.cell? p = w.cell? p) (hs : w.heap.size ≤ w'.heap.size) : RdS w' S A ls := fun i hi => by
  obtain ⟨ad, B, c, h1, h2, h3, h4, h5, h6, h7⟩ := h i hi
  refine ⟨ad, B, c, h1, h2, by omega, (hk _ (by rw [add_block]; exact h2) (by rw [add_block]; exact h3)).trans h4, h5, h6, fun h0 => ?_⟩
  obtain ⟨bd, k1, k2, k3, k4⟩ := h7 h0
  exact ⟨bd, k1, k2, by omega, fun j u hj => (hk _ (by rw [add_block]; exact k2) (by rw [add_block]; exact k3)).trans (k4 j u hj)⟩
theorem RdS.below (h : RdS w S A ls) (hb : Below w.heap.size w w') : RdS w' S A ls := h.keep (fun p _ h => hb.cell h) hb.size
theorem RdS.more {T : Nat → Prop} (h : RdS w S A ls) (hT : ∀ b, S b → T b) : RdS w T A ls := fun i hi => by
  obtain ⟨ad, B, c, h1, h2, h3, h4, h5, h6, h7⟩ := h i hi
  exact ⟨ad, B, c, h1, hT _ h2, h3, h4, h5, h6, fun h0 => let ⟨bd, k1, k2, k3, k4⟩ := h7 h0; ⟨bd, k1, hT _ k2, k3, k4⟩⟩
theorem RdS.moreL {T : Nat → Prop} (h : RdS w S A ls) (hT : ∀ b, S b → b < w.heap.size → T b) : RdS w T A ls := fun i hi => by
  obtain ⟨ad, B, c, h1, h2, h3, h4, h5, h6, h7⟩ := h i hi
  exact ⟨ad, B, c, h1, hT _ h2 h3, h3, h4, h5, h6, fun h0 => let ⟨bd, k1, k2, k3, k4⟩ := h7 h0; ⟨bd, k1, hT _ k2 k3, k3, k4⟩⟩
/-- One of them. -/
theorem RdS.at_ (h : RdS w S A ls) {i : Nat} (hi : i < ls.length) : ∃ ad B c, A = some ad ∧ S ad.block ∧ ad.block < w.heap.size ∧ w.cell? (ad.add i) = some (.slice B (ls.getD i []).length c) ∧ (ls.getD i []).length ≤ c ∧ (ls.getD i []).length ≤ 140737488351232 ∧
    Rd w w.heap.size B (vb (ls.getD i [])) ∧ ((ls.getD i []).length ≠ 0 → ∀ bd, B = some bd → S bd.block) := by
  obtain ⟨ad, B, c, h1, h2, h3, h4, h5, h6, h7⟩ := h i hi
  refine ⟨ad, B, c, h1, h2, h3, h4, h5, h6, fun h0 => ?_, fun h0 bd e => ?_⟩
  · have e0 : (vb (ls.getD i [])).length = (ls.getD i []).length := List.length_map _
    obtain ⟨bd, k1, k2, k3, k4⟩ := h7 (by omega)
    exact ⟨bd, k1, k3, k4⟩
  · obtain ⟨bd', k1, k2, k3, k4⟩ := h7 (by omega)
    rw [e] at k1; cases k1; exact k2
end

section
variable {P : Program} {W : World} {H : Type} {enc : TypeId × Value → H}
/-- A slice: the cells of each element, what it is, and how much. -/
theorem open_elems {t e : TypeId} {v : Value} {d : DataW H} {ps : List MemPlace} {r : Reach} {b0 base : Nat} {held : Bool} (ht : P.underlying t = some (.slice e))
    (hv : Value.okWide P W r b0 t v) (hd : DataW.Trod enc P W base (fun _ => true) held t v d ps) (hw : ∀ m ∈ d.weights P t, m ≤ reachBytes) (hby : 0 < P.bytesOf e) :
    ∃ (A : Option Addr) (len cap : Nat), v = .slice A len cap ∧ len ≤ reachBytes ∧ len ≤ cap ∧ ∀ i, i < len → ∃ ad, A = some ad ∧ ∃ (n : Nat) (cs : List Value) (y : DataW H × List MemPlace), cs.length = P.cellsOf e ∧ (∀ j, j < P.cellsOf e → W.cell? (ad.add (i * P.cellsOf e + j)) = some (cs.getD j undef)) ∧ DataW.trod enc P W base (fun _ => true) held n e cs = some y ∧ ∀ m ∈ y.1.weights P e, m ≤ reachBytes := by
  obtain ⟨a0, len, cap, rfl⟩ := okWide_slice ht hv
  obtain ⟨fuel, hf⟩ := hd
  rcases open_slice ht hf with ⟨hcs, hx⟩ | ⟨a, len', cap', m, n, D, Pl, hcs, _, hl, hm, hmm, hx, hi⟩
  · simp [Value.cells] at hcs
    obtain ⟨rfl, rfl, rfl⟩ := hcs
    exact ⟨none, 0, 0, rfl, Nat.zero_le _, Nat.le_refl _, fun i hi => by omega⟩
  · simp [Value.cells] at hcs
    obtain ⟨rfl, rfl, rfl⟩ := hcs
    have hx1 := congrArg Prod.fst hx
    simp only at hx1
    simp only [if_true] at hmm
    rw [hx1] at hw
    have hs := hw _ (by simp only [DataW.weights, ht]; exact List.mem_cons_self)
    simp only [List.length_map, List.length_range] at hs
    refine ⟨some a, len, cap, rfl, ?_, hl, fun i hil => ⟨a, rfl, ?_⟩⟩
    · have h1 : len ≤ (len + (m - len)) * P.bytesOf e := Nat.le_trans (Nat.le_add_right _ _) (Nat.le_mul_of_pos_right _ hby)
      omega
    · obtain ⟨cs', hc, htr⟩ := hi i (by omega)
      obtain ⟨_, hcl2, hat⟩ := World.cells?_some hc
      refine ⟨n, cs', _, hcl2, fun j hj => ?_, htr, fun q hq => hw q (by
        simp only [DataW.weights, ht]
        refine List.mem_cons_of_mem _ (List.mem_append_left _ (weightsAll_mem (d := D i) ?_ q hq))
        exact List.mem_map.2 ⟨i, List.mem_range.2 hil, rfl⟩)⟩
      rw [← Go.Deep.add_add, hat j hj, List.getD_eq_getElem?_getD, List.getElem?_eq_getElem (by omega)]
      rfl
/-- A slice of slices of bytes. -/
theorem open_bytess {t e e2 : TypeId} {v : Value} {d : DataW H} {ps : List MemPlace} {r : Reach} {b0 : Nat} (ht : P.underlying t = some (.slice e)) (he : P.underlying e = some (.slice e2)) (h2 : P.underlying e2 = some (.int .u8)) (hc1 : P.cellsOf e = 1) (hc : P.cellsOf e2 = 1) (hb : P.bytesOf e2 = 1) (hby : 0 < P.bytesOf e)
    (hv : Value.okWide P W r b0 t v) (hd : DataW.Trod enc P W 0 (fun _ => true) true t v d ps) (hw : ∀ m ∈ d.weights P t, m ≤ reachBytes) :
    ∃ (A : Option Addr) (ls : List (List UInt8)) (cap : Nat), v = .slice A ls.length cap ∧ ls.length ≤ reachBytes ∧ ls.length ≤ cap ∧ (∀ i, i < ls.length → (ls.getD i []).length ≤ 140737488351232) ∧ RdS W (fun b => b < W.heap.size) A ls := by
  obtain ⟨A, len, cap, rfl, hl, hlc, hi⟩ := open_elems ht hv hd hw hby
  have step : ∀ i : Nat, ∃ l : List UInt8, i < len → ∃ ad B c, A = some ad ∧ ad.block < W.heap.size ∧ W.cell? (ad.add i) = some (.slice B l.length c) ∧ l.length ≤ c ∧ l.length ≤ 140737488351232 ∧ Rd W W.heap.size B (vb l) := fun i => by
    by_cases h : i < len
    · obtain ⟨ad, eA, n, cs, y, hcl, hcell, htr, hwt⟩ := hi i h
      rw [hc1] at hcl hcell
      match cs, hcl with
      | [c], _ =>
        obtain ⟨B, l, cp, rfl, hB, hcp, hll⟩ := field_bytesW he h2 hc hb htr hwt
        have h0 := hcell 0 (by omega)
        rw [Nat.mul_one, Nat.add_zero] at h0
        have hblk := World.block_lt_of_cell? W _ h0
        rw [add_block] at hblk
        exact ⟨l, fun _ => ⟨ad, B, cp, eA, hblk, h0, hcp, hll, hB⟩⟩
    · exact ⟨[], fun h2 => (h h2).elim⟩
  obtain ⟨f, hf⟩ := Classical.axiomOfChoice step
  have eg : ∀ i, i < len → ((List.range len).map f).getD i [] = f i := fun i hil2 => by simp [List.getD_eq_getElem?_getD, hil2]
  refine ⟨A, (List.range len).map f, cap, by simp, by simpa using hl, by simpa using hlc, fun i hil => ?_, fun i hil => ?_⟩
  · have hil2 : i < len := by simpa using hil
    rw [eg i hil2]
    obtain ⟨ad, B, c, h1, h2, h3, h4, h5, h6⟩ := hf i hil2
    exact h5
  have hil2 : i < len := by simpa using hil
  rw [eg i hil2]
  obtain ⟨ad, B, c, h1, h2, h3, h4, h5, h6⟩ := hf i hil2
  exact ⟨ad, B, c, h1, h2, h2, h3, h4, h5, fun h0 => let ⟨bd, k1, k2, k3⟩ := h6 (by simpa [vb] using h0); ⟨bd, k1, k2, k2, k3⟩⟩

/-- A slice of numbers. -/
theorem open_ints9 {t e : TypeId} {v : Value} {d : DataW H} {ps : List MemPlace} {r : Reach} {b0 : Nat} (ht : P.underlying t = some (.slice e)) (he : P.underlying e = some (.int .i64)) (hc1 : P.cellsOf e = 1) (hby : 0 < P.bytesOf e)
    (hv : Value.okWide P W r b0 t v) (hd : DataW.Trod enc P W 0 (fun _ => true) true t v d ps) (hw : ∀ m ∈ d.weights P t, m ≤ reachBytes) :
    ∃ (A : Option Addr) (len cap : Nat) (S : Nat → Int), v = .slice A len cap ∧ len ≤ reachBytes ∧ ∀ i, i < len → -9223372036854775808 ≤ S i ∧ S i ≤ 9223372036854775807 ∧ ∃ ad, A = some ad ∧ ad.block < W.heap.size ∧ W.cell? (ad.add i) = some (.int .i64 (S i)) := by
  obtain ⟨A, len, cap, rfl, hl, _, hi⟩ := open_elems ht hv hd hw hby
  have step : ∀ i : Nat, ∃ z : Int, i < len → -9223372036854775808 ≤ z ∧ z ≤ 9223372036854775807 ∧ ∃ ad, A = some ad ∧ ad.block < W.heap.size ∧ W.cell? (ad.add i) = some (.int .i64 z) := fun i => by
    by_cases h : i < len
    · obtain ⟨ad, eA, n, cs, y, hcl, hcell, htr, hwt⟩ := hi i h
      rw [hc1] at hcl hcell
      match cs, hcl with
      | [c], _ =>
        obtain ⟨z, rfl, wz⟩ := field_int he htr
        have hb : -9223372036854775808 ≤ z ∧ z ≤ 9223372036854775807 := by simpa [Lit.wf, IntKind.min, IntKind.max, IntKind.signed, IntKind.bits] using wz
        have h0 := hcell 0 (by omega)
        rw [Nat.mul_one, Nat.add_zero] at h0
        have hblk := World.block_lt_of_cell? W _ h0
        rw [add_block] at hblk
        exact ⟨z, fun _ => ⟨hb.1, hb.2, ad, eA, hblk, h0⟩⟩
    · exact ⟨0, fun h2 => (h h2).elim⟩
  obtain ⟨S, hS⟩ := Classical.axiomOfChoice step
  exact ⟨A, len, cap, S, rfl, hl, hS⟩

/-- Three numbers with an op within. -/
structure OpR where
  k : Int
  n : Nat
  s : Int
  o : OpV
structure OpR.Ok (W : World) (o : OpR) : Prop where
  hk : i64in o.k
  hn : o.n < 18446744073709551616
  hs : i64in o.s
  ho : o.o.Ok W
/-- Where it lies. -/
structure OpR.At (W : World) (ad : Addr) (i : Nat) (o : OpR) : Prop where
  lt : ad.block < W.heap.size
  c0 : W.cell? (ad.add (i * 8)) = some (.int .i64 o.k)
  c1 : W.cell? (ad.add (i * 8 + 1)) = some (.int .u64 (o.n : Int))
  c2 : W.cell? (ad.add (i * 8 + 2)) = some (.int .i64 o.s)
  c3 : W.cell? (ad.add (i * 8 + 3)) = some (.int .i64 o.o.k)
  c4 : W.cell? (ad.add (i * 8 + 4)) = some (.int .i64 o.o.i)
  c5 : W.cell? (ad.add (i * 8 + 5)) = some (.int .i64 o.o.a)
  c6 : W.cell? (ad.add (i * 8 + 6)) = some (.slice o.o.B o.o.bl.length o.o.bc)
  c7 : W.cell? (ad.add (i * 8 + 7)) = some (.slice o.o.M o.o.ml.length o.o.mc)
theorem OpR.At.keepW {ad : Addr} {i : Nat} {o : OpR} {w' : World} (h : o.At W ad i) (hb : Below W.heap.size W w') : o.At w' ad i := by
  have hk : ∀ k, w'.cell? (ad.add (i * 8 + k)) = W.cell? (ad.add (i * 8 + k)) := fun k => hb.cell (by rw [add_block]; exact h.lt)
  exact ⟨Nat.lt_of_lt_of_le h.lt hb.size, (hk 0).trans h.c0, (hk 1).trans h.c1, (hk 2).trans h.c2, (hk 3).trans h.c3, (hk 4).trans h.c4, (hk 5).trans h.c5, (hk 6).trans h.c6, (hk 7).trans h.c7⟩
/-- As the walk meets it. -/
theorem OpR.At.cells {ad : Addr} {i : Nat} {o : OpR} (h : o.At W ad i) :
    W.cell? (ad.add (i * 8)) = some (.int .i64 o.k) ∧ (∀ k v, 0 < k → W.cell? (ad.add (i * 8 + k)) = some v → W.cell? ⟨(ad.add (i * 8)).block, (ad.add (i * 8)).off + k, none⟩ = some v) := by
  refine ⟨h.c0, fun k v hk hv => ?_⟩
  rw [field_add _ _ _ (by omega)]; exact hv
theorem field_u64 {t : TypeId} {c : Value} {y : DataW H × List MemPlace} {base : Nat} {held : Bool} {fuel : Nat} {spare : Nat → Bool} (ht : P.underlying t = some (.int .u64)) (hf : DataW.trod enc P W base spare held fuel t [c] = some y) : ∃ n : Nat, c = .int .u64 (n : Int) ∧ n < 18446744073709551616 := by
  obtain ⟨z, hz, hw⟩ := field_int ht hf
  have hb : 0 ≤ z ∧ z ≤ 18446744073709551615 := by simpa [Lit.wf, IntKind.min, IntKind.max, IntKind.signed, IntKind.bits] using hw
  exact ⟨z.toNat, by rw [hz]; congr 1; omega, by omega⟩
theorem structs_opr {f0 f1 f2 f3 g0 g1 g2 g3 g4 : Field} {t e : TypeId} {A : Option Addr} {len : Nat} (hs : P.underlying t = some (.struct #[f0, f1, f2, f3])) (hg : P.underlying f3.type = some (.struct #[g0, g1, g2, g3, g4]))
    (h0 : P.underlying f0.type = some (.int .i64)) (h1 : P.underlying f1.type = some (.int .u64)) (h2 : P.underlying f2.type = some (.int .i64)) (k0 : P.underlying g0.type = some (.int .i64)) (k1 : P.underlying g1.type = some (.int .i64)) (k2 : P.underlying g2.type = some (.int .i64)) (k3 : P.underlying g3.type = some (.slice e)) (k4 : P.underlying g4.type = some (.slice e)) (he : P.underlying e = some (.int .u8)) (hc : P.cellsOf e = 1) (hb : P.bytesOf e = 1)
    (hC : P.cellsOf t = 8) (hO : [f0.offset, f1.offset, f2.offset, f3.offset, g0.offset, g1.offset, g2.offset, g3.offset, g4.offset] = [0, 1, 2, 3, 0, 1, 2, 3, 4]) (hS : [P.cellsOf f0.type, P.cellsOf f1.type, P.cellsOf f2.type, P.cellsOf f3.type, P.cellsOf g0.type, P.cellsOf g1.type, P.cellsOf g2.type, P.cellsOf g3.type, P.cellsOf g4.type] = [1, 1, 1, 5, 1, 1, 1, 1, 1])
    (h : ∀ i, i < len → ∃ ad, A = some ad ∧ ∃ (n : Nat) (cs : List Value) (y : DataW H × List MemPlace), cs.length = P.cellsOf t ∧ (∀ j, j < P.cellsOf t → W.cell? (ad.add (i * P.cellsOf t + j)) = some (cs.getD j undef)) ∧ DataW.trod enc P W 0 (fun _ => true) true n t cs = some y ∧ ∀ m ∈ y.1.weights P t, m ≤ reachBytes) :
    ∃ O : Nat → OpR, ∀ i, i < len → (O i).Ok W ∧ ∃ ad, A = some ad ∧ (O i).At W ad i := by
  simp only [List.cons.injEq, and_true] at hO hS
  obtain ⟨o0, o1, o2, o3, p0, p1, p2, p3, p4⟩ := hO
  obtain ⟨s0, s1, s2, s3, r0, r1, r2, r3, r4⟩ := hS
  rw [hC] at h
  have step : ∀ i : Nat, ∃ o : OpR, i < len → o.Ok W ∧ ∃ ad, A = some ad ∧ o.At W ad i := by
    intro i
    by_cases hi : i < len
    · obtain ⟨ad, ea, n, cs, y, hcl, hcell, htr, hwt⟩ := h i hi
      obtain ⟨xs, n', _, hx, _, hlen, hf⟩ := DataW.trod_struct hs htr
      match cs, hcl with
      | [c0, c1, c2, c3, c4, c5, c6, c7], _ =>
        match xs, hlen with
        | [x0, x1, x2, x3], _ =>
          have t0 := hf 0 f0 rfl
          have t1 := hf 1 f1 rfl
          have t2 := hf 2 f2 rfl
          have t3 := hf 3 f3 rfl
          rw [o0, s0] at t0
          rw [o1, s1] at t1
          rw [o2, s2] at t2
          rw [o3, s3] at t3
          have e1 : y.1 = .agg [x0.1, x1.1, x2.1, x3.1] := congrArg Prod.fst hx
          have w3 : ∀ m ∈ x3.1.weights P f3.type, m ≤ reachBytes := fun q hq => hwt q (by
            rw [e1]; simp only [DataW.weights, hs]
            exact DataW.weights_mem_each (j := 3) (t := f3.type) (d := x3.1) rfl rfl q hq)
          obtain ⟨zs, n2, _, hx2, _, hlen2, hf2⟩ := DataW.trod_struct hg t3
          match zs, hlen2 with
          | [z0, z1, z2, z3, z4], _ =>
            have u0 := hf2 0 g0 rfl
            have u1 := hf2 1 g1 rfl
            have u2 := hf2 2 g2 rfl
            have u3 := hf2 3 g3 rfl
            have u4 := hf2 4 g4 rfl
            rw [p0, r0] at u0
            rw [p1, r1] at u1
            rw [p2, r2] at u2
            rw [p3, r3] at u3
            rw [p4, r4] at u4
            have e2 : x3.1 = .agg [z0.1, z1.1, z2.1, z3.1, z4.1] := congrArg Prod.fst hx2
            have w6 : ∀ m ∈ z3.1.weights P g3.type, m ≤ reachBytes := fun q hq => w3 q (by
              rw [e2]; simp only [DataW.weights, hg]
              exact DataW.weights_mem_each (j := 3) (t := g3.type) (d := z3.1) rfl rfl q hq)
            have w7 : ∀ m ∈ z4.1.weights P g4.type, m ≤ reachBytes := fun q hq => w3 q (by
              rw [e2]; simp only [DataW.weights, hg]
              exact DataW.weights_mem_each (j := 4) (t := g4.type) (d := z4.1) rfl rfl q hq)
            obtain ⟨k, rfl, wk⟩ := field_int h0 t0
            obtain ⟨nn, rfl, wn⟩ := field_u64 h1 t1
            obtain ⟨s, rfl, ws⟩ := field_int h2 t2
            obtain ⟨ok, rfl, wok⟩ := field_int k0 u0
            obtain ⟨oi, rfl, woi⟩ := field_int k1 u1
            obtain ⟨oa, rfl, woa⟩ := field_int k2 u2
            obtain ⟨B, bl, bc, rfl, hB, hbc, hbl⟩ := field_bytesW k3 he hc hb u3 w6
            obtain ⟨M, ml, mc, rfl, hM, hmc, hml⟩ := field_bytesW k4 he hc hb u4 w7
            have r : ∀ z : Int, (Lit.int .i64 z).wf = true → i64in z := fun z hz => by unfold i64in; simpa [Lit.wf, IntKind.min, IntKind.max, IntKind.signed, IntKind.bits] using hz
            have hblk := World.block_lt_of_cell? W _ (hcell 0 (by omega))
            rw [add_block] at hblk
            exact ⟨⟨k, nn, s, ⟨ok, oi, oa, B, bl, bc, M, ml, mc⟩⟩, fun _ => ⟨⟨r k wk, wn, r s ws, ⟨r ok wok, r oi woi, r oa woa, ⟨hB, hbc, hbl⟩, ⟨hM, hmc, hml⟩⟩⟩, ad, ea, ⟨hblk, hcell 0 (by omega), hcell 1 (by omega), hcell 2 (by omega), hcell 3 (by omega), hcell 4 (by omega), hcell 5 (by omega), hcell 6 (by omega), hcell 7 (by omega)⟩⟩⟩
    · exact ⟨⟨0, 0, 0, ⟨0, 0, 0, none, [], 0, none, [], 0⟩⟩, fun h => (hi h).elim⟩
  exact Classical.axiomOfChoice step
end
end Go.Proofs.Ytpepbffhhfgdpaa
namespace Go.Proofs.Ytpepbffhhfgdpaa
open Go Go.RowKit
set_option linter.unusedVariables false
set_option linter.unusedSimpArgs false

/-- Where the rest of a slice lies. -/
def tailA (A : Option Addr) (cap n : Nat) : Option Addr := if cap = n then A else A.map (·.add n)
theorem run_tailQ {P : Program} (t e : TypeId) (i : TypeInfo) (ht : P.underlying t = some (.slice e)) (hi : P.info? e = some i) (hs : i.size = 1) (A : Option Addr) (len cap n : Nat) (hn : n ≤ len) (hl : len ≤ cap) (w : World) :
    (Instr.slice t (.slice A len cap) (some (.int .i64 (n : Int))) none none).run P w = .ok (.slice (tailA A cap n) (len - n) (cap - n)) w := by
  have h2 : ¬ len < n := by omega
  have h3 : ¬ cap < len := by omega
  simp [Instr.slice, run_underlying ht, Instr.sliceBounds, Instr.sliceBound, asIntOf, sizeOf, typeInfo, hi, hs, tailA]
  omega
theorem run_cutQ {P : Program} (t e : TypeId) (i : TypeInfo) (ht : P.underlying t = some (.slice e)) (hi : P.info? e = some i) (hs : i.size = 1) (A : Option Addr) (len cap n m : Nat) (hn : n ≤ m) (hm : m ≤ cap) (w : World) :
    (Instr.slice t (.slice A len cap) (some (.int .i64 (n : Int))) (some (.int .i64 (m : Int))) none).run P w = .ok (.slice (tailA A cap n) (m - n) (cap - n)) w := by
  have h2 : ¬ m < n := by omega
  have h3 : ¬ cap < m := by omega
  simp [Instr.slice, run_underlying ht, Instr.sliceBounds, Instr.sliceBound, asIntOf, sizeOf, typeInfo, hi, hs, tailA]
  rw [if_pos hm, if_pos hn]
theorem Rd.tailQ {w : World} {B cap n : Nat} {A : Option Addr} {xs : List Value} (h : Rd w B A xs) (hc : xs.length ≤ cap) : Rd w B (tailA A cap n) (xs.drop n) := fun h0 => by
  rw [List.length_drop] at h0
  obtain ⟨ad, e, hb, hc'⟩ := h (by omega)
  subst e
  refine ⟨ad.add n, ?_, by rw [add_block]; exact hb, fun j v hj => ?_⟩
  · unfold tailA
    rw [if_neg (by omega)]
    rfl
  · rw [List.getElem?_drop] at hj
    rw [add_add]
    exact hc' _ _ hj
end Go.Proofs.Ytpepbffhhfgdpaa
namespace Go.Proofs.Ytpepbffhhfgdpaa
open Go Go.RowKit
set_option linter.unusedVariables false
set_option linter.unusedSimpArgs false

/-- The same sixteen bytes. -/
def E16 (f g : Nat → Nat) : Prop := ∀ i, i < 16 → f i = g i
def B16 (f : Nat → Nat) : Prop := ∀ i, i < 16 → f i < 256
theorem E16.refl (f : Nat → Nat) : E16 f f := fun _ _ => rfl
theorem E16.symm {f g : Nat → Nat} (h : E16 f g) : E16 g f := fun i hi => (h i hi).symm
theorem E16.trans {f g h : Nat → Nat} (a : E16 f g) (b : E16 g h) : E16 f h := fun i hi => (a i hi).trans (b i hi)
theorem B16.of {f g : Nat → Nat} (h : B16 f) (e : E16 f g) : B16 g := fun i hi => by rw [← e i hi]; exact h i hi

/-- n bytes of an array. -/
def aN (n : Nat) (f : Nat → Nat) : Array Value := ((List.range n).map fun i => Value.int .u8 (f i : Int)).toArray
theorem aN_size (n : Nat) (f : Nat → Nat) : (aN n f).size = n := by simp [aN]
theorem aN_get (n : Nat) (f : Nat → Nat) (k : Nat) (hk : k < n) : (aN n f)[k]? = some (.int .u8 (f k : Int)) := by
  simp [aN, hk]
theorem aN_congr {n : Nat} {f g : Nat → Nat} (h : ∀ i, i < n → f i = g i) : aN n f = aN n g := by
  unfold aN
  congr 1
  apply List.map_congr_left
  intro i hi
  rw [h i (List.mem_range.mp hi)]
theorem aN_set (n : Nat) (f g : Nat → Nat) (k v : Nat) (hk : k < n) (hv : g k = v) (ho : ∀ j, j < n → j ≠ k → g j = f j) : (aN n f).setIfInBounds k (.int .u8 (v : Int)) = aN n g := by
  subst hv
  apply Array.ext_getElem?
  intro i
  rw [Array.getElem?_setIfInBounds, aN_size]
  by_cases h : k = i
  · subst h
    rw [if_pos rfl, if_pos hk, aN_get n g k hk]
  · rw [if_neg h]
    by_cases hi : i < n
    · rw [aN_get n f i hi, aN_get n g i hi, ho i hi (fun e => h e.symm)]
    · rw [Array.getElem?_eq_none (by rw [aN_size]; omega), Array.getElem?_eq_none (by rw [aN_size]; omega)]
theorem aN_one (n : Nat) (f : Nat → Nat) : (aN n f).all (·.oneCell') = true := by
  simp [aN, Value.oneCell']

/-- Bytes as values. -/
def vn (l : List Nat) : List Value := l.map fun (n : Nat) => Value.int .u8 (n : Int)
theorem vn_len (l : List Nat) : (vn l).length = l.length := by simp [vn]
theorem Rd.num {w : World} {B : Nat} {A : Option Addr} {l : List Nat} (h : Rd w B A (vn l)) {k : Nat} (hk : k < l.length) :
    ∃ ad, A = some ad ∧ ad.block < B ∧ w.cell? (ad.add k) = some (.int .u8 (l.getD k 0 : Int)) := by
  obtain ⟨ad, rfl, hb, hc⟩ := h.at_ (k := k) (by rw [vn_len]; exact hk)
  refine ⟨ad, rfl, hb, hc.trans ?_⟩
  simp [vn, List.getD, hk]

section
variable {w w' : World} {b g : Nat} {f z : Nat → Nat}
end
theorem zero16 : (#[.int .u8 0, .int .u8 0, .int .u8 0, .int .u8 0, .int .u8 0, .int .u8 0, .int .u8 0, .int .u8 0, .int .u8 0, .int .u8 0, .int .u8 0, .int .u8 0, .int .u8 0, .int .u8 0, .int .u8 0, .int .u8 0] : Array Value) = aN 16 fun _ => 0 := rfl

/-- n bytes as a list of values. -/
def vl (n : Nat) (f : Nat → Nat) : List Value := (List.range n).map fun i => Value.int .u8 (f i : Int)
theorem aN_vl (n : Nat) (f : Nat → Nat) : aN n f = (vl n f).toArray := rfl
theorem vl_len (n : Nat) (f : Nat → Nat) : (vl n f).length = n := by simp [vl]
theorem vl_get (n : Nat) (f : Nat → Nat) (k : Nat) (hk : k < n) : (vl n f)[k]? = some (.int .u8 (f k : Int)) := by simp [vl, hk]
theorem vl_one (n : Nat) (f : Nat → Nat) : ∀ v ∈ vl n f, v.oneCell' = true := by
  intro v hv
  simp only [vl, List.mem_map] at hv
  obtain ⟨b, _, rfl⟩ := hv
  rfl
theorem vl_congr {n : Nat} {f g : Nat → Nat} (h : ∀ i, i < n → f i = g i) : vl n f = vl n g := by
  unfold vl
  apply List.map_congr_left
  intro i hi
  rw [h i (List.mem_range.mp hi)]
theorem cell_kept {W w1 : World} {p : Addr} {v : Value} (hb : Below W.heap.size W w1) (h : W.cell? p = some v) : w1.cell? p = some v := (hb.cell (block_lt_of_cell h)).trans h
theorem range_kept {W w1 : World} {b o : Nat} {cs : List Value} (hb : Below W.heap.size W w1) (h : W.rangeAt b o cs) : w1.rangeAt b o cs := fun j v hj => cell_kept hb (h j v hj)
/-- The first k bytes added. -/
def addK (f g : Nat → Nat) (k i : Nat) : Nat := if i < k then f i ^^^ g i else f i
theorem addK_full (f g : Nat → Nat) : E16 (addK f g 16) (fun i => f i ^^^ g i) := fun i hi => by simp [addK, hi]
/-- Bytes added bit by bit. -/
theorem xor_u8 (a b : Nat) (ha : a < 256) (hb : b < 256) : bits .xor .u8 (a : Int) (b : Int) = ((a ^^^ b : Nat) : Int) := by
  have h : bits .xor .u8 (a : Int) (b : Int) = IntKind.u8.wrap (((BitVec.ofInt 8 (a : Int) ^^^ BitVec.ofInt 8 (b : Int)).toNat : Nat) : Int) := rfl
  rw [h, BitVec.toNat_xor, bv_nat 8 a ha, bv_nat 8 b hb]
  exact IntWalk.u8_in _ (by have : a ^^^ b < 2 ^ 8 := Nat.xor_lt_two_pow ha hb; omega)
theorem below_row {B : Nat} {w w' : World} (h : Below B w w') (g : Nat) (hg : B ≤ g) (cs : Array Value) : Below B w (w'.setRow g cs) := Go.below_setRow h hg cs
end Go.Proofs.Ytpepbffhhfgdpaa
namespace Go.Proofs.Ytpepbffhhfgdpaa
set_option linter.unusedVariables false
set_option linter.unusedSimpArgs false

/-- A number's bytes. -/
def leb (n : Nat) : List Nat := if h : n < 128 then [n] else (n % 128 + 128) :: leb (n / 128)
theorem leb_small {n : Nat} (h : n < 128) : leb n = [n] := by rw [leb, dif_pos h]
theorem leb_big {n : Nat} (h : ¬ n < 128) : leb n = (n % 128 + 128) :: leb (n / 128) := by rw [leb, dif_neg h]
theorem leb_ne (n : Nat) : leb n ≠ [] := by
  by_cases h : n < 128
  · rw [leb_small h]; simp
  · rw [leb_big h]; simp
theorem leb_pos (n : Nat) : 0 < (leb n).length := List.length_pos_iff.2 (leb_ne n)
theorem leb_lt (n : Nat) : ∀ x ∈ leb n, x < 256 := by
  induction n using Nat.strongRecOn with
  | _ n ih =>
    intro x hx
    by_cases h : n < 128
    · rw [leb_small h] at hx; simp at hx; omega
    · rw [leb_big h, List.mem_cons] at hx
      rcases hx with rfl | hx
      · omega
      · exact ih (n / 128) (by omega) x hx
theorem leb_len (n k : Nat) (h : n < 128 ^ k) (hk : 0 < k) : (leb n).length ≤ k := by
  induction k generalizing n with
  | zero => omega
  | succ k ih =>
    by_cases h1 : n < 128
    · rw [leb_small h1]; simp
    · rw [leb_big h1, List.length_cons]
      have hk0 : 0 < k := by
        rcases Nat.eq_zero_or_pos k with rfl | h0
        · simp at h; omega
        · exact h0
      have := ih (n / 128) (by rw [Nat.pow_succ] at h; omega) hk0
      omega
theorem leb_ten (n : Nat) (h : n < 18446744073709551616) : (leb n).length ≤ 10 := by
  have e : (128 : Nat) ^ 10 = 1180591620717411303424 := by decide
  exact leb_len n 10 (by omega) (by omega)

/-- What stands at the beginning of bytes: a number, how many bytes it has, and a fault. -/
def tkL : List Nat → Nat → Nat → Nat → Nat × Nat × Nat
  | [], _, _, _ => (0, 0, 4)
  | x :: r, i, n, y =>
    if i = 9 ∧ 1 < x then (0, 0, 6)
    else if 128 ≤ x then tkL r (i + 1) (n + x % 128 * y) (y * 128)
    else if x = 0 ∧ 0 < i then (0, 0, 5)
    else (n + x % 128 * y, i + 1, 0)
def tk (l : List Nat) : Nat × Nat × Nat := tkL l 0 0 1
/-- A number's own bytes are read as the number, whatever follows. -/
theorem tkL_leb (m : Nat) (r : List Nat) : ∀ (i n y : Nat), i ≤ 9 → m < 2 ^ (64 - 7 * i) → (0 < i → 0 < m) → tkL (leb m ++ r) i n y = (n + m * y, i + (leb m).length, 0) := by
  induction m using Nat.strongRecOn with
  | _ m ih =>
    intro i n y hi hm h0
    by_cases h : m < 128
    · rw [leb_small h]
      have h1 : ¬ (i = 9 ∧ 1 < m) := by
        rintro ⟨rfl, h2⟩
        have : (2 : Nat) ^ (64 - 7 * 9) = 2 := by decide
        omega
      have h3 : ¬ (m = 0 ∧ 0 < i) := by rintro ⟨rfl, h2⟩; have := h0 h2; omega
      show tkL (m :: r) i n y = _
      rw [tkL, if_neg h1, if_neg (by omega), if_neg h3, Nat.mod_eq_of_lt h]
      rfl
    · rw [leb_big h]
      have h9 : i < 9 := by
        rcases Nat.lt_or_ge i 9 with h1 | h1
        · exact h1
        · obtain rfl : i = 9 := by omega
          have : (2 : Nat) ^ (64 - 7 * 9) = 2 := by decide
          omega
      have hp : (2 : Nat) ^ (64 - 7 * i) = 2 ^ (64 - 7 * (i + 1)) * 128 := by
        rw [show 64 - 7 * i = (64 - 7 * (i + 1)) + 7 from by omega, Nat.pow_add]
      show tkL ((m % 128 + 128) :: (leb (m / 128) ++ r)) i n y = _
      rw [tkL, if_neg (by omega), if_pos (by omega), ih (m / 128) (by omega) (i + 1) _ _ (by omega) (by omega) (by omega)]
      have e : n + (m % 128 + 128) % 128 * y + m / 128 * (y * 128) = n + m * y := by
        have h1 : (m % 128 + 128) % 128 = m % 128 := by omega
        have h2 : m * y = m % 128 * y + m / 128 * (y * 128) := by
          conv => lhs; rw [← Nat.mod_add_div m 128]
          rw [Nat.add_mul, Nat.mul_comm 128 (m / 128), Nat.mul_assoc, Nat.mul_comm 128 y]
        rw [h1, h2, Nat.add_assoc]
      rw [e, List.length_cons]
      congr 2
      omega
theorem tk_leb (m : Nat) (hm : m < 18446744073709551616) (r : List Nat) : tk (leb m ++ r) = (m, (leb m).length, 0) := by
  unfold tk
  rw [tkL_leb m r 0 0 1 (by omega) hm (by omega)]
  simp
/-- Less than all of a number's bytes end too early. -/
theorem tkL_short (m : Nat) : ∀ (i n y k : Nat), i ≤ 9 → m < 2 ^ (64 - 7 * i) → k < (leb m).length → tkL ((leb m).take k) i n y = (0, 0, 4) := by
  induction m using Nat.strongRecOn with
  | _ m ih =>
    intro i n y k hi hm hk
    by_cases h : m < 128
    · rw [leb_small h] at hk ⊢
      obtain rfl : k = 0 := by simp at hk; exact hk
      rfl
    · rw [leb_big h] at hk ⊢
      rcases k with _ | k
      · rfl
      · have h9 : i < 9 := by
          rcases Nat.lt_or_ge i 9 with h1 | h1
          · exact h1
          · obtain rfl : i = 9 := by omega
            have : (2 : Nat) ^ (64 - 7 * 9) = 2 := by decide
            omega
        have hp : (2 : Nat) ^ (64 - 7 * i) = 2 ^ (64 - 7 * (i + 1)) * 128 := by
          rw [show 64 - 7 * i = (64 - 7 * (i + 1)) + 7 from by omega, Nat.pow_add]
        rw [List.take_succ_cons, tkL, if_neg (by omega), if_pos (by omega)]
        exact ih (m / 128) (by omega) (i + 1) _ _ k (by omega) (by omega) (by simpa using hk)
theorem tk_short (m : Nat) (hm : m < 18446744073709551616) (k : Nat) (hk : k < (leb m).length) : tk ((leb m).take k) = (0, 0, 4) := tkL_short m 0 0 1 k (by omega) hm hk
/-- Bytes that are read as a number begin with its own. -/
theorem tkL_only (l : List Nat) : (∀ x ∈ l, x < 256) → ∀ (i n y v k : Nat), i ≤ 9 → tkL l i n y = (v, k, 0) → ∃ m, v = n + m * y ∧ m < 2 ^ (64 - 7 * i) ∧ (0 < i → 0 < m) ∧ k = i + (leb m).length ∧ (leb m).length ≤ l.length ∧ l.take (leb m).length = leb m := by
  induction l with
  | nil => intro _ i n y v k _ h; simp [tkL] at h
  | cons x r ih =>
    intro hl i n y v k hi h
    have hx : x < 256 := hl x (List.mem_cons_self ..)
    rw [tkL] at h
    split at h
    · simp at h
    · rename_i h1
      split at h
      · rename_i h2
        have h9 : i < 9 := by
          rcases Nat.lt_or_ge i 9 with h3 | h3
          · exact h3
          · exact (h1 ⟨by omega, by omega⟩).elim
        have hp : (2 : Nat) ^ (64 - 7 * i) = 2 ^ (64 - 7 * (i + 1)) * 128 := by
          rw [show 64 - 7 * i = (64 - 7 * (i + 1)) + 7 from by omega, Nat.pow_add]
        obtain ⟨m, rfl, hm, hm0, rfl, hml, hmt⟩ := ih (fun x hx => hl x (List.mem_cons_of_mem _ hx)) (i + 1) _ _ v k (by omega) h
        have hmp := hm0 (by omega)
        have hb : ¬ (x - 128 + 128 * m) < 128 := by omega
        have e1 : (x - 128 + 128 * m) % 128 = x - 128 := by omega
        have e2 : (x - 128 + 128 * m) / 128 = m := by omega
        have e3 : leb (x - 128 + 128 * m) = x :: leb m := by
          rw [leb_big hb, e1, e2]
          congr 1
          omega
        refine ⟨x - 128 + 128 * m, ?_, by omega, fun _ => by omega, ?_, ?_, ?_⟩
        · have h4 : x % 128 = x - 128 := by omega
          rw [h4, Nat.add_mul, Nat.mul_comm 128 m, Nat.mul_assoc, Nat.mul_comm 128 y, Nat.add_assoc]
        · rw [e3, List.length_cons]; omega
        · rw [e3, List.length_cons, List.length_cons]; omega
        · rw [e3, List.length_cons, List.take_succ_cons, hmt]
      · rename_i h2
        split at h
        · simp at h
        · rename_i h3
          simp only [Prod.mk.injEq] at h
          have hs : x < 128 := by omega
          refine ⟨x, ?_, ?_, fun h0 => by omega, ?_, ?_, ?_⟩
          · rw [← h.1, Nat.mod_eq_of_lt hs]
          · rcases Nat.lt_or_ge i 9 with h4 | h4
            · have : (2 : Nat) ^ 7 ≤ 2 ^ (64 - 7 * i) := Nat.pow_le_pow_right (by omega) (by omega)
              have e7 : (2 : Nat) ^ 7 = 128 := by decide
              omega
            · obtain rfl : i = 9 := by omega
              have : (2 : Nat) ^ (64 - 7 * 9) = 2 := by decide
              omega
          · rw [leb_small hs, ← h.2.1]; rfl
          · rw [leb_small hs]; simp
          · rw [leb_small hs]; rfl
theorem tk_only (l : List Nat) (hl : ∀ x ∈ l, x < 256) (v k : Nat) (h : tk l = (v, k, 0)) : v < 18446744073709551616 ∧ k = (leb v).length ∧ k ≤ l.length ∧ l.take k = leb v := by
  obtain ⟨m, rfl, hm, _, rfl, h1, h2⟩ := tkL_only l hl 0 0 1 v k (by omega) h
  rw [Nat.zero_add, Nat.mul_one, Nat.zero_add]
  exact ⟨hm, rfl, h1, h2⟩
/-- The faults that there are, and what stands beside them. -/
theorem tkL_fault (l : List Nat) : ∀ (i n y : Nat), (tkL l i n y).2.2 ≠ 0 → ((tkL l i n y) = (0, 0, 4) ∨ (tkL l i n y) = (0, 0, 5) ∨ (tkL l i n y) = (0, 0, 6)) := by
  induction l with
  | nil => intro i n y _; exact .inl rfl
  | cons x r ih =>
    intro i n y h
    rw [tkL] at h ⊢
    split at h
    · rename_i h1; rw [if_pos h1]; exact .inr (.inr rfl)
    · rename_i h1
      rw [if_neg h1]
      split at h
      · rename_i h2; rw [if_pos h2]; exact ih _ _ _ h
      · rename_i h2
        rw [if_neg h2]
        split at h
        · rename_i h3; rw [if_pos h3]; exact .inr (.inl rfl)
        · exact (h rfl).elim
theorem tk_fault (l : List Nat) (h : (tk l).2.2 ≠ 0) : tk l = (0, 0, 4) ∨ tk l = (0, 0, 5) ∨ tk l = (0, 0, 6) := tkL_fault l 0 0 1 h
end Go.Proofs.Ytpepbffhhfgdpaa
namespace Go.Proofs.Ytpepbffhhfgdpaa
open Go Go.RowKit
set_option linter.unusedVariables false
set_option linter.unusedSimpArgs false

theorem vn_appP (a b : List Nat) : vn (a ++ b) = vn a ++ vn b := by simp [vn]
theorem vn_oneP (l : List Nat) : ∀ v ∈ vn l, v.oneCell' = true := by
  intro v hv
  simp only [vn, List.mem_map] at hv
  obtain ⟨b, _, rfl⟩ := hv
  rfl
/-- A block of one byte, as an owned row. -/
theorem own_one (w : World) (x : Nat) : (w.alloc (.cells #[.int .u8 (x : Int)] 5)).ownsRow w.heap.size 5 1 (.slice (some ⟨w.heap.size, 0, none⟩) 1 1) 1 (vn [x]) := by
  have := own_of_blk (n := 1) (cap := 1) (heap_alloc_new w (.cells #[.int .u8 (x : Int)] 5)) (Nat.le_refl _) (Nat.le_refl _) (by unfold maxLen; omega) rfl
  exact this

end Go.Proofs.Ytpepbffhhfgdpaa
namespace Go.Proofs.Ytpepbffhhfgdpaa
open Go Go.RowKit
set_option linter.unusedVariables false
set_option linter.unusedSimpArgs false

theorem tkL_drop (l : List Nat) (k a y x : Nat) (hx : l[k]? = some x) : tkL (l.drop k) k a y =
    if k = 9 ∧ 1 < x then (0, 0, 6) else if 128 ≤ x then tkL (l.drop (k + 1)) (k + 1) (a + x % 128 * y) (y * 128) else if x = 0 ∧ 0 < k then (0, 0, 5) else (a + x % 128 * y, k + 1, 0) := by
  have hk : k < l.length := (List.getElem?_eq_some_iff.1 hx).1
  rw [List.drop_eq_getElem_cons hk, show l[k] = x from by rw [List.getElem?_eq_getElem hk] at hx; exact Option.some.inj hx, tkL]

end Go.Proofs.Ytpepbffhhfgdpaa
namespace Go.Proofs.Ytpepbffhhfgdpaa
open Go Go.RowKit
set_option linter.unusedVariables false
set_option linter.unusedSimpArgs false

section
variable {w : World} {p : Nat} {B : Option Addr} {n cap at_ f : Nat}
theorem grown_set (w : World) (p k : Nat) (v : Value) : w.grownBy (w.setCell ⟨p, k, none⟩ v) (some p) := ⟨rfl, rfl, rfl, by simp, fun q _ hq => heap_setCell_other w ⟨p, k, none⟩ q v (fun e => hq (by simp [e]))⟩
theorem grown_drewN (w : World) (m : Nat) (r : Option Nat) : w.grownBy (w.drewN m) r := ⟨rfl, rfl, rfl, Nat.le_refl _, fun _ _ _ => rfl⟩
theorem grown_trans {a b c : World} {r : Option Nat} (h : a.grownBy b r) (k : b.grownBy c r) : a.grownBy c r :=
  ⟨k.os.trans h.os, k.tape.trans h.tape, k.output.trans h.output, Nat.le_trans h.size k.size, fun q hq hne => (k.block q (Nat.lt_of_lt_of_le hq h.size) hne).trans (h.block q hq hne)⟩
end

theorem run_tailP {P : Program} (t e : TypeId) (i : TypeInfo) (ht : P.underlying t = some (.slice e)) (hi : P.info? e = some i) (hs : i.size = 1) (bd : Addr) (len cap n : Nat) (hn : n ≤ len) (hl : len < cap) (w : World) :
    (Instr.slice t (.slice (some bd) len cap) (some (.int .i64 (n : Int))) none none).run P w = .ok (.slice (some (bd.add n)) (len - n) (cap - n)) w := by
  have h1 : cap ≠ n := by omega
  have h2 : ¬ len < n := by omega
  have h3 : ¬ cap < len := by omega
  simp [Instr.slice, run_underlying ht, Instr.sliceBounds, Instr.sliceBound, asIntOf, sizeOf, typeInfo, hi, hs, h1]
  omega
theorem Rd.tailP {w : World} {B : Nat} {bd : Addr} {xs : List Value} (h : Rd w B (some bd) xs) (n : Nat) : Rd w B (some (bd.add n)) (xs.drop n) := fun h0 => by
  rw [List.length_drop] at h0
  obtain ⟨ad, e, hb, hc⟩ := h (by omega)
  cases e
  refine ⟨bd.add n, rfl, by rw [add_block]; exact hb, fun j v hj => ?_⟩
  rw [List.getElem?_drop] at hj
  rw [add_add]
  exact hc _ _ hj
theorem vn_drop (l : List Nat) (k : Nat) : vn (l.drop k) = (vn l).drop k := by simp [vn, List.map_drop]

end Go.Proofs.Ytpepbffhhfgdpaa
namespace Go.Proofs.Ytpepbffhhfgdpaa
open Go Go.RowKit
set_option linter.unusedVariables false
set_option linter.unusedSimpArgs false

end Go.Proofs.Ytpepbffhhfgdpaa
namespace Go.Proofs.Ytpepbffhhfgdpaa
open Go Go.RowKit
set_option linter.unusedVariables false
set_option linter.unusedSimpArgs false

/-- What is wrong with a text of v bytes, of which no more than most may be and rest are there. -/
def txE (most : Int) (v rest e : Nat) : Nat := if e ≠ 0 then e else if (most ≤ 0 ∧ 0 < v) ∨ (0 < most ∧ most < (v : Int)) then 3 else if rest < v then 4 else 0
theorem own_lowP {w : World} {base base' e n : Nat} {v : Value} {xs : List Value} (h : w.ownsRow base e 1 v n xs) (hb : base' ≤ base) : w.ownsRow base' e 1 v n xs :=
  ⟨h.1, h.2.imp id fun ⟨g, cap, cur, hv, hg, rest⟩ => ⟨g, cap, cur, hv, Nat.le_trans hb hg, rest⟩⟩
theorem own_setP {w : World} {base e n p k : Nat} {v u : Value} {xs : List Value} (h : w.ownsRow base e 1 v n xs) (hp : p < base) : (w.setCell ⟨p, k, none⟩ u).ownsRow base e 1 v n xs :=
  ⟨h.1, h.2.imp id fun ⟨g, cap, cur, hv, hg, hh, rest⟩ => ⟨g, cap, cur, hv, hg, (heap_setCell_other _ _ _ _ (by show g ≠ p; omega)).trans hh, rest⟩⟩
theorem grown_below {w w' : World} (h : Below w.heap.size w w') (r : Option Nat) : w.grownBy w' r := ⟨h.os, h.tape, h.output, h.size, fun q hq _ => h.block q hq⟩

end Go.Proofs.Ytpepbffhhfgdpaa
namespace Go.Proofs.Ytpepbffhhfgdpaa
open Go Go.RowKit
set_option linter.unusedVariables false
set_option linter.unusedSimpArgs false

theorem tk_bounds (l : List Nat) (hl : ∀ x ∈ l, x < 256) : (tk l).1 < 18446744073709551616 ∧ (tk l).2.1 ≤ 10 ∧ (tk l).2.1 ≤ l.length := by
  by_cases h : (tk l).2.2 = 0
  · obtain ⟨h1, h2, h3, _⟩ := tk_only l hl (tk l).1 (tk l).2.1 (by rw [← h])
    exact ⟨h1, by rw [h2]; exact leb_ten _ h1, h3⟩
  · rcases tk_fault l h with e | e | e <;> rw [e] <;> exact ⟨by decide, by decide, Nat.zero_le _⟩
/-- Num: what is answered, the place and the fault behind. -/
def rdNum (l : List Nat) (a f : Nat) : Nat × Nat × Nat := if f ≠ 0 then (0, a, f) else ((tk (l.drop a)).1, a + (tk (l.drop a)).2.1, (tk (l.drop a)).2.2)
def rdByte (l : List Nat) (a f : Nat) : Nat × Nat × Nat := if f ≠ 0 then (0, a, f) else if a = l.length then (0, a, 4) else (l.getD a 0, a + 1, 0)
def rdDone (l : List Nat) (a f : Nat) : Nat := if f = 0 ∧ a < l.length then 5 else f
/-- Text: the fault that it comes to. -/
def rdE (l : List Nat) (a : Nat) (most : Int) : Nat := txE most (tk (l.drop a)).1 (l.length - a - (tk (l.drop a)).2.1) (tk (l.drop a)).2.2
def rdText (l : List Nat) (a f : Nat) (most : Int) : List Nat × Nat × Nat :=
  if f ≠ 0 then ([], a, f) else if rdE l a most ≠ 0 then ([], a, rdE l a most)
  else ((l.drop (a + (tk (l.drop a)).2.1)).take (tk (l.drop a)).1, a + (tk (l.drop a)).2.1 + (tk (l.drop a)).1, 0)
theorem mem_dropP {l : List Nat} (hl : ∀ x ∈ l, x < 256) (a : Nat) : ∀ x ∈ l.drop a, x < 256 := fun x hx => hl x (List.mem_of_mem_drop hx)
theorem rdNum_le (l : List Nat) (hl : ∀ x ∈ l, x < 256) (a f : Nat) (h : a ≤ l.length) : (rdNum l a f).2.1 ≤ l.length := by
  unfold rdNum
  split
  · exact h
  · have := (tk_bounds (l.drop a) (mem_dropP hl a)).2.2
    rw [List.length_drop] at this
    show a + _ ≤ _
    omega
theorem rdNum_lt (l : List Nat) (hl : ∀ x ∈ l, x < 256) (a f : Nat) : (rdNum l a f).1 < 18446744073709551616 := by
  unfold rdNum
  split
  · show (0 : Nat) < 18446744073709551616
    decide
  · exact (tk_bounds (l.drop a) (mem_dropP hl a)).1
theorem rdByte_le (l : List Nat) (a f : Nat) (h : a ≤ l.length) : (rdByte l a f).2.1 ≤ l.length := by
  unfold rdByte
  split
  · exact h
  · split
    · exact h
    · show a + 1 ≤ _; omega
theorem txE_ok {most : Int} {v rest e : Nat} (h : txE most v rest e = 0) : e = 0 ∧ v ≤ rest := by
  unfold txE at h
  split at h
  · omega
  · split at h
    · omega
    · split at h
      · omega
      · omega
theorem rdText_le (l : List Nat) (hl : ∀ x ∈ l, x < 256) (a f : Nat) (most : Int) (h : a ≤ l.length) : (rdText l a f most).2.1 ≤ l.length := by
  unfold rdText
  split
  · exact h
  · split
    · exact h
    · rename_i h1 h2
      have h3 : (tk (l.drop a)).1 ≤ l.length - a - (tk (l.drop a)).2.1 := (txE_ok (Nat.eq_zero_of_not_pos (fun hh => h2 (by omega)) : rdE l a most = 0)).2
      have h4 := (tk_bounds (l.drop a) (mem_dropP hl a)).2.2
      rw [List.length_drop] at h4
      show a + _ + _ ≤ _
      omega
theorem rdText_lt (l : List Nat) (hl : ∀ x ∈ l, x < 256) (a f : Nat) (most : Int) : ∀ x ∈ (rdText l a f most).1, x < 256 := by
  unfold rdText
  split
  · simp
  · split
    · simp
    · exact fun x hx => hl x (List.mem_of_mem_drop (List.mem_of_mem_take hx))

end Go.Proofs.Ytpepbffhhfgdpaa
namespace Go.Proofs.Ytpepbffhhfgdpaa
open Go Go.RowKit
set_option linter.unusedVariables false
set_option linter.unusedSimpArgs false

theorem andnot_128 (x : Nat) (h : x < 256) : bits .andNot .u8 (x : Int) 128 = ((x % 128 : Nat) : Int) :=
  (show ∀ y : Fin 256, bits .andNot .u8 (y.val : Int) 128 = ((y.val % 128 : Nat) : Int) by decide +kernel) ⟨x, h⟩
theorem or_128 (x : Nat) (h : x < 256) : bits .or .u8 (x : Int) 128 = ((x % 128 + 128 : Nat) : Int) :=
  (show ∀ y : Fin 256, bits .or .u8 (y.val : Int) 128 = ((y.val % 128 + 128 : Nat) : Int) by decide +kernel) ⟨x, h⟩
theorem pow_128 (k : Nat) : (128 : Nat) ^ k = 2 ^ (7 * k) := by rw [Nat.pow_mul]
theorem or_above (a m k : Nat) (ha : a < 128 ^ k) : a ||| (m * 128 ^ k) = a + m * 128 ^ k := by
  rw [pow_128] at ha ⊢
  rw [Nat.or_comm, ← Nat.shiftLeft_eq, ← Nat.shiftLeft_add_eq_or_of_lt ha, Nat.add_comm]
theorem or_shift (acc m k : Nat) (hk : k ≤ 9) (hm : m < 128) (ha : acc < 128 ^ k) (h9 : k = 9 → m ≤ 1) : bits .or .u64 (acc : Int) (IntKind.u64.wrap ((m : Int) * 2 ^ (7 * k))) = ((acc + m * 128 ^ k : Nat) : Int) := by
  have e9 : (128 : Nat) ^ 9 = 9223372036854775808 := by decide
  have e8 : (128 : Nat) ^ 8 = 72057594037927936 := by decide
  have h1 : 128 ^ k ≤ 128 ^ 9 := Nat.pow_le_pow_right (by omega) hk
  have hb : m * 128 ^ k ≤ 9223372036854775808 := by
    by_cases h : k = 9
    · have h2 := h9 h
      subst h
      have h3 : m * 128 ^ 9 ≤ 1 * 128 ^ 9 := Nat.mul_le_mul_right _ h2
      omega
    · have h2 : 128 ^ k ≤ 128 ^ 8 := Nat.pow_le_pow_right (by omega) (by omega)
      have h3 : m * 128 ^ k ≤ 127 * 128 ^ k := Nat.mul_le_mul_right _ (by omega)
      omega
  have e1 : (m : Int) * 2 ^ (7 * k) = ((m * 128 ^ k : Nat) : Int) := by rw [pow_128, Int.natCast_mul, Int.natCast_pow]; rfl
  rw [e1, IntWalk.u64_in _ (by omega), bits64_or _ _ (by omega) (by omega), or_above acc m k ha]

end Go.Proofs.Ytpepbffhhfgdpaa
namespace Go.Proofs.Ytpepbffhhfgdpaa
open Go Go.RowKit
set_option linter.unusedVariables false
set_option linter.unusedSimpArgs false

theorem append_none_run {P : Program} {w : World} {base e : Nat} {t ty : TypeId} {i : TypeInfo} (ht : P.underlying t = some (.slice e)) (hi : P.info? e = some i) {v : Value} {n : Nat} {xs : List Value} (hown : w.ownsRow base e 1 v n xs) (A : Option Addr) (c : Nat) :
    (Builtin.append_ #[t, t] ty #[v, .slice A 0 c]).run P w = .ok v w := by
  have hl : ∀ ad : Addr, (loadCells ad 0).run P w = .ok #[] w := fun ad => by
    have := run_loadCells_list (P := P) w ad [] (fun j v hj => by simp at hj)
    simpa using this
  rcases hown.2 with ⟨rfl, rfl⟩ | ⟨g, cap, cur, rfl, _, _, hnc, _⟩
  · cases A <;> simp [Builtin.append_, run_underlying ht, sizeOf, typeInfo, hi, Builtin.lenOf, Builtin.firstCells, hl, storeCells]
  · cases A <;> simp [Builtin.append_, run_underlying ht, sizeOf, typeInfo, hi, Builtin.lenOf, Builtin.firstCells, hnc, hl, storeCells]

/-- append(v, xs...), xs whatever: the value is owned again, and no older memory is written. -/
theorem wpList_append_all {P : Program} {w : World} {ops : Array Oper} {rest : List Oper} {o : Oper} {a : Act} {Q : Exit → Act → World → Prop} (hg : o.guard = none) (s x : Operand) (t : TypeId)
    (ho : o.op = .call { callee := .builtin .append, args := #[s, x], argTypes := #[t, t] }) (base e : Nat) (i : TypeInfo) (z : Value) (bytes : Nat) (ht : P.underlying t = some (.slice e)) (hi : P.info? e = some i) (hz : i.zero = some z)
    (hsize : i.size = 1) (hby : i.bytes = bytes) (hzs : z.cells.size = 1) (v : Value) (n : Nat) (xs : List Value) (hs : a.eval s = v) (hown : w.ownsRow base e 1 v n xs)
    (A : Option Addr) (m c : Nat) (news : List Value) (hx : a.eval x = .slice A m c) (hl : news.length = m) (hR : Rd w w.heap.size A news) (h1 : ∀ u ∈ news, u.oneCell' = true)
    (h63 : n + m ≤ maxLen) (hbytes : (n + m) * bytes ≤ 140737488355328) (hbase : base ≤ w.heap.size)
    (h : ∀ v' w', Hid (w'.ownsRow base e 1 v' (n + m) (xs ++ news)) → Hid (Below base w w') → Hid (w.grownBy w' v.ownBlock) → wpList P ops Q rest (a.put o.dst v') w') : wpList P ops Q (o :: rest) a w := by
  by_cases h0 : m = 0
  · subst h0
    obtain rfl : news = [] := List.eq_nil_of_length_eq_zero hl
    refine wpList_plain hg fun K hK => ?_
    have hrun := append_none_run (P := P) (w := w) (ty := o.type) ht hi hown A c
    unfold Oper.wp
    simp [execOp, ho, resolve, invoke, builtin, hs, hx, hrun, Result.andThen]
    exact hK _ _ (h v w (Lib.hid (by simpa using hown)) (Lib.hid (Below.refl _ _)) (Lib.hid ⟨rfl, rfl, rfl, Nat.le_refl _, fun _ _ _ => rfl⟩))
  · obtain ⟨ad, rfl, _, hc⟩ := hR (by omega)
    refine wpList_append_lies w hg s x t ho base e i z 1 bytes ht hi hz hsize hby hzs (by omega) v n xs hs hown ad m c news hx (by omega) hc h1 (by omega) h63 hbytes hbase w.heap.size rfl ?_
    intro g cap w' hown' hgrow _ _
    exact h _ w' (Lib.hid hown') (Lib.hid ((Below.refl base w).grown hgrow hbase (fun k hk => (hown.lt k hk).1))) (Lib.hid hgrow)
end Go.Proofs.Ytpepbffhhfgdpaa
namespace Go.Proofs.Ytpepbffhhfgdpaa
open Go Go.RowKit
set_option linter.unusedVariables false
set_option linter.unusedSimpArgs false

/-- bytes.Clone. -/
theorem cclone_none (cap : Nat) (w : World) :
    Calls Try.prog 33 #[.slice none 0 cap] w fun e w' => e = .returned (.slice none 0 0) ∧ w' = w := by
  have hnil := fun W : World => Lib.run_eql_slice_nil W 31 5 none 0 cap 0 0 Try.underlying31
  go_enter Try.func33, Try.ntmps33
  go_wp2_with fail
  go_ret
  exact ⟨rfl, rfl⟩
theorem own_empty (w : World) : (w.alloc (.cells #[] 5)).ownsRow w.heap.size 5 1 (.slice (some ⟨w.heap.size, 0, none⟩) 0 0) 0 [] :=
  own_of_blk (n := 0) (cap := 0) (heap_alloc_new w (.cells #[] 5)) (Nat.le_refl _) (Nat.le_refl _) (by unfold maxLen; omega) rfl
set_option maxRecDepth 100000 in
set_option maxHeartbeats 4000000 in
theorem cclone_some (ad : Addr) (l : List Nat) (n cap : Nat) (hn : l.length = n) (hle : n ≤ 140737488351232) (w : World) (h : Rd w w.heap.size (some ad) (vn l)) :
    Calls Try.prog 33 #[.slice (some ad) n cap] w fun e w' => ∃ v, e = .returned v ∧ w'.ownsRow w.heap.size 5 1 v n (vn l) ∧ Below w.heap.size w w' := by
  obtain ⟨j0, hi, hz0, hz1, hz2⟩ := info_parts info_b
  have HN := Lib.hid hn; clear hn
  have hb1 : Below w.heap.size w (w.alloc (.cells #[] 5)) := (Below.refl _ _).alloc (Nat.le_refl _) _
  have H1 := Lib.hid (h.go hb1); clear h
  have HO := Lib.hid (own_empty w)
  have HB := Lib.hid hb1; clear hb1
  have hnil := fun W : World => Lib.run_eql_slice_nil W 31 5 (some ad) n cap 0 0 Try.underlying31
  go_enter Try.func33, Try.ntmps33
  have sz := HB.out.size
  go_wp2_with (at_builtin; refine wpList_append_all rfl (.tmp 5) (.tmp 6) 31 rfl w.heap.size 5 j0 (.int .u8 0) 1 Try.underlying31 hi hz0 hz1 hz2 rfl (.slice (some ⟨w.heap.size, 0, none⟩) 0 0) 0 [] rfl HO.out (some ad) n cap (vn l) rfl (by rw [vn_len]; exact HN.out) H1.out (vn_oneP _) (by unfold maxLen; omega) (by omega) sz ?_; intro v3 w3 hown3 hb3 hgrow3)
  go_ret
  refine ⟨_, rfl, ?_, HB.out.trans hb3.out⟩
  simpa using hown3.out
theorem cclone_any (A : Option Addr) (l : List Nat) (n cap : Nat) (hn : l.length = n) (hle : n ≤ 140737488351232) (w : World) (h : Rd w w.heap.size A (vn l)) :
    Calls Try.prog 33 #[.slice A n cap] w fun e w' => ∃ v, e = .returned v ∧ w'.ownsRow w.heap.size 5 1 v n (vn l) ∧ Below w.heap.size w w' := by
  cases A with
  | some ad => exact cclone_some ad l n cap hn hle w h
  | none =>
    have h0 : n = 0 := by
      rcases Nat.eq_zero_or_pos n with e | e
      · exact e
      · obtain ⟨ad, e2, _⟩ := h (by rw [vn_len, hn]; exact e)
        cases e2
    subst h0
    obtain rfl : l = [] := List.eq_nil_of_length_eq_zero hn
    refine (cclone_none cap w).mono ?_
    rintro e w' ⟨rfl, rfl⟩
    exact ⟨_, rfl, World.ownsRow_nil _ _ _ _, Below.refl _ _⟩

end Go.Proofs.Ytpepbffhhfgdpaa
