/-
  Several texts in one:
  Plain words for memory and bytes: a slice that can be read, bytes as values, what the operations on bytes come to. No program.
  From a walk to a law's row: arguments that are opened, and what stands behind the call, for any law that answers true and leaves all older memory alone.
  octet: numbers in bytes: Get, Put, and the document's Number, Get, Of, Put.
  Rows of bytes in memory: sixteen bytes as a function, arrays by value, a block that holds one. No function of any package.
  octet: Put, and the document's Of and Put.
  Bytes of blocks: a piece of a block as bytes, a number's bytes. No function of any package.
  The document's Copy and Same of layer 1, for later layers (no code of octet is wanted).
  The library's lemmas on literal rows, by short names.
  Rows of sixteen bytes: read and stored as a whole inside a region that draws its order.
  Counter blocks: the first one and the next one, as the document has them (layer 5).
  Bits that are added: polynomials over the field of two as numbers, products by a step X, rings, the field of 256. Plain mathematics, no program.
  What keys may be (layer 3's May), and what Opens answers (layer 5).
  Bytes, compared as '==' of arrays compares them.
  octet: the calls that only read: Nought, Same, Get, and the document's Nought, Number, Get, Same.
  A round of a range over a function: what is walked outside of rounds serves in one, where nothing is deferred.
  slices.Chunk of bytes, sixteen at a time: the iterator's contract.
  octet: the document's Copy, Bits, Xor, and Xor.
  A row of noughts, as make lays it.
  Structs among a law's arguments, of one cell a field: the cells, and what each field is.
-/
import Derived.WalkKit
import Derived.Lib.Hide
import Derived.Handy
import Derived.Laws.OwnMore
import Derived.Laws.BytesArg
import Derived.Laws.CopyOwn
import Derived.Deep.QuietTactic
import Derived.BigQuiet
import Derived.Deep.RegionHeld3
import Derived.Deep.AppendLies
import Derived.Test.YtkfmgjipocmkjaaRows
import Derived.ProofKit
import Derived.SizedLaws
import Derived.Test.YtkfmgjipocmkjaaProg
import Derived.Deep.MidRow
import Derived.Deep.Upon
import Derived.Laws.ResultCell
import Derived.Deep.DeepCutAuto
import Derived.Laws.StructEq
import Derived.OrdersIn
import Derived.RangeFuncNested
import Derived.RangeFuncBound
import Derived.RangeFuncCalls
import Derived.RangeFuncLeaves
import Derived.Shelf.Abstract
import Derived.Shelf.RegionOpen
import Derived.OwnWalkIn
import Derived.TacticsInMore
import Derived.LoopNIn
import Derived.LoopIn
import Derived.Laws.MakeOwn
import Derived.Deep.Fields
import Derived.Deep.Slices
namespace Go.Proofs.Ytkfmgjipocmkjaa
open Go Go.RowKit

/-- A byte as a value. -/
abbrev vb1 (b : UInt8) : Value := .int .u8 (b.toNat : Int)
/-- Bytes as values. -/
abbrev vb (l : List UInt8) : List Value := l.map fun b => Value.int .u8 (b.toNat : Int)

/-- The cells xs can be read at A, below block B. -/
def Rd (w : World) (B : Nat) (A : Option Addr) (xs : List Value) : Prop :=
  0 < xs.length → ∃ ad, A = some ad ∧ ad.block < B ∧ ∀ j u, xs[j]? = some u → w.cell? (ad.add j) = some u

theorem add_block (a : Addr) (n : Nat) : (a.add n).block = a.block := by
  unfold Addr.add; by_cases h : n = 0 <;> simp [h]
theorem add_add (a : Addr) (i j : Nat) : (a.add i).add j = a.add (i + j) := by
  unfold Addr.add
  rcases Nat.eq_zero_or_pos i with rfl | hi
  · simp
  · rcases Nat.eq_zero_or_pos j with rfl | hj
    · simp
    · simp [Nat.ne_of_gt hi, Nat.ne_of_gt hj, Nat.add_assoc]
theorem head_add (g i : Nat) : (⟨g, 0, none⟩ : Addr).add i = ⟨g, i, none⟩ := by
  unfold Addr.add
  rcases Nat.eq_zero_or_pos i with rfl | hi
  · simp
  · simp [Nat.ne_of_gt hi]

section
variable {w w' : World} {B B' : Nat} {A : Option Addr} {xs : List Value}

theorem Rd.nil (w : World) (B : Nat) (A : Option Addr) : Rd w B A [] := fun h => by simp at h

theorem Rd.keep (h : Rd w B A xs) (hk : ∀ p : Addr, p.block < B → w'.cell? p = w.cell? p) : Rd w' B A xs := fun h0 => by
  obtain ⟨ad, rfl, hb, hc⟩ := h h0
  exact ⟨ad, rfl, hb, fun j u hu => (hk _ (by rw [add_block]; exact hb)).trans (hc j u hu)⟩

theorem Rd.more (h : Rd w B A xs) (hB : B ≤ B') : Rd w B' A xs := fun h0 => by
  obtain ⟨ad, rfl, hb, hc⟩ := h h0
  exact ⟨ad, rfl, by omega, hc⟩

theorem Rd.below (h : Rd w B A xs) (hb : Below B w w') : Rd w' B A xs := h.keep fun _ hp => hb.cell hp

theorem Rd.go (h : Rd w w.heap.size A xs) (hb : Below w.heap.size w w') : Rd w' w'.heap.size A xs := (h.below hb).more hb.size

theorem Rd.at_ (h : Rd w B A xs) {k : Nat} (hk : k < xs.length) : ∃ ad, A = some ad ∧ ad.block < B ∧ w.cell? (ad.add k) = some xs[k] := by
  obtain ⟨ad, rfl, hb, hc⟩ := h (by omega)
  exact ⟨ad, rfl, hb, hc k _ (List.getElem?_eq_getElem hk)⟩

theorem Rd.byte {l : List UInt8} (h : Rd w B A (vb l)) {k : Nat} (hk : k < l.length) :
    ∃ ad, A = some ad ∧ ad.block < B ∧ w.cell? (ad.add k) = some (.int .u8 (l[k].toNat : Int)) := by
  obtain ⟨ad, rfl, hb, hc⟩ := h.at_ (k := k) (by simpa using hk)
  exact ⟨ad, rfl, hb, by simpa using hc⟩

/-- A slice that the call owns can be read. -/
theorem Rd.of_own {base e : Nat} {v : Value} {n : Nat} (h : w.ownsRow base e 1 v n xs) :
    ∃ A c, v = .slice A n c ∧ xs.length = n ∧ Rd w w.heap.size A xs := by
  have hlt := h.lt
  have hcells := @World.ownsRow.cells _ _ _ _ _ _ _ h
  obtain ⟨hn, hv⟩ := h
  rcases hv with ⟨rfl, rfl⟩ | ⟨g, cap, cur, rfl, hg, hh, hnc, hcm, hsz, htk⟩
  · exact ⟨none, 0, rfl, by simpa using hn, fun h0 => by omega⟩
  · exact ⟨some ⟨g, 0, none⟩, cap, rfl, by simpa using hn, fun _ => ⟨_, rfl, (hlt g rfl).2, hcells rfl⟩⟩
end

/-- A block of the call's own, as an owned row. -/
theorem own_of_blk {w : World} {base g e n cap : Nat} {cur : Array Value} (hg : w.heap[g]? = some (.cells cur e (0, 0))) (hb : base ≤ g) (hn : n ≤ cap) (hc : cap ≤ maxLen) (hs : cur.size = cap) :
    w.ownsRow base e 1 (.slice (some ⟨g, 0, none⟩) n cap) n (cur.toList.take n) :=
  ⟨by simp [hs]; omega, .inr ⟨g, cap, cur, rfl, hb, hg, hn, hc, by omega, by simp⟩⟩

/-- 'make([]T, l, c)', of elements of one cell: the block that is made. -/
theorem wpList_make_blk {P : Program} (w : World) {ops : Array Oper} {rest : List Oper} {o : Oper} {a : Act} {Q : Exit → Act → World → Prop}
    (hg : o.guard = none) (l c : Operand) (t : TypeId) (hop : o.op = Op.makeSlice t l c)
    (e : TypeId) (i : TypeInfo) (z : Value) (h1 : P.underlying t = some (.slice e)) (h2 : P.info? e = some i) (h3 : i.zero = some z) (h4 : i.size = 1) (h5 : z.cells = #[z])
    (kl kc : IntKind) (L C : Int) (n m : Nat) (hl : a.eval l = .int kl L) (hc : a.eval c = .int kc C) (hL : L = (n : Int)) (hC : C = (m : Int)) (hnm : n ≤ m) (b2 : i.bytes * m ≤ 281474976710656) (b3 : m ≤ maxLen)
    (hK : ∀ w', Hid (w'.heap[w.heap.size]? = some (.cells (List.replicate m z).toArray e (0, 0))) → Below w.heap.size w w' → Hid (w'.heap.size = w.heap.size + 1) →
      wpList P ops Q rest (a.put o.dst (.slice (some ⟨w.heap.size, 0, none⟩) n m)) w') :
    wpList P ops Q (o :: rest) a w := by
  refine wpList_plain hg fun K hK' => ?_
  have hm : (m : Int) ≤ 9223372036854775807 := by
    have h := b3
    simp [maxLen] at h
    omega
  have hb' : (i.bytes : Int) * (m : Int) ≤ 281474976710656 := by
    have h : ((i.bytes * m : Nat) : Int) ≤ 281474976710656 := by omega
    rwa [Int.natCast_mul] at h
  have hr := run_make (P := P) w t e i z h1 h2 h3 kl kc n m (by omega) (by omega) hb' hm
  simp only [Int.toNat_natCast, h4, h5, Nat.mul_one] at hr
  subst hL
  subst hC
  unfold Oper.wp
  simp [execOp, hop, hl, hc, hr, Result.andThen]
  refine hK' _ _ (hK _ ?_ ((Below.refl _ _).alloc (Nat.le_refl _) _) ?_)
  · have e : madeCells #[z] m = (List.replicate m z).toArray := by
      rw [← toList_madeCells_one]
    rw [e]
    exact Lib.hid (heap_alloc_new w _)
  · exact Lib.hid (by rw [World.size_alloc])

theorem bdrewN {B : Nat} {a w : World} (h : Below B a w) (n : Nat) : Below B a (w.drewN n) := ⟨h.os, h.tape, h.output, h.size, h.block⟩
theorem Rd.drewN {w : World} {B : Nat} {A : Option Addr} {xs : List Value} (h : Rd w B A xs) (n : Nat) : Rd (w.drewN n) B A xs := h
theorem own_drewN {w : World} {base e n : Nat} {v : Value} {xs : List Value} (h : w.ownsRow base e 1 v n xs) (d : Nat) : (w.drewN d).ownsRow base e 1 v n xs := h
/-- What the call owns stays its own, where no older memory is written. -/
theorem own_below {w w' : World} {base e n : Nat} {v : Value} {xs : List Value} (h : w.ownsRow base e 1 v n xs) (hb : Below w.heap.size w w') : w'.ownsRow base e 1 v n xs := by
  have hlt := h.lt
  obtain ⟨hn, hv⟩ := h
  refine ⟨hn, ?_⟩
  rcases hv with hv | ⟨g, cap, cur, rfl, hg, hh, hr⟩
  · exact .inl hv
  · exact .inr ⟨g, cap, cur, rfl, hg, (hb.block g (hlt g rfl).2).trans hh, hr⟩
/-- Another row than that of a block below. -/
theorem own_far {w : World} {base e n g : Nat} {v : Value} {xs : List Value} (h : w.ownsRow base e 1 v n xs) (hg : g < base) : some g ≠ v.ownBlock := by
  intro e'
  have := h.lt g e'.symm
  omega

/- What the operations on bytes come to. -/
theorem byte_lt (b : UInt8) : b.toNat < 256 := b.toNat_lt
theorem byte_bd (b : UInt8) : (0 : Int) ≤ (b.toNat : Int) ∧ (b.toNat : Int) ≤ 255 := by have := b.toNat_lt; omega

theorem bv_byte (b : UInt8) : BitVec.ofInt 8 (b.toNat : Int) = b.toBitVec := by
  apply BitVec.eq_of_toNat_eq
  have := b.toNat_lt
  simp

theorem wrap_u8 (x : UInt8) : IntKind.u8.wrap (x.toNat : Int) = (x.toNat : Int) := IntWalk.u8_in _ (by have := x.toNat_lt; omega)

theorem bits_or (a b : UInt8) : bits .or .u8 (a.toNat : Int) (b.toNat : Int) = ((a ||| b).toNat : Int) := by
  have h : bits .or .u8 (a.toNat : Int) (b.toNat : Int) = IntKind.u8.wrap (((BitVec.ofInt 8 (a.toNat : Int) ||| BitVec.ofInt 8 (b.toNat : Int)).toNat : Nat) : Int) := rfl
  rw [h, bv_byte, bv_byte]
  exact wrap_u8 (a ||| b)
theorem bits_xor (a b : UInt8) : bits .xor .u8 (a.toNat : Int) (b.toNat : Int) = ((a ^^^ b).toNat : Int) := by
  have h : bits .xor .u8 (a.toNat : Int) (b.toNat : Int) = IntKind.u8.wrap (((BitVec.ofInt 8 (a.toNat : Int) ^^^ BitVec.ofInt 8 (b.toNat : Int)).toNat : Nat) : Int) := rfl
  rw [h, bv_byte, bv_byte]
  exact wrap_u8 (a ^^^ b)
theorem bits_and (a b : UInt8) : bits .and .u8 (a.toNat : Int) (b.toNat : Int) = ((a &&& b).toNat : Int) := by
  have h : bits .and .u8 (a.toNat : Int) (b.toNat : Int) = IntKind.u8.wrap (((BitVec.ofInt 8 (a.toNat : Int) &&& BitVec.ofInt 8 (b.toNat : Int)).toNat : Nat) : Int) := rfl
  rw [h, bv_byte, bv_byte]
  exact wrap_u8 (a &&& b)

theorem bv_nat (k a : Nat) (h : a < 2 ^ k) : (BitVec.ofInt k (a : Int)).toNat = a := by
  rw [BitVec.toNat_ofInt, ← Int.natCast_emod, Int.toNat_natCast, Nat.mod_eq_of_lt h]
theorem wrap_u64 (a : Nat) (h : a < 2 ^ 64) : IntKind.u64.wrap (a : Int) = (a : Int) := IntWalk.u64_in _ (by have : a < 18446744073709551616 := h; omega)
theorem bits64_or (a b : Nat) (ha : a < 2 ^ 64) (hb : b < 2 ^ 64) : bits .or .u64 (a : Int) (b : Int) = ((a ||| b : Nat) : Int) := by
  have h : bits .or .u64 (a : Int) (b : Int) = IntKind.u64.wrap (((BitVec.ofInt 64 (a : Int) ||| BitVec.ofInt 64 (b : Int)).toNat : Nat) : Int) := rfl
  rw [h, BitVec.toNat_or, bv_nat _ _ ha, bv_nat _ _ hb]
  exact wrap_u64 _ (Nat.or_lt_two_pow ha hb)
theorem bits64_and (a b : Nat) (ha : a < 2 ^ 64) (hb : b < 2 ^ 64) : bits .and .u64 (a : Int) (b : Int) = ((a &&& b : Nat) : Int) := by
  have h : bits .and .u64 (a : Int) (b : Int) = IntKind.u64.wrap (((BitVec.ofInt 64 (a : Int) &&& BitVec.ofInt 64 (b : Int)).toNat : Nat) : Int) := rfl
  rw [h, BitVec.toNat_and, bv_nat _ _ ha, bv_nat _ _ hb]
  exact wrap_u64 _ (Nat.and_lt_two_pow _ hb)
theorem bits64_xor (a b : Nat) (ha : a < 2 ^ 64) (hb : b < 2 ^ 64) : bits .xor .u64 (a : Int) (b : Int) = ((a ^^^ b : Nat) : Int) := by
  have h : bits .xor .u64 (a : Int) (b : Int) = IntKind.u64.wrap (((BitVec.ofInt 64 (a : Int) ^^^ BitVec.ofInt 64 (b : Int)).toNat : Nat) : Int) := rfl
  rw [h, BitVec.toNat_xor, bv_nat _ _ ha, bv_nat _ _ hb]
  exact wrap_u64 _ (Nat.xor_lt_two_pow ha hb)
theorem or_byte (a b : Nat) (hb : b < 256) : a * 256 ||| b = a * 256 + b := by
  have := Nat.shiftLeft_add_eq_or_of_lt (i := 8) (b := b) (by simpa using hb) a
  rw [Nat.shiftLeft_eq] at this
  exact this.symm

theorem byte_beq (a b : UInt8) : ((a.toNat : Int) == (b.toNat : Int)) = (a == b) := by
  rw [Bool.eq_iff_iff]
  simp only [beq_iff_eq, Int.natCast_inj]
  exact ⟨fun h => UInt8.toNat_inj.mp h, fun h => by rw [h]⟩
theorem byte_beq0 (a : UInt8) : ((a.toNat : Int) == 0) = (a == 0) := byte_beq a 0

theorem ret_bool {a b : Bool} (h : a = b) : Ending.returned (.bool a) = .returned (.bool b) := by rw [h]
theorem ret_int {k : IntKind} {a b : Int} (h : a = b) : Ending.returned (.int k a) = .returned (.int k b) := by rw [h]
theorem val_int {k : IntKind} {a b : Int} (h : a = b) : Value.int k a = Value.int k b := by rw [h]
theorem ret_two {a b c d : Value} (h : a = b) (h' : c = d) : Ending.returned (.tuple #[a, c]) = .returned (.tuple #[b, d]) := by rw [h, h']
theorem ret_three {a b c d e f : Value} (h : a = b) (h' : c = d) (h'' : e = f) : Ending.returned (.tuple #[a, c, e]) = .returned (.tuple #[b, d, f]) := by rw [h, h', h'']
theorem ret_str {a b : ByteArray} (h : a = b) : Ending.returned (.string a) = .returned (.string b) := by rw [h]

theorem take_snoc {α : Type} (l : List α) (k : Nat) (h : k < l.length) : l.take (k + 1) = l.take k ++ [l[k]] := List.take_succ_eq_append_getElem h

theorem str_size (l : List UInt8) : (⟨l.toArray⟩ : ByteArray).size = l.length := by simp [ByteArray.size]

/-- string(b), of any slice of bytes. -/
theorem run_str {P : Program} {w : World} {B : Nat} {A : Option Addr} {l : List UInt8} {n : Nat} (src dst e : TypeId) (hs : P.underlying src = some (.slice e)) (he : P.underlying e = some (.int .u8))
    (hd : P.underlying dst = some .string) (hn : l.length = n) (cap : Nat) (h : Rd w B A (vb l)) :
    (convert src dst (.slice A n cap)).run P w = .ok (.string ⟨l.toArray⟩) w := by
  subst hn
  cases A with
  | none =>
    have hl : l = [] := by
      cases l with
      | nil => rfl
      | cons x l =>
        obtain ⟨ad, hA, _⟩ := h (by simp)
        cases hA
    subst hl
    exact run_convert_bytes_nil w src e hs he 0 cap dst hd
  | some ad =>
    have hmap : vb l = (l.map fun b => (b.toNat : Int)).map (Value.int .u8) := by simp [vb]
    have hl : (loadCells ad l.length).run P w = .ok ((l.map fun b => (b.toNat : Int)).map (Value.int .u8)).toArray w := by
      have := run_loadCells_list (P := P) w ad (vb l) (fun j v hj => by
        have hlen : 0 < (vb l).length := by
          rcases Nat.eq_zero_or_pos (vb l).length with h0 | h0
          · rw [List.length_eq_zero_iff.mp h0] at hj; simp at hj
          · exact h0
        obtain ⟨ad', hA, _, hc⟩ := h hlen
        cases hA
        exact hc j v hj)
      rw [hmap] at this
      simpa using this
    rw [run_convert_bytes_string w src dst e _ l.length cap hs he hd, run_bytesToString w _ l.length cap _ hl, foldl_push_bytes]
    have : (l.map fun b => (b.toNat : Int)).map (fun n => UInt8.ofNat n.toNat) = l := by
      rw [List.map_map]
      conv => rhs; rw [← List.map_id l]
      apply List.map_congr_left
      intro b _
      simp
    rw [this]
    congr 2
    apply ByteArray.ext
    simp [ByteArray.empty, ByteArray.emptyWithCapacity]
    rfl

theorem add_zero (a : Addr) : a.add 0 = a := by simp [Addr.add]
/-- 's[:n]'. -/
theorem run_head {P : Program} (t e : TypeId) (i : TypeInfo) (ht : P.underlying t = some (.slice e)) (hi : P.info? e = some i) (A : Option Addr) (len cap n : Nat) (hn : n ≤ cap) (w : World) :
    (Instr.slice t (.slice A len cap) none (some (.int .i64 (n : Int))) none).run P w = .ok (.slice A n cap) w := by
  simp [Instr.slice, run_underlying ht, Instr.sliceBounds, Instr.sliceBound, asIntOf, sizeOf, typeInfo, hi, add_zero]
  omega
/-- The beginning of what can be read. -/
theorem Rd.take {w : World} {B : Nat} {A : Option Addr} {xs : List Value} (h : Rd w B A xs) (n : Nat) : Rd w B A (xs.take n) := fun h0 => by
  obtain ⟨ad, rfl, hb, hc⟩ := h (by simp at h0; omega)
  refine ⟨ad, rfl, hb, fun j u hu => hc j u ?_⟩
  rw [List.getElem?_take] at hu
  split at hu
  · exact hu
  · cases hu
end Go.Proofs.Ytkfmgjipocmkjaa
namespace Go.Proofs.Ytkfmgjipocmkjaa
open Go Go.RowKit Go.ChangeShapes Go.WideShapes Go.ChangeAt
set_option linter.unusedVariables false
set_option linter.unusedSimpArgs false

section
variable {H : Type} {enc : TypeId × Value → H} {P : Program} {W W' : World}

theorem trodAll_below (hlaid : laidOutB P = true) (hb : Below W.heap.size W W') :
    ∀ {ts : List TypeId} {vs : List Value} {ds : List (DataW H)} {ps : List MemPlace}, (ts.all fun t => P.readableRec t && decide (t < P.types.size)) = true →
      DataW.TrodAll enc P W 0 (fun _ => true) true ts vs ds ps → (∀ x ∈ ps, x.block < W.heap.size) →
      DataW.TrodAll enc P W' 0 (fun b => decide (b < W.heap.size)) true ts vs ds ps := by
  intro ts
  induction ts with
  | nil =>
    intro vs ds ps _ h _
    obtain ⟨rfl, rfl, rfl⟩ := trodAll_nil h
    exact trodAll_mk0
  | cons t ts ih =>
    intro vs ds ps hr h hlt
    obtain ⟨v, vs, d, ds, p, q, rfl, rfl, rfl, h0, h1⟩ := trodAll_cons h
    simp only [List.all_cons, Bool.and_eq_true, decide_eq_true_eq] at hr
    exact trodAll_cons_mk (Below.trod hlaid hr.1.1 hr.1.2 h0 hb fun x hx => hlt x (List.mem_append_left _ hx)) (ih (by simpa using hr.2) h1 fun x hx => hlt x (List.mem_append_right _ hx))

/-- What a row asks behind the call, of a law that answers true and leaves all older memory alone. -/
theorem law_post {fn : Func} {s : ChangeSpec} {args : Array Value} {ds gs : List (DataW H)} {before : List MemPlace} (tb : TypeId) (hbool : P.underlying tb = some .bool) (hres : fn.resultTypes = #[tb]) (hvars : s.vars = [])
    (hlaid : laidOutB P = true) (hread : (fn.params.toList.all fun t => P.readableRec t && decide (t < P.types.size)) = true)
    (hW : DataW.Whole enc P fn.params.toList s.vars false W args.toList ds gs before) (hspec : (s.fn H (ds ++ gs)).results = [.lit (.bool true)] ∧ (s.fn H (ds ++ gs)).args = ds ∧ (s.fn H (ds ++ gs)).vars = [])
    (hb : Below W.heap.size W W') : s.post enc P fn false true false false W args (.bool true) W' := by
  have hW' := hW
  obtain ⟨p, q, hA, hV, rfl, _, _⟩ := hW
  refine ⟨ds, gs, _, [], p, [], hW', ?_, ?_, ?_, hb.frame _, fun h => by cases h⟩
  · rw [hspec.1, hres]
    exact trodAll_cons_mk (p' := []) (shut_bool hbool true) trodAll_mk0
  · rw [hspec.2.1]
    exact trodAll_below hlaid hb hread hA fun x hx => hW'.lt x (List.mem_append_left _ hx)
  · rw [hspec.2.2, hvars]; rfl

/-- A slice of bytes among the arguments, opened. -/
theorem open_bytes_cap {t e : TypeId} {v : Value} {d : DataW H} {ps : List MemPlace} {r : Reach} {b0 : Nat} (ht : P.underlying t = some (.slice e)) (he : P.underlying e = some (.int .u8)) (hc : P.cellsOf e = 1)
    (hv : Value.okWide P W r b0 t v) (hd : DataW.Trod enc P W 0 (fun _ => true) true t v d ps) (hlt : ∀ x ∈ ps, x.block < W.heap.size)
    (hsz : ∀ elems spare, d = .slice elems spare → elems.length + spare.length ≤ reachBytes) :
    ∃ A l cap, v = .slice A l.length cap ∧ Rd W W.heap.size A (vb l) ∧ l.length ≤ 140737488351232 ∧ l.length ≤ cap := by
  obtain ⟨a0, len, cap, rfl⟩ := okWide_slice ht hv
  obtain ⟨fuel, hf⟩ := hd
  rcases open_ints ht he hc hf with ⟨hcs, hx⟩ | ⟨a, len', cap', zs, hcs, _, hl, hm, hz, hx, hcell, hwz⟩
  · simp [Value.cells] at hcs
    obtain ⟨rfl, rfl, rfl⟩ := hcs
    exact ⟨none, [], 0, rfl, Rd.nil _ _ _, by simp, by simp⟩
  · simp [Value.cells] at hcs
    obtain ⟨rfl, rfl, rfl⟩ := hcs
    simp only [Prod.mk.injEq] at hx
    obtain ⟨rfl, rfl⟩ := hx
    simp only [if_true] at hz
    have hs := hsz _ _ rfl
    simp only [lits, List.length_map, List.length_take, List.length_drop, reachBytes] at hs
    refine ⟨some a, (zs.take len).map fun n => UInt8.ofNat n.toNat, cap, by simp; omega, ?_, by simp; omega, by simp; omega⟩
    intro h0
    refine ⟨a, rfl, ?_, ?_⟩
    · simp only [vb, List.length_map, List.length_take] at h0
      have : (⟨a.block, a.off, none⟩ : Addr).block < W.heap.size := by
        have h1 := hcell 0 (by omega)
        have h2 := World.block_lt_of_cell? W _ h1
        rwa [add_block] at h2
      exact this
    · intro j u hj
      simp only [vb, List.map_map, List.getElem?_map, Option.map_eq_some_iff, Function.comp] at hj
      obtain ⟨n, hn, rfl⟩ := hj
      rw [List.getElem?_take] at hn
      split at hn
      · have hjl : j < zs.length := by
          rcases Nat.lt_or_ge j zs.length with h | h
          · exact h
          · rw [List.getElem?_eq_none h] at hn; cases hn
        rw [hcell j hjl]
        have e1 : zs.getD j 0 = n := by simp [List.getD, hn]
        rw [e1]
        have hw := hwz n (List.mem_of_getElem? hn)
        have hb : 0 ≤ n ∧ n ≤ 255 := by simpa [Lit.wf, IntKind.min, IntKind.max, IntKind.signed, IntKind.bits] using hw
        congr 2
        rw [UInt8.toNat_ofNat']
        omega
      · cases hn

theorem open_bytes {t e : TypeId} {v : Value} {d : DataW H} {ps : List MemPlace} {r : Reach} {b0 : Nat} (ht : P.underlying t = some (.slice e)) (he : P.underlying e = some (.int .u8)) (hc : P.cellsOf e = 1)
    (hv : Value.okWide P W r b0 t v) (hd : DataW.Trod enc P W 0 (fun _ => true) true t v d ps) (hlt : ∀ x ∈ ps, x.block < W.heap.size)
    (hsz : ∀ elems spare, d = .slice elems spare → elems.length + spare.length ≤ reachBytes) :
    ∃ A l cap, v = .slice A l.length cap ∧ Rd W W.heap.size A (vb l) ∧ l.length ≤ 140737488351232 := by
  obtain ⟨A, l, cap, h1, h2, h3, _⟩ := open_bytes_cap ht he hc hv hd hlt hsz
  exact ⟨A, l, cap, h1, h2, h3⟩

/-- A string among the arguments, opened. -/
theorem open_str {t : TypeId} {v : Value} {d : DataW H} {ps : List MemPlace} {r : Reach} {b0 : Nat} {base : Nat} {sp : Nat → Bool} {held : Bool} (ht : P.underlying t = some .string)
    (hv : Value.okWide P W r b0 t v) (hd : DataW.Trod enc P W base sp held t v d ps) (hsz : ∀ bs, d = .lit (.string bs) → bs.length ≤ reachBytes) :
    ∃ s : List UInt8, v = .string ⟨s.toArray⟩ ∧ d = .lit (.string s) ∧ ps = [] ∧ s.length ≤ 140737488351232 := by
  obtain ⟨s, rfl, rfl, rfl, _⟩ := ChangeMaps.open_string ht hv hd
  refine ⟨s.data.toList, rfl, rfl, rfl, ?_⟩
  have := hsz _ rfl
  simpa [reachBytes] using this
/-- The elements of an array of bytes. -/
theorem mapM_u8 {e : TypeId} {sp : Nat → Bool} {held : Bool} {base m : Nat} (he : P.underlying e = some (.int .u8)) {cs : List Value} {c : Nat} : ∀ (L : List Nat) (xs : List (DataW H × List MemPlace)),
    L.mapM (fun i => DataW.trod enc P W base sp held m e ((cs.drop (i * c)).take c)) = some xs → ∀ i ∈ L, ∃ n : Nat, n < 256 ∧ (cs.drop (i * c)).take c = [.int .u8 (n : Int)]
  | [], _, _ => fun _ h => by simp at h
  | i :: L, xs, h => by
    rw [List.mapM_cons] at h
    simp only [bind, Option.bind_eq_some_iff, pure, Option.some.injEq] at h
    obtain ⟨y, hy, ys, hys, rfl⟩ := h
    have ih := mapM_u8 he L ys hys
    obtain ⟨a, ea, rfl, wa⟩ := DataW.trod_int he hy
    have hb : 0 ≤ a ∧ a ≤ 255 := by simpa [Lit.wf, IntKind.min, IntKind.max, IntKind.signed, IntKind.bits] using wa
    intro j hj
    rcases List.mem_cons.mp hj with rfl | hj
    · exact ⟨a.toNat, by omega, by rw [ea]; congr 2; omega⟩
    · exact ih j hj

/-- n bytes by value. -/
abbrev arrN (n : Nat) (f : Nat → Nat) : Array Value := ((List.range n).map fun i => Value.int .u8 (f i : Int)).toArray

/-- An array of bytes among the arguments, opened. -/
theorem open_arr_u8 {t e : TypeId} {n : Nat} {v : Value} {d : DataW H} {ps : List MemPlace} {r : Reach} {b0 : Nat} {base : Nat} {sp : Nat → Bool} {held : Bool} (ht : P.underlying t = some (.array n e)) (he : P.underlying e = some (.int .u8)) (hc : P.cellsOf e = 1) (hn : P.cellsOf t = n)
    (hv : Value.okWide P W r b0 t v) (hd : DataW.Trod enc P W base sp held t v d ps) :
    ∃ f : Nat → Nat, v = .agg (arrN n f) ∧ ∀ i, i < n → f i < 256 := by
  simp only [Value.okWide, ht] at hv
  obtain ⟨cs, rfl, hsz, _⟩ := hv
  rw [hn] at hsz
  obtain ⟨fuel, hf⟩ := hd
  cases fuel with
  | zero => simp [DataW.trod] at hf
  | succ m =>
    unfold DataW.trod at hf
    rw [ht] at hf
    have e0 : (Value.agg cs).cells.toList.length = P.cellsOf t := by rw [hn]; simpa [Value.cells] using hsz
    dsimp only at hf
    rw [if_pos e0] at hf
    simp only [Value.cells, Option.map_eq_some_iff] at hf
    obtain ⟨ys, hy, _⟩ := hf
    have key := mapM_u8 he _ ys hy
    rw [hc] at key
    have key' : ∀ i (hi : i < n), ∃ k : Nat, k < 256 ∧ cs[i]? = some (.int .u8 (k : Int)) := by
      intro i hi
      obtain ⟨k, hk, e1⟩ := key i (List.mem_range.mpr hi)
      refine ⟨k, hk, ?_⟩
      have hl : i < cs.toList.length := by simpa [hsz] using hi
      have e2 : cs.toList[i]? = some (.int .u8 (k : Int)) := by
        have : ((cs.toList.drop (i * 1)).take 1)[0]? = some (Value.int .u8 (k : Int)) := by rw [e1]; rfl
        simpa using this
      simpa using e2
    refine ⟨fun i => match cs[i]? with | some (.int _ a) => a.toNat | _ => 0, ?_, ?_⟩
    · congr 1
      apply Array.ext_getElem?
      intro i
      by_cases hi : i < n
      · obtain ⟨k, hk, e1⟩ := key' i hi
        simp [e1, hi]
      · have : cs.size ≤ i := by omega
        simp [Array.getElem?_eq_none this, hi]
    · intro i hi
      obtain ⟨k, hk, e1⟩ := key' i hi
      simp [e1, hk]
end

theorem Try.own : ownKnob Try.prog.godebug = none := by kernel_rfl
theorem Try.laidOut : laidOutB Try.prog = true := by kernel_rfl
theorem Try.cellsU8 : Try.prog.cellsOf 5 = 1 := by kernel_rfl
theorem Try.bytesU8 : Try.prog.bytesOf 5 = 1 := by kernel_rfl
end Go.Proofs.Ytkfmgjipocmkjaa
namespace Go.Proofs.Ytkfmgjipocmkjaa
open Go Go.RowKit
set_option linter.unusedVariables false
set_option linter.unusedSimpArgs false

/-- The number of some bytes. -/
def num (l : List UInt8) : Nat := l.foldl (fun a b => a * 256 + b.toNat) 0
theorem num_snoc (l : List UInt8) (b : UInt8) : num (l ++ [b]) = num l * 256 + b.toNat := by simp [num]
theorem num_lt (l : List UInt8) : num l < 256 ^ l.length := by
  have key : ∀ (n : Nat) (l : List UInt8), l.length = n → num l < 256 ^ n := by
    intro n
    induction n with
    | zero => intro l h; rw [List.length_eq_zero_iff.mp h]; simp [num]
    | succ n ih =>
      intro l h
      obtain ⟨l', b, rfl⟩ : ∃ l' b, l = l' ++ [b] := ⟨l.dropLast, l.getLast (by intro e; rw [e] at h; simp at h), (List.dropLast_concat_getLast _).symm⟩
      have := ih l' (by simpa using h)
      have := b.toNat_lt
      rw [num_snoc, Nat.pow_succ]
      omega
  exact key _ l rfl
theorem num_take_lt (l : List UInt8) (k : Nat) (hk : k ≤ 7) : num (l.take k) < 72057594037927936 := by
  refine Nat.lt_of_lt_of_le (num_lt _) ?_
  refine Nat.le_trans (Nat.pow_le_pow_right (by omega) (show (l.take k).length ≤ 7 by simp; omega)) (by decide)

set_option maxRecDepth 100000 in
set_option maxHeartbeats 400000 in
theorem get_any (A : Option Addr) (l : List UInt8) (n cap : Nat) (hn : l.length = n) (w : World) (h1 : 1 ≤ n) (h8 : n ≤ 8) (h : Rd w w.heap.size A (vb l)) :
    Calls Try.prog 67 #[.slice A n cap] w fun e w' => e = .returned (.tuple #[.int .u64 (num l : Int), .int .i64 0]) ∧ w' = w := by
  have HN := Lib.hid hn; clear hn
  go_enter Try.func67, Try.ntmps67
  go_wp2
  go_loop [4, 17] (fun s i => ∃ k : Nat, k ≤ n ∧ i = .int .i64 k ∧ s = .int .u64 (num (l.take k) : Int)) (fun _ i => n - (intOf i).toNat)
  case atStart => exact ⟨0, Nat.zero_le _, rfl, rfl⟩
  case round =>
    obtain ⟨k, hk, rfl, rfl⟩ := hrel
    by_cases hlt : k < n
    · have ha : k < l.length := by have := HN.out; omega
      obtain ⟨ad, rfl, hbd, hck⟩ := h.byte ha
      have hx := num_take_lt l k (by omega)
      have hbb := byte_bd l[k]
      go_wp2
      go_round
      case rel => refine ⟨k + 1, by omega, by go_num, ?_⟩; exact val_int (by
        rw [take_snoc _ _ ha, num_snoc, show ((num (l.take k) : Int)) * 256 = ((num (l.take k) * 256 : Nat) : Int) from by omega, bits64_or _ _ (by omega) (by omega), or_byte _ _ (by omega)])
      case measure => simp [intOf]; omega
    · go_wp2
      go_ret2
      exact ⟨ret_two (val_int (by rw [List.take_of_length_le (by have := HN.out; omega)])) rfl, rfl⟩

set_option maxRecDepth 100000 in
theorem get_err (A : Option Addr) (n cap : Nat) (w : World) (hx : n < 1 ∨ 8 < n) (hl : n ≤ 140737488351232) :
    Calls Try.prog 67 #[.slice A n cap] w fun e w' => e = .returned (.tuple #[.int .u64 0, .int .i64 2]) ∧ w' = w := by
  rcases hx with hx | hx <;>
  · go_enter Try.func67, Try.ntmps67
    go_wp2
    go_ret2
    exact ⟨rfl, rfl⟩

set_option maxRecDepth 100000 in
set_option maxHeartbeats 400000 in
theorem rnumber_any (A : Option Addr) (l : List UInt8) (n cap : Nat) (hn : l.length = n) (w : World) (h8 : n ≤ 8) {B : Nat} (h : Rd w B A (vb l)) :
    Calls Try.prog 52 #[.slice A n cap] w fun e w' => e = .returned (.int .u64 (num l : Int)) ∧ w' = w := by
  have HN := Lib.hid hn; clear hn
  go_enter Try.func52, Try.ntmps52
  go_wp2
  go_loop [3, 4] (fun s i => ∃ k : Nat, k ≤ n ∧ i = .int .i64 k ∧ s = .int .u64 (num (l.take k) : Int)) (fun _ i => n - (intOf i).toNat)
  case atStart => exact ⟨0, Nat.zero_le _, rfl, rfl⟩
  case round =>
    obtain ⟨k, hk, rfl, rfl⟩ := hrel
    by_cases hlt : k < n
    · have ha : k < l.length := by have := HN.out; omega
      obtain ⟨ad, rfl, hbd, hck⟩ := h.byte ha
      have hx := num_take_lt l k (by omega)
      have hbb := byte_bd l[k]
      go_wp2
      go_round
      case rel => refine ⟨k + 1, by omega, by go_num, ?_⟩; rw [take_snoc _ _ ha, num_snoc]; exact val_int (by omega)
      case measure => simp [intOf]; omega
    · go_wp2
      go_ret
      exact ⟨ret_int (by rw [List.take_of_length_le (by have := HN.out; omega)]), rfl⟩

end Go.Proofs.Ytkfmgjipocmkjaa
namespace Go.Proofs.Ytkfmgjipocmkjaa
open Go Go.RowKit
set_option linter.unusedVariables false
set_option linter.unusedSimpArgs false

/-- The same sixteen bytes. -/
def E16 (f g : Nat → Nat) : Prop := ∀ i, i < 16 → f i = g i
def B16 (f : Nat → Nat) : Prop := ∀ i, i < 16 → f i < 256
theorem E16.refl (f : Nat → Nat) : E16 f f := fun _ _ => rfl
theorem E16.symm {f g : Nat → Nat} (h : E16 f g) : E16 g f := fun i hi => (h i hi).symm
theorem E16.trans {f g h : Nat → Nat} (a : E16 f g) (b : E16 g h) : E16 f h := fun i hi => (a i hi).trans (b i hi)
theorem B16.of {f g : Nat → Nat} (h : B16 f) (e : E16 f g) : B16 g := fun i hi => by rw [← e i hi]; exact h i hi

/-- n bytes of an array. -/
def aN (n : Nat) (f : Nat → Nat) : Array Value := ((List.range n).map fun i => Value.int .u8 (f i : Int)).toArray
theorem aN_size (n : Nat) (f : Nat → Nat) : (aN n f).size = n := by simp [aN]
theorem aN_get (n : Nat) (f : Nat → Nat) (k : Nat) (hk : k < n) : (aN n f)[k]? = some (.int .u8 (f k : Int)) := by
  simp [aN, hk]
theorem aN_congr {n : Nat} {f g : Nat → Nat} (h : ∀ i, i < n → f i = g i) : aN n f = aN n g := by
  unfold aN
  congr 1
  apply List.map_congr_left
  intro i hi
  rw [h i (List.mem_range.mp hi)]
theorem aN_set (n : Nat) (f g : Nat → Nat) (k v : Nat) (hk : k < n) (hv : g k = v) (ho : ∀ j, j < n → j ≠ k → g j = f j) : (aN n f).setIfInBounds k (.int .u8 (v : Int)) = aN n g := by
  subst hv
  apply Array.ext_getElem?
  intro i
  rw [Array.getElem?_setIfInBounds, aN_size]
  by_cases h : k = i
  · subst h
    rw [if_pos rfl, if_pos hk, aN_get n g k hk]
  · rw [if_neg h]
    by_cases hi : i < n
    · rw [aN_get n f i hi, aN_get n g i hi, ho i hi (fun e => h e.symm)]
    · rw [Array.getElem?_eq_none (by rw [aN_size]; omega), Array.getElem?_eq_none (by rw [aN_size]; omega)]
theorem aN_one (n : Nat) (f : Nat → Nat) : (aN n f).all (·.oneCell') = true := by
  simp [aN, Value.oneCell']

/-- Bytes as values. -/
def vn (l : List Nat) : List Value := l.map fun (n : Nat) => Value.int .u8 (n : Int)
theorem vn_len (l : List Nat) : (vn l).length = l.length := by simp [vn]
theorem Rd.num {w : World} {B : Nat} {A : Option Addr} {l : List Nat} (h : Rd w B A (vn l)) {k : Nat} (hk : k < l.length) :
    ∃ ad, A = some ad ∧ ad.block < B ∧ w.cell? (ad.add k) = some (.int .u8 (l.getD k 0 : Int)) := by
  obtain ⟨ad, rfl, hb, hc⟩ := h.at_ (k := k) (by rw [vn_len]; exact hk)
  refine ⟨ad, rfl, hb, hc.trans ?_⟩
  simp [vn, List.getD, hk]

/-- Block b holds sixteen bytes. -/
def H16 (w : World) (b : Nat) (f : Nat → Nat) : Prop := w.heap[b]? = some (.cells (aN 16 f) 35 (0, 0))
section
variable {w w' : World} {b g : Nat} {f z : Nat → Nat}
theorem H16.lt (h : H16 w b f) : b < w.heap.size := (Array.getElem?_eq_some_iff.1 h).1
theorem H16.cell (h : H16 w b f) (k : Nat) (hk : k < 16) : w.cell? ⟨b, k, none⟩ = some (.int .u8 (f k : Int)) := by
  rw [cell_of_row _ _ _ _ _ _ h]; exact aN_get 16 f k hk
theorem H16.free (h : H16 w b f) (k : Nat) : w.frozen? ⟨b, k, none⟩ = false := frozen_of_row _ _ _ _ _ h
theorem H16.below {B : Nat} (hb : Below B w w') (h : H16 w b f) (hB : b < B) : H16 w' b f := (hb.block b hB).trans h
theorem H16.call (hb : Below w.heap.size w w') (h : H16 w b f) : H16 w' b f := h.below hb h.lt
theorem H16.alloc (o : Obj) (h : H16 w b f) : H16 (w.alloc o) b f := (heap_alloc_old w o h.lt).trans h
theorem H16.newAt (h : b = w.heap.size) : H16 (w.alloc (.cells (aN 16 f) 35)) b f := h ▸ heap_alloc_new w _
theorem H16.other (h : H16 w b f) (a : Addr) (hg : b ≠ a.block) (v : Value) : H16 (w.setCell a v) b f := (heap_setCell_other _ _ _ _ hg).trans h
theorem H16.set (h : H16 w b f) (k v : Nat) (hk : k < 16) (hv : z k = v) (ho : ∀ j, j < 16 → j ≠ k → z j = f j) : H16 (w.setCell ⟨b, k, none⟩ (.int .u8 (v : Int))) b z := by
  unfold H16
  rw [heap_setCell_same _ _ _ _ _ _ h, aN_set 16 f z k v hk hv ho]
theorem H16.row (h : H16 w b f) : H16 (w.setRow b (aN 16 z)) b z := setRow_heap _ _ _ _ _ _ h
theorem H16.rowOther (h : H16 w b f) (hg : b ≠ g) (cs : Array Value) : H16 (w.setRow g cs) b f := (setRow_other _ _ _ _ hg).trans h
theorem H16.congr (h : H16 w b f) (e : E16 f z) : H16 w b z := by
  unfold H16 at *
  rw [h, aN_congr e]
end
theorem zero16 : (#[.int .u8 0, .int .u8 0, .int .u8 0, .int .u8 0, .int .u8 0, .int .u8 0, .int .u8 0, .int .u8 0, .int .u8 0, .int .u8 0, .int .u8 0, .int .u8 0, .int .u8 0, .int .u8 0, .int .u8 0, .int .u8 0] : Array Value) = aN 16 fun _ => 0 := rfl

/-- n bytes as a list of values. -/
def vl (n : Nat) (f : Nat → Nat) : List Value := (List.range n).map fun i => Value.int .u8 (f i : Int)
theorem aN_vl (n : Nat) (f : Nat → Nat) : aN n f = (vl n f).toArray := rfl
theorem vl_len (n : Nat) (f : Nat → Nat) : (vl n f).length = n := by simp [vl]
theorem vl_get (n : Nat) (f : Nat → Nat) (k : Nat) (hk : k < n) : (vl n f)[k]? = some (.int .u8 (f k : Int)) := by simp [vl, hk]
theorem vl_one (n : Nat) (f : Nat → Nat) : ∀ v ∈ vl n f, v.oneCell' = true := by
  intro v hv
  simp only [vl, List.mem_map] at hv
  obtain ⟨b, _, rfl⟩ := hv
  rfl
theorem vl_congr {n : Nat} {f g : Nat → Nat} (h : ∀ i, i < n → f i = g i) : vl n f = vl n g := by
  unfold vl
  apply List.map_congr_left
  intro i hi
  rw [h i (List.mem_range.mp hi)]
theorem row16_range {w : World} {b : Nat} {f : Nat → Nat} (h : H16 w b f) : w.rangeAt b 0 (vl 16 f) := fun j v hj => by
  have hl : j < 16 := by have := (List.getElem?_eq_some_iff.1 hj).1; rwa [vl_len] at this
  rw [vl_get _ _ _ hl] at hj
  rw [Nat.zero_add, h.cell j hl, ← hj]
theorem cell_kept {W w1 : World} {p : Addr} {v : Value} (hb : Below W.heap.size W w1) (h : W.cell? p = some v) : w1.cell? p = some v := (hb.cell (block_lt_of_cell h)).trans h
theorem range_kept {W w1 : World} {b o : Nat} {cs : List Value} (hb : Below W.heap.size W w1) (h : W.rangeAt b o cs) : w1.rangeAt b o cs := fun j v hj => cell_kept hb (h j v hj)
theorem u8_size : (Try.prog.info? 35).map (·.size) = some 16 := by kernel_rfl
/-- The first k bytes added. -/
def addK (f g : Nat → Nat) (k i : Nat) : Nat := if i < k then f i ^^^ g i else f i
theorem addK_full (f g : Nat → Nat) : E16 (addK f g 16) (fun i => f i ^^^ g i) := fun i hi => by simp [addK, hi]
/-- Bytes added bit by bit. -/
theorem xor_u8 (a b : Nat) (ha : a < 256) (hb : b < 256) : bits .xor .u8 (a : Int) (b : Int) = ((a ^^^ b : Nat) : Int) := by
  have h : bits .xor .u8 (a : Int) (b : Int) = IntKind.u8.wrap (((BitVec.ofInt 8 (a : Int) ^^^ BitVec.ofInt 8 (b : Int)).toNat : Nat) : Int) := rfl
  rw [h, BitVec.toNat_xor, bv_nat 8 a ha, bv_nat 8 b hb]
  exact IntWalk.u8_in _ (by have : a ^^^ b < 2 ^ 8 := Nat.xor_lt_two_pow ha hb; omega)
theorem below_row {B : Nat} {w w' : World} (h : Below B w w') (g : Nat) (hg : B ≤ g) (cs : Array Value) : Below B w (w'.setRow g cs) := Go.below_setRow h hg cs
end Go.Proofs.Ytkfmgjipocmkjaa
namespace Go.Proofs.Ytkfmgjipocmkjaa
open Go Go.RowKit
set_option linter.unusedVariables false
set_option linter.unusedSimpArgs false

theorem info_u8 : (Try.prog.info? 5).map (fun i => (i.zero, i.size, i.bytes)) = some (some (.int .u8 0), 1, 1) := by kernel_rfl
/-- The last m bytes of a number. -/
def be (n : Nat) : Nat → List UInt8
  | 0 => []
  | m + 1 => UInt8.ofNat (n / 256 ^ m) :: be n m
theorem be_len (n m : Nat) : (be n m).length = m := by induction m with | zero => rfl | succ m ih => simp [be, ih]
def bePart (n size m : Nat) : List UInt8 := List.replicate (size - m) 0 ++ be n m
theorem bePart_len (n size m : Nat) (h : m ≤ size) : (bePart n size m).length = size := by simp [bePart, be_len]; omega
theorem bePart_set (n size m : Nat) (h : m < size) : (vb (bePart n size m)).set (size - 1 - m) (.int .u8 ((UInt8.ofNat (n / 256 ^ m)).toNat : Int)) = vb (bePart n size (m + 1)) := by
  obtain ⟨k, rfl⟩ : ∃ k, size = m + 1 + k := ⟨size - (m + 1), by omega⟩
  simp only [bePart, vb, be]
  rw [show m + 1 + k - m = k + 1 from by omega, show m + 1 + k - 1 - m = k from by omega, show m + 1 + k - (m + 1) = k from by omega, List.replicate_succ']
  rw [← List.map_set]
  simp

theorem be_byte (n m : Nat) : (n : Int) / 256 ^ m % 256 = ((UInt8.ofNat (n / 256 ^ m)).toNat : Int) := by
  have : (n : Int) / 256 ^ m % 256 = ((n / 256 ^ m % 256 : Nat) : Int) := by simp
  rw [this]; simp

set_option maxHeartbeats 400000 in
set_option maxRecDepth 100000 in
theorem put_any (n size : Nat) (w : World) (h64 : n < 18446744073709551616) (hn : n < 256 ^ size) (h1 : 1 ≤ size) (h8 : size ≤ 8) :
    Calls Try.prog 68 #[.int .u64 n, .int .i64 size] w fun e w' => ∃ v, e = .returned (.tuple #[v, .int .i64 0]) ∧ w'.ownsRow w.heap.size 5 1 v size (vb (be n size)) ∧ Below w.heap.size w w' := by
  obtain ⟨i0, hi, hz0, hz1, hz2⟩ := info_parts info_u8
  have hx : (((n : Int)) / 2 ^ (8 * size) != 0) = false := by
    rw [bne_eq_false_iff_eq]
    have : n / 2 ^ (8 * size) = 0 := Nat.div_eq_of_lt (by rw [Nat.pow_mul]; exact hn)
    exact_mod_cast this
  clear hn
  have HX := hx
  go_enter Try.func68, Try.ntmps68
  go_wp2_with (at_make; refine wpList_make_full _ rfl _ _ 22 rfl w.heap.size 5 i0 (.int .u8 0) 1 Try.underlying22 hi hz0 hz1 .i64 .i64 _ _ size rfl rfl rfl rfl (by rw [hz2]; omega) (by unfold maxLen; omega) (Nat.le_refl _) ?_; intro w0 hown0 hgrow0)
  clear HX hx
  have hown1 : w0.ownsRow w.heap.size 5 1 (.slice (some ⟨w.heap.size, 0, none⟩) size size) size (vb (bePart n size 0)) := by
    have e : (madeCells (Value.int .u8 0).cells (size * 1)).toList = vb (bePart n size 0) := by
      simp [bePart, be, Value.cells, toList_madeCells_one]
    rw [← e]; exact hown0
  have hb0 : Below w.heap.size w w0 := (Below.refl _ _).grown hgrow0 (Nat.le_refl _) (by simp)
  clear hown0 hgrow0
  go_loopw [0, 7] (fun s i wr => ∃ m : Nat, m ≤ size ∧ i = .int .i64 ((size : Int) - 1 - m) ∧ s = .int .u64 ((n / 256 ^ m : Nat) : Int) ∧
      wr.ownsRow w.heap.size 5 1 (.slice (some ⟨w.heap.size, 0, none⟩) size size) size (vb (bePart n size m)) ∧ Below w.heap.size w wr) (fun _ i _ => (intOf i + 1).toNat)
  case atStart => exact ⟨0, Nat.zero_le _, by simp, by simp, hown1, hb0⟩
  case round =>
    rename_i wr _ _
    obtain ⟨m, hm, rfl, rfl, hown, hb⟩ := hrel
    by_cases hlt : m < size
    · have hfz := hown.frozenAt (size - 1 - m)
      have hce := (hown.cellAt (size - 1 - m) (by omega)).trans (List.getElem?_eq_getElem (by simp [bePart_len n size m hm]; omega))
      have hst := hown.stored (size - 1 - m) (.int .u8 ((UInt8.ofNat (n / 256 ^ m)).toNat : Int))
      rw [bePart_set n size m hlt] at hst
      have HST := Lib.hid hst; clear hst
      have HV := Lib.hid (be_byte n m)
      go_wp2
      go_roundw
      case rel =>
        rw [HV.out]
        exact ⟨m + 1, by omega, val_int (by omega), val_int (by rw [Nat.pow_succ, ← Nat.div_div_eq_div_mul]; simp), HST.out.1, hb.grown HST.out.2 hb.size (by simp)⟩
      case measure => simp [intOf]; omega
    · obtain rfl : m = size := by omega
      go_wp2
      go_ret2
      exact ⟨_, rfl, by simpa [bePart] using hown, hb⟩

set_option maxRecDepth 100000 in
theorem put_arg (n : Nat) (size : Int) (w : World) (hx : size < 1 ∨ 8 < size) :
    Calls Try.prog 68 #[.int .u64 n, .int .i64 size] w fun e w' => e = .returned (.tuple #[.slice none 0 0, .int .i64 2]) ∧ w' = w := by
  rcases hx with hx | hx <;>
  · go_enter Try.func68, Try.ntmps68
    go_wp2
    go_ret2
    exact ⟨rfl, rfl⟩

set_option maxRecDepth 100000 in
theorem put_range (n size : Nat) (w : World) (h64 : n < 18446744073709551616) (hn : 256 ^ size ≤ n) (h1 : 1 ≤ size) (h8 : size ≤ 8) :
    Calls Try.prog 68 #[.int .u64 n, .int .i64 size] w fun e w' => e = .returned (.tuple #[.slice none 0 0, .int .i64 6]) ∧ w' = w := by
  have hx : (((n : Int)) / 2 ^ (8 * size) != 0) = true := by
    rw [bne_iff_ne]
    have : 0 < n / 2 ^ (8 * size) := Nat.div_pos (by rw [Nat.pow_mul]; exact hn) (Nat.pow_pos (by omega))
    intro e
    have e' : ((n / 2 ^ (8 * size) : Nat) : Int) = 0 := by simpa using e
    omega
  clear hn
  go_enter Try.func68, Try.ntmps68
  go_wp2
  go_ret2
  exact ⟨rfl, rfl⟩

set_option maxHeartbeats 400000 in
set_option maxRecDepth 100000 in
theorem rof_any (n size : Nat) (w : World) (h64 : n < 18446744073709551616) (h1 : 1 ≤ size) (h8 : size ≤ 8) :
    Calls Try.prog 53 #[.int .u64 n, .int .i64 size] w fun e w' => ∃ v, e = .returned (.tuple #[v, .bool (n / 256 ^ size == 0)]) ∧ w'.ownsRow w.heap.size 5 1 v size (vb (be n size)) ∧ Below w.heap.size w w' := by
  obtain ⟨i0, hi, hz0, hz1, hz2⟩ := info_parts info_u8
  go_enter Try.func53, Try.ntmps53
  go_wp2_with (at_make; refine wpList_make_full _ rfl _ _ 22 rfl w.heap.size 5 i0 (.int .u8 0) 1 Try.underlying22 hi hz0 hz1 .i64 .i64 _ _ size rfl rfl rfl rfl (by rw [hz2]; omega) (by unfold maxLen; omega) (Nat.le_refl _) ?_; intro w0 hown0 hgrow0)
  have hown1 : w0.ownsRow w.heap.size 5 1 (.slice (some ⟨w.heap.size, 0, none⟩) size size) size (vb (bePart n size 0)) := by
    have e : (madeCells (Value.int .u8 0).cells (size * 1)).toList = vb (bePart n size 0) := by
      simp [bePart, be, Value.cells, toList_madeCells_one]
    rw [← e]; exact hown0
  have hb0 : Below w.heap.size w w0 := (Below.refl _ _).grown hgrow0 (Nat.le_refl _) (by simp)
  clear hown0 hgrow0
  go_loopw [0, 7] (fun s i wr => ∃ m : Nat, m ≤ size ∧ i = .int .i64 m ∧ s = .int .u64 ((n / 256 ^ m : Nat) : Int) ∧
      wr.ownsRow w.heap.size 5 1 (.slice (some ⟨w.heap.size, 0, none⟩) size size) size (vb (bePart n size m)) ∧ Below w.heap.size w wr) (fun _ i _ => size - (intOf i).toNat)
  case atStart => exact ⟨0, Nat.zero_le _, by simp, by simp, hown1, hb0⟩
  case round =>
    rename_i wr _ _
    obtain ⟨m, hm, rfl, rfl, hown, hb⟩ := hrel
    obtain ⟨q, hq⟩ : ∃ q, n / 256 ^ m = q := ⟨_, rfl⟩
    have hq64 : q < 18446744073709551616 := by have := Nat.div_le_self n (256 ^ m); omega
    rw [hq]
    have HQ := Lib.hid hq
    by_cases hlt : m < size
    · have hfz := hown.frozenAt (size - 1 - m)
      have hce := (hown.cellAt (size - 1 - m) (by omega)).trans (List.getElem?_eq_getElem (by simp [bePart_len n size m hm]; omega))
      have hst := hown.stored (size - 1 - m) (.int .u8 ((UInt8.ofNat (n / 256 ^ m)).toNat : Int))
      rw [bePart_set n size m hlt, hq] at hst
      have HST := Lib.hid hst; clear hst hq
      have hv : ((q : Int) % 256) = ((UInt8.ofNat q).toNat : Int) := by
        rw [UInt8.toNat_ofNat']; omega
      have HV := Lib.hid hv; clear hv
      go_wp2
      go_roundw
      case rel =>
        rw [HV.out]
        exact ⟨m + 1, by omega, val_int (by omega), val_int (by rw [Nat.pow_succ, ← Nat.div_div_eq_div_mul, HQ.out]; omega), HST.out.1, hb.grown HST.out.2 hb.size (by simp)⟩
      case measure => simp [intOf]; omega
    · obtain rfl : m = size := by omega
      clear hq
      go_wp2
      go_ret2
      refine ⟨_, ret_two rfl (congrArg Value.bool ?_), by simpa [bePart] using hown, hb⟩
      rw [HQ.out, Bool.eq_iff_iff, beq_iff_eq, beq_iff_eq]
      omega

end Go.Proofs.Ytkfmgjipocmkjaa
namespace Go.Proofs.Ytkfmgjipocmkjaa
open Go Go.RowKit
set_option linter.unusedVariables false
set_option linter.unusedSimpArgs false

/-- Bytes o .. o + n of a function, as bytes. -/
def byF (f : Nat → Nat) (o n : Nat) : List UInt8 := (List.range n).map fun i => UInt8.ofNat (f (o + i))
theorem byF_len (f : Nat → Nat) (o n : Nat) : (byF f o n).length = n := by simp [byF]
theorem byF_succ (f : Nat → Nat) (o n : Nat) : byF f o (n + 1) = byF f o n ++ [UInt8.ofNat (f (o + n))] := by simp [byF, List.range_succ]
theorem byF_at (f : Nat → Nat) (o n k : Nat) (hk : k < n) (h : f (o + k) < 256) : (vb (byF f o n))[k]? = some (.int .u8 (f (o + k) : Int)) := by
  simp [vb, byF, hk]
  omega
theorem H16.rd {w : World} {b : Nat} {f : Nat → Nat} (h : H16 w b f) (hf : B16 f) (o n : Nat) (ho : o + n ≤ 16) : Rd w w.heap.size (some ⟨b, o, none⟩) (vb (byF f o n)) := by
  intro h0
  refine ⟨⟨b, o, none⟩, rfl, h.lt, ?_⟩
  intro j u hj
  have hl : j < n := by have := (List.getElem?_eq_some_iff.1 hj).1; simpa [byF_len] using this
  rw [byF_at f o n j hl (hf _ (by omega))] at hj
  have e : (⟨b, o, none⟩ : Addr).add j = ⟨b, o + j, none⟩ := by unfold Addr.add; split <;> simp_all
  rw [e, h.cell (o + j) (by omega), ← hj]

theorem be_map (n m : Nat) : be n m = (List.range m).map fun i => UInt8.ofNat (n / 256 ^ (m - 1 - i)) := by
  induction m with
  | zero => rfl
  | succ m ih =>
    rw [be, ih, List.range_succ_eq_map, List.map_cons, List.map_map]
    congr 1
    apply List.map_congr_left
    intro i hi
    have := List.mem_range.mp hi
    simp only [Function.comp]
    rw [show m + 1 - 1 - (i + 1) = m - 1 - i from by omega]
end Go.Proofs.Ytkfmgjipocmkjaa
namespace Go.Proofs.Ytkfmgjipocmkjaa
open Go Go.RowKit
set_option linter.unusedVariables false
set_option linter.unusedSimpArgs false

theorem info_b : (Try.prog.info? 5).map (fun i => (i.zero, i.size, i.bytes)) = some (some (.int .u8 0), 1, 1) := by kernel_rfl
theorem vb_onec (l : List UInt8) : ∀ v ∈ vb l, v.oneCell' = true := by
  intro v hv
  simp only [vb, List.mem_map] at hv
  obtain ⟨b, _, rfl⟩ := hv
  rfl

set_option maxRecDepth 100000 in
set_option maxHeartbeats 400000 in
theorem copyx_any (A : Option Addr) (cs : List Value) (n cap : Nat) (hlen : cs.length = n) (hone : ∀ v ∈ cs, v.oneCell' = true) (w : World) (hl : n ≤ 140737488351232) (h : Rd w w.heap.size A cs) :
    Calls Try.prog 10 #[.slice A n cap] w fun e w' => e = .returned (.slice (some ⟨w.heap.size, 0, none⟩) n (n + 3)) ∧ w'.ownsRow w.heap.size 5 1 (.slice (some ⟨w.heap.size, 0, none⟩) n (n + 3)) n cs ∧ Below w.heap.size w w' := by
  obtain ⟨i0, hi, hz0, hz1, hz2⟩ := info_parts info_b
  have hsz : (Try.prog.info? 5).map (·.size) = some 1 := by rw [hi]; simp [hz1]
  have HL := Lib.hid hlen
  have HONE := Lib.hid hone
  clear hlen hone
  go_enter Try.func10, Try.ntmps10
  go_wp2_with (first
    | (at_make; refine wpList_make_blk _ rfl _ _ 22 rfl 5 i0 (.int .u8 0) Try.underlying22 hi hz0 hz1 rfl .i64 .i64 _ _ n (n + 3) rfl rfl rfl (by omega) (by omega) (by rw [hz2]; omega) (by unfold maxLen; omega) ?_; intro w0 hblk0 hb0 hsize0)
    | ((with_reducible show wpList _ _ _ _ _ _); refine wpList_copy_splice (o := ⟨some 12, _, _, _, _, _⟩) rfl (.tmp 10) (.tmp 11) 22 22 rfl 5 Try.underlying22 hsz (some ⟨w.heap.size, 0, none⟩) A n (n + 3) n cap rfl rfl w.heap.size 0 (List.replicate (n + 3) (.int .u8 0)) 5 hblk0.out cs (by have := HL.out; simp [this]) ?_ (by have := HL.out; simp; omega) HONE.out w.heap.size w hb0 (Nat.le_refl _) ?_))
  · intro h0
    obtain ⟨ad, rfl, hb, hc⟩ := h h0
    exact ⟨ad, rfl, fun j v hv => (hb0.cell (by rw [add_block]; exact hb)).trans (hc j v hv)⟩
  · intro w1 hblk1 hb1
    go_wp2
    go_ret
    refine ⟨rfl, ?_, hb1⟩
    have := own_of_blk (n := n) (cap := n + 3) hblk1.out (Nat.le_refl _) (by omega) (by unfold maxLen; omega) (by have := HL.out; simp [splice]; omega)
    have hsp : (List.take n (splice (List.replicate (n + 3) (Value.int .u8 0)) 0 cs)) = cs := by
      simp only [splice, List.take_zero, List.nil_append]
      rw [List.take_append_of_le_length (by have := HL.out; omega), List.take_of_length_le (by have := HL.out; omega)]
    simp only [hsp] at this
    exact this
theorem copyv_any (A : Option Addr) (cs : List Value) (n cap : Nat) (hlen : cs.length = n) (hone : ∀ v ∈ cs, v.oneCell' = true) (w : World) (hl : n ≤ 140737488351232) (h : Rd w w.heap.size A cs) :
    Calls Try.prog 10 #[.slice A n cap] w fun e w' => ∃ v, e = .returned v ∧ w'.ownsRow w.heap.size 5 1 v n cs ∧ Below w.heap.size w w' :=
  (copyx_any A cs n cap hlen hone w hl h).mono fun e w' ⟨he, ho, hb⟩ => ⟨_, he, ho, hb⟩

set_option maxRecDepth 100000 in
/-- 'string(a) == string(b)'. -/
theorem rsamev_any (A B : Option Addr) (a b : List UInt8) (n m ca cb : Nat) (hn : a.length = n) (hm : b.length = m) (w : World) {BA BB : Nat} (h : Rd w BA A (vb a)) (h' : Rd w BB B (vb b)) :
    Calls Try.prog 13 #[.slice A n ca, .slice B m cb] w fun e w' => e = .returned (.bool (a == b)) ∧ w' = w := by
  have ra := run_str (P := Try.prog) 22 9 5 Try.underlying22 Try.underlying5 Try.underlying9 hn ca h
  have rb := run_str (P := Try.prog) 22 9 5 Try.underlying22 Try.underlying5 Try.underlying9 hm cb h'
  clear hn hm
  go_enter Try.func13, Try.ntmps13
  go_wp2
  go_ret
  exact ⟨rfl, rfl⟩
end Go.Proofs.Ytkfmgjipocmkjaa
namespace Go.Proofs.Ytkfmgjipocmkjaa

theorem zq1 : type_of% @List.getElem_toArray := @List.getElem_toArray
theorem zq2 : type_of% @List.getElem_cons_zero := @List.getElem_cons_zero
theorem zq3 : type_of% @List.getElem_cons_succ := @List.getElem_cons_succ
theorem zq4 : type_of% @List.setIfInBounds_toArray := @List.setIfInBounds_toArray
theorem zq5 : type_of% @List.set_cons_zero := @List.set_cons_zero
theorem zq6 : type_of% @List.set_cons_succ := @List.set_cons_succ
end Go.Proofs.Ytkfmgjipocmkjaa
namespace Go.Proofs.Ytkfmgjipocmkjaa
open Go Go.RowKit
set_option linter.unusedVariables false
set_option linter.unusedSimpArgs false

section
variable {w w' : World} {b : Nat} {f z : Nat → Nat}
theorem below_store {B : Nat} (h : Below B w w') (hB : B ≤ b) (vs : List Value) : ∀ o, Below B w (w'.setCells b o vs) := by
  induction vs generalizing w' with
  | nil => exact fun _ => h
  | cons v vs ih => exact fun o => ih (h.setCell (p := ⟨b, o, none⟩) hB v) (o + 1)
theorem heap_store_far {g : Nat} (vs : List Value) (hg : g ≠ b) : ∀ (o : Nat) (w : World), (w.setCells b o vs).heap[g]? = w.heap[g]? := by
  induction vs with
  | nil => exact fun _ _ => rfl
  | cons v vs ih => exact fun o w => (ih (o + 1) _).trans (heap_setCell_other _ _ _ _ hg)
theorem cell_callw {v : Value} {p : Addr} (hb : Below w.heap.size w w') (h : w.cell? p = some v) : w'.cell? p = some v := (hb.cell (block_lt_of_cell h)).trans h
theorem range_callw {o : Nat} {cs : List Value} (hb : Below w.heap.size w w') (h : w.rangeAt b o cs) : w'.rangeAt b o cs := fun j v hj => cell_callw hb (h j v hj)
theorem there_callw {o m : Nat} (hb : Below w.heap.size w w') (h : w.there b o m) : w'.there b o m := fun j hj => by
  obtain ⟨h1, h2⟩ := h j hj
  obtain ⟨u, hu⟩ := Option.isSome_iff_exists.1 h1
  have hl := block_lt_of_cell hu
  exact ⟨by rw [hb.cell hl]; exact h1, by rw [hb.frozen hl]; exact h2⟩
theorem H16.there (h : H16 w b f) : w.there b 0 16 := fun j hj => by
  rw [Nat.zero_add, h.cell j hj]
  exact ⟨rfl, h.free _⟩
theorem H16.stores (l : List Nat) : ∀ (o : Nat) (w : World) (f : Nat → Nat), H16 w b f → o + l.length ≤ 16 → H16 (w.setCells b o (l.map fun (x : Nat) => Value.int .u8 (x : Int))) b (fun i => if o ≤ i ∧ i < o + l.length then l.getD (i - o) 0 else f i) := by
  induction l with
  | nil =>
    intro o w f h _
    exact h.congr fun i _ => by rw [if_neg (by simp)]
  | cons x l ih =>
    intro o w f h ho
    simp only [List.length_cons] at ho
    have h1 := H16.set (z := fun i => if i = o then x else f i) h o x (by omega) (by simp) (fun j _ hj => by rw [if_neg hj])
    have h2 := ih (o + 1) _ _ h1 (by omega)
    refine H16.congr h2 fun i _ => ?_
    simp only [List.length_cons]
    by_cases e : i = o
    · subst e
      rw [if_neg (by omega), if_pos rfl, if_pos (by omega), Nat.sub_self]; rfl
    · by_cases e2 : o + 1 ≤ i ∧ i < o + 1 + l.length
      · rw [if_pos e2, if_pos (by omega), show i - o = (i - (o + 1)) + 1 from by omega]; rfl
      · rw [if_neg e2, if_neg e, if_neg (by omega)]
theorem H16.store (h : H16 w b f) (g : Nat → Nat) : H16 (w.setCells b 0 (vl 16 g)) b g := by
  have e : vl 16 g = ((List.range 16).map g).map fun (x : Nat) => Value.int .u8 (x : Int) := by simp [vl]
  rw [e]
  exact H16.congr (H16.stores ((List.range 16).map g) 0 w f h (by simp)) fun i hi => by
    rw [if_pos (by simpa using hi), Nat.sub_zero, List.getD, List.getElem?_map, List.getElem?_range hi]; rfl
theorem H16.storeOther (h : H16 w b f) {g : Nat} (hg : b ≠ g) (vs : List Value) : H16 (w.setCells g 0 vs) b f := (heap_store_far vs hg 0 w).trans h
end
theorem blk_size : (Try.prog.info? 35).map (·.size) = some 16 := by kernel_rfl
theorem blk_ret {fn : Func} {p : Tmp} (hr : fn.results = #[.cell p 35]) (tmps : Array Value) (w : World) (g : Nat) (f : Nat → Nat) (hp : tmps.getD p undef = .pointer (some ⟨g, 0, none⟩)) (h : H16 w g f) :
    (results fn tmps).run Try.prog w = .ok (.agg (aN 16 f)) w :=
  results_cell_row hr tmps w g 35 _ (0, 0) (.array 16 5) hp h Try.underlying35 rfl (by rw [aN_size]; exact blk_size)
abbrev zO : Obj := .cells #[.int .u8 0, .int .u8 0, .int .u8 0, .int .u8 0, .int .u8 0, .int .u8 0, .int .u8 0, .int .u8 0, .int .u8 0, .int .u8 0, .int .u8 0, .int .u8 0, .int .u8 0, .int .u8 0, .int .u8 0, .int .u8 0] 35
theorem vsz (f : Nat → Nat) : (Try.prog.info? 35).map (·.size) = some (vl 16 f).toArray.size := by rw [List.size_toArray, vl_len]; exact blk_size
theorem vln (f : Nat → Nat) : (Try.prog.info? 35).map (·.size) = some (vl 16 f).length := by rw [vl_len]; exact blk_size
theorem von (f : Nat → Nat) : (vl 16 f).toArray.all (·.oneCell') = true := all_oneCell_toArray (vl_one _ _)
/-! Short names for what lays a frame's slots (printed texts name them often). -/
end Go.Proofs.Ytkfmgjipocmkjaa
namespace Go.Proofs.Ytkfmgjipocmkjaa
open Go Go.RowKit
set_option linter.unusedVariables false
set_option linter.unusedSimpArgs false

/-- The last four bytes' number. -/
def ctN (f : Nat → Nat) : Nat := ((f 12 * 256 + f 13) * 256 + f 14) * 256 + f 15
/-- The next counter block. -/
def nxF (f : Nat → Nat) (i : Nat) : Nat := if i < 12 then f i else (ctN f + 1) % 4294967296 / 256 ^ (15 - i) % 256
/-- The first counter block. -/
def stF (l : List Nat) (i : Nat) : Nat := if i < 12 then l.getD i 0 else if i = 15 then 1 else 0
theorem ctN_lt (f : Nat → Nat) (h : B16 f) : ctN f < 4294967296 := by
  have h1 := h 12 (by omega); have h2 := h 13 (by omega); have h3 := h 14 (by omega); have h4 := h 15 (by omega)
  unfold ctN; omega
theorem nxF_lt (f : Nat → Nat) (h : B16 f) : B16 (nxF f) := fun i hi => by
  unfold nxF
  split
  · exact h i hi
  · exact Nat.mod_lt _ (by omega)
theorem stF_lt (l : List Nat) (h : ∀ x ∈ l, x < 256) : B16 (stF l) := fun i hi => by
  unfold stF
  split
  · rw [List.getD_eq_getElem?_getD]
    cases hx : l[i]? with
    | none => simp
    | some x => simpa using h x (List.mem_of_getElem? hx)
  · split <;> omega
theorem num_four (f : Nat → Nat) (h : B16 f) : num (byF f 12 4) = ctN f := by
  have h1 := h 12 (by omega); have h2 := h 13 (by omega); have h3 := h 14 (by omega); have h4 := h 15 (by omega)
  show ((((0 * 256 + (UInt8.ofNat (f 12)).toNat) * 256 + (UInt8.ofNat (f 13)).toNat) * 256 + (UInt8.ofNat (f 14)).toNat) * 256 + (UInt8.ofNat (f 15)).toNat) = ctN f
  rw [UInt8.toNat_ofNat', UInt8.toNat_ofNat', UInt8.toNat_ofNat', UInt8.toNat_ofNat', Nat.mod_eq_of_lt h1, Nat.mod_eq_of_lt h2, Nat.mod_eq_of_lt h3, Nat.mod_eq_of_lt h4]
  unfold ctN; omega
/-- The first k of the last four bytes laid. -/
def nxK (f : Nat → Nat) (k i : Nat) : Nat := if i < 12 + k then nxF f i else f i
theorem be_four (f : Nat → Nat) (k : Nat) (hk : k < 4) : (vb (be ((ctN f + 1) % 4294967296) 4))[k]? = some (.int .u8 (nxF f (12 + k) : Int)) := by
  rw [be_map, vb, List.map_map, List.getElem?_map, List.getElem?_range hk]
  unfold nxF
  rw [if_neg (by omega)]
  simp only [Option.map_some, Function.comp, UInt8.toNat_ofNat']
  rw [show 15 - (12 + k) = 4 - 1 - k from by omega]

set_option maxRecDepth 100000 in
set_option maxHeartbeats 2000000 in
theorem rnext_any (f : Nat → Nat) (w : World) (hf : B16 f) :
    Calls Try.prog 32 #[.agg (aN 16 f)] w fun e w' => e = .returned (.agg (aN 16 (nxF f))) ∧ Below w.heap.size w w' := by
  have h1 : H16 ((w.alloc (.cells (aN 16 f) 35)).alloc (.cells (aN 16 fun _ => 0) 35)) w.heap.size f := H16.alloc _ (H16.newAt rfl)
  have h2 : H16 ((w.alloc (.cells (aN 16 f) 35)).alloc (.cells (aN 16 fun _ => 0) 35)) (w.heap.size + 1) fun _ => 0 := H16.newAt (w := w.alloc (.cells (aN 16 f) 35)) (by rw [World.size_alloc])
  have hB : Below w.heap.size w ((w.alloc (.cells (aN 16 f) 35)).alloc (.cells (aN 16 fun _ => 0) 35)) := ((Below.refl _ _).alloc (Nat.le_refl _) _).alloc (by simp) _
  have H1 := Lib.hid h1; clear h1
  have H2 := Lib.hid h2; clear h2
  have HB := Lib.hid hB; clear hB
  have HF := Lib.hid hf
  have hx : ((vb (byF f 12 4)) : List Value) = [.int .u8 (f 12 : Int), .int .u8 (f 13 : Int), .int .u8 (f 14 : Int), .int .u8 (f 15 : Int)] := by
    have e : ∀ k, k < 4 → (vb (byF f 12 4))[k]? = some (.int .u8 (f (12 + k) : Int)) := fun k hk => byF_at f 12 4 k hk (hf _ (by omega))
    apply List.ext_getElem?
    intro k
    by_cases hk : k < 4
    · rw [e k hk]
      rcases k with _ | _ | _ | _ | k
      · rfl
      · rfl
      · rfl
      · rfl
      · omega
    · rw [List.getElem?_eq_none (by simp [byF_len]; omega), List.getElem?_eq_none (by simp; omega)]
  have HX := Lib.hid hx; clear hx hf
  obtain ⟨cn, hcn⟩ : ∃ cn, cn = ctN f := ⟨_, rfl⟩
  have hcl : cn < 4294967296 := by rw [hcn]; exact ctN_lt f HF.out
  obtain ⟨cm, hcm⟩ : ∃ cm, cm = (cn + 1) % 4294967296 := ⟨_, rfl⟩
  have hw1 : IntKind.u64.wrap ((cn : Int) + 1) = (cn : Int) + 1 := IntWalk.u64_in _ (by omega)
  have hw2 : ((cn : Int) + 1) % 4294967296 = (cm : Int) := by omega
  have hcml : cm < 18446744073709551616 := by omega
  have HC := Lib.hid (And.intro hcn hcm); clear hcn hcm
  go_enter Try.func32, Try.ntmps32
  go_upto_region 1 with fail
  rw [zero16]
  generalize (w.alloc (.cells (aN 16 f) 35)).alloc (.cells (aN 16 fun _ => 0) 35) = w1 at *
  have c12 := H1.out.cell 12 (by decide)
  have c13 := H1.out.cell 13 (by decide)
  have c14 := H1.out.cell 14 (by decide)
  have c15 := H1.out.cell 15 (by decide)
  go_wp2_with fail
  have hrow := heap_alloc_new w1 (.cells #[.int .u8 (f 12 : Int), .int .u8 (f 13 : Int), .int .u8 (f 14 : Int), .int .u8 (f 15 : Int)] 5)
  have h1 := H16.alloc (.cells #[.int .u8 (f 12 : Int), .int .u8 (f 13 : Int), .int .u8 (f 14 : Int), .int .u8 (f 15 : Int)] 5) H1.out
  have h2 := H16.alloc (.cells #[.int .u8 (f 12 : Int), .int .u8 (f 13 : Int), .int .u8 (f 14 : Int), .int .u8 (f 15 : Int)] 5) H2.out
  have hb := HB.out.alloc HB.out.size (.cells #[.int .u8 (f 12 : Int), .int .u8 (f 13 : Int), .int .u8 (f 14 : Int), .int .u8 (f 15 : Int)] 5)
  generalize w1.alloc (.cells #[.int .u8 (f 12 : Int), .int .u8 (f 13 : Int), .int .u8 (f 14 : Int), .int .u8 (f 15 : Int)] 5) = w2 at *
  have hrd : Rd w2 w2.heap.size (some ⟨w1.heap.size, 0, none⟩) (vb (byF f 12 4)) := fun _ => ⟨_, rfl, (Array.getElem?_eq_some_iff.1 hrow).1, fun j u hj => by
    rw [HX.out] at hj
    rw [head_add, cell_of_row _ _ _ _ _ _ hrow, List.getElem?_toArray]
    exact hj⟩
  refine (rnumber_any _ (byF f 12 4) 4 4 (byF_len _ _ _) w2 (by decide) hrd).mono ?_
  rintro e w3 ⟨rfl, rfl⟩
  rw [num_four f HF.out, ← HC.out.1]
  clear hrow hrd c12 c13 c14 c15 H1 H2 HB
  have H1 := Lib.hid h1; clear h1
  have H2 := Lib.hid h2; clear h2
  have HB := Lib.hid hb; clear hb
  go_wp2_with fail
  refine (rof_any cm 4 w3 hcml (by decide) (by decide)).mono ?_
  rintro e w4 ⟨v, rfl, hown, hb4⟩
  obtain ⟨g, c4, rfl, hg1, hg2⟩ := hown.form (by decide)
  have hgn : g ≠ w.heap.size := by have := H2.out.lt; omega
  have hgn2 : g ≠ w.heap.size + 1 := by have := H2.out.lt; omega
  have HCE : Hid (∀ k, k < 4 → w4.cell? ⟨g, k, none⟩ = some (.int .u8 (nxF f (12 + k) : Int))) := Lib.hid fun k hk => by
    rw [hown.cellAt k hk, HC.out.2, HC.out.1]
    exact be_four f k hk
  have H1b := Lib.hid (H1.out.call hb4)
  have H2b := Lib.hid (H2.out.call hb4)
  have HBb : Hid (Below w.heap.size w w4) := Lib.hid (HB.out.trans (hb4.mono HB.out.size))
  clear H1 H2 HB hb4 hown hg1 hg2
  go_wp2_with fail
  go_loopw [6] (fun i wr => ∃ k : Nat, k ≤ 4 ∧ i = .int .i64 (k : Int) ∧ Hid (H16 wr w.heap.size (nxK f k)) ∧ Hid (H16 wr (w.heap.size + 1) fun _ => 0) ∧ Hid (∀ k, k < 4 → wr.cell? ⟨g, k, none⟩ = some (.int .u8 (nxF f (12 + k) : Int))) ∧ Hid (Below w.heap.size w wr)) (fun i _ => 4 - (intOf i).toNat)
  case atStart => exact ⟨0, by omega, rfl, Lib.hid (H1b.out.congr fun i hi => by
    unfold nxK nxF
    by_cases h : i < 12
    · rw [if_pos h, if_pos h]
    · rw [if_neg h]), H2b, HCE, HBb⟩
  case round =>
    clear H1b H2b HCE HBb
    obtain ⟨k, hk, rfl, H1, H2, HCE, HB⟩ := hrel
    by_cases hlt : k < 4
    · have hk4 : (k : Int) < 4 := by omega
      have cg := HCE.out k hlt
      have cf := H1.out.cell (12 + k) (by omega)
      have ff := H1.out.free (12 + k)
      have hwr : IntKind.i64.wrap (12 + (k : Int)) = 12 + (k : Int) := IntWalk.i64_in _ (by omega)
      have hwi : (12 + (k : Int)).toNat = 12 + k := by omega
      go_wp2_with fail
      go_roundw
      case rel =>
        refine ⟨k + 1, by omega, by go_num, Lib.hid ?_, Lib.hid (H2.out.other _ (by simp) _), Lib.hid fun j hj => ?_, Lib.hid (HB.out.setCell (by simp) _)⟩
        · refine H1.out.set (12 + k) _ (by omega) (by unfold nxK; rw [if_pos (by omega)]) fun i hi hne => ?_
          unfold nxK
          by_cases h1 : i < 12 + k
          · rw [if_pos h1, if_pos (by omega)]
          · rw [if_neg h1, if_neg (by omega)]
        · rw [World.cell?_setCell_other _ _ _ _ (fun e => by injection e with e1 _ _; exact hgn e1.symm)]
          exact HCE.out j hj
      case measure => simp [intOf]; omega
    · obtain rfl : k = 4 := by omega
      have d1 : wr.heap[w.heap.size]? = some (.cells (aN 16 (nxF f)) 35 (0, 0)) := H1.out.congr fun i hi => by unfold nxK; rw [if_pos (by omega)]
      have d2 : wr.heap[w.heap.size + 1]? = some (.cells (aN 16 fun _ => 0) 35 (0, 0)) := H2.out
      go_wp2_with (first
        | (refine wpList_load_row rfl 35 (.tmp 1) rfl w.heap.size rfl 35 (aN 16 (nxF f)) (0, 0) (.array 16 5) d1 Try.underlying35 rfl (by rw [aN_size]; exact blk_size) ?_)
        | (refine wpList_store_row rfl 35 (.tmp 2) (.tmp 35) rfl (w.heap.size + 1) (aN 16 (nxF f)) rfl rfl 35 _ d2 (by rw [aN_size]; exact blk_size) (by simp only [aN_size]) (aN_one _ _) ?_))
      refine bodyPost_ret (blk_ret (p := 2) (by kernel_rfl) _ _ (w.heap.size + 1) _ rfl ?_) rfl ⟨rfl, ?_⟩
      · exact setRow_heap _ _ _ _ _ _ d2
      · exact below_row HB.out _ (by omega) _

/-- The first k bytes of the first counter block. -/
def stK (l : List Nat) (k i : Nat) : Nat := if i < k then l.getD i 0 else 0
set_option maxRecDepth 100000 in
set_option maxHeartbeats 2000000 in
theorem rfirst_any (A : Option Addr) (l : List Nat) (cap : Nat) (hn : l.length = 12) (w : World) (h : Rd w w.heap.size A (vn l)) :
    Calls Try.prog 31 #[.slice A 12 cap] w fun e w' => e = .returned (.agg (aN 16 (stF l))) ∧ Below w.heap.size w w' := by
  have h1 : H16 ((w.alloc (.cells (aN 16 fun _ => 0) 35)).alloc (.cells (aN 16 fun _ => 0) 35)) w.heap.size fun _ => 0 := H16.alloc _ (H16.newAt rfl)
  have h2 : H16 ((w.alloc (.cells (aN 16 fun _ => 0) 35)).alloc (.cells (aN 16 fun _ => 0) 35)) (w.heap.size + 1) fun _ => 0 := H16.newAt (w := w.alloc (.cells (aN 16 fun _ => 0) 35)) (by rw [World.size_alloc])
  have hB : Below w.heap.size w ((w.alloc (.cells (aN 16 fun _ => 0) 35)).alloc (.cells (aN 16 fun _ => 0) 35)) := ((Below.refl _ _).alloc (Nat.le_refl _) _).alloc (by simp) _
  have H1 := Lib.hid h1; clear h1
  have H2 := Lib.hid h2; clear h2
  have HB := Lib.hid hB; clear hB
  have HN := Lib.hid hn; clear hn
  obtain ⟨ad, rfl, hab, hac⟩ := h (by rw [vn_len, HN.out]; decide)
  have HC : Hid (∀ k, k < 12 → w.cell? (ad.add k) = some (.int .u8 (l.getD k 0 : Int))) := Lib.hid fun k hk => by
    refine hac k _ ?_
    have hl : k < l.length := by rw [HN.out]; exact hk
    simp [vn, hl]
  have HAB := Lib.hid hab; clear hab hac
  go_enter Try.func31, Try.ntmps31
  go_wp2_with fail
  rw [zero16]
  generalize (w.alloc (.cells (aN 16 fun _ => 0) 35)).alloc (.cells (aN 16 fun _ => 0) 35) = w1 at *
  go_loopw [4] (fun i wr => ∃ k : Nat, k ≤ 12 ∧ i = .int .i64 (k : Int) ∧ Hid (H16 wr (w.heap.size + 1) (stK l k)) ∧ Hid (H16 wr w.heap.size fun _ => 0) ∧ Hid (Below w.heap.size w wr)) (fun i _ => 12 - (intOf i).toNat)
  case atStart => exact ⟨0, by omega, rfl, Lib.hid (H2.out.congr fun i hi => by simp [stK]), H1, HB⟩
  case round =>
    clear H1 H2 HB
    obtain ⟨k, hk, rfl, H2, H1, HB⟩ := hrel
    by_cases hlt : k < 12
    · have hk4 : (k : Int) < 12 := by omega
      have cg : wr.cell? (ad.add k) = some (.int .u8 (l.getD k 0 : Int)) := (HB.out.cell (by rw [add_block]; exact HAB.out)).trans (HC.out k hlt)
      have cf := H2.out.cell k (by omega)
      have ff := H2.out.free k
      obtain ⟨x, hx⟩ : ∃ x, x = l.getD k 0 := ⟨_, rfl⟩
      rw [← hx] at cg
      have HXX := Lib.hid hx; clear hx
      go_wp2_with fail
      go_roundw
      case rel =>
        refine ⟨k + 1, by omega, by go_num, Lib.hid ?_, Lib.hid (H1.out.other _ (by simp) _), Lib.hid (HB.out.setCell (by simp) _)⟩
        refine H2.out.set k _ (by omega) (by unfold stK; rw [if_pos (by omega), HXX.out]) fun i hi hne => ?_
        unfold stK
        by_cases h1 : i < k
        · rw [if_pos h1, if_pos (by omega)]
        · rw [if_neg h1, if_neg (by omega)]
      case measure => simp [intOf]; omega
    · obtain rfl : k = 12 := by omega
      have cf := H2.out.cell 15 (by omega)
      have ff := H2.out.free 15
      have h2' := H2.out.set (z := stF l) 15 1 (by decide) (by simp [stF]) fun j hj hne => by
        unfold stF stK
        by_cases h1 : j < 12
        · rw [if_pos h1, if_pos h1]
        · rw [if_neg h1, if_neg h1, if_neg hne]
      have h1' := H1.out.other ⟨w.heap.size + 1, 15, none⟩ (by simp) (.int .u8 1)
      have hb' := HB.out.setCell (p := ⟨w.heap.size + 1, 15, none⟩) (by simp) (.int .u8 1)
      go_upto_region 7 with fail
      rw [show (Value.int IntKind.u8 ((1 : Nat) : Int)) = Value.int .u8 1 from rfl] at h2'
      generalize wr.setCell ⟨w.heap.size + 1, 15, none⟩ (.int .u8 1) = w2 at *
      have d3 : w2.heap[w.heap.size + 1]? = some (.cells (aN 16 (stF l)) 35 (0, 0)) := h2'
      have d2 : w2.heap[w.heap.size]? = some (.cells (aN 16 fun _ => 0) 35 (0, 0)) := h1'
      go_wp2_with (first
        | (refine wpList_load_row rfl 35 (.tmp 3) rfl (w.heap.size + 1) rfl 35 (aN 16 (stF l)) (0, 0) (.array 16 5) d3 Try.underlying35 rfl (by rw [aN_size]; exact blk_size) ?_)
        | (refine wpList_store_row rfl 35 (.tmp 2) (.tmp 16) rfl w.heap.size (aN 16 (stF l)) rfl rfl 35 _ d2 (by rw [aN_size]; exact blk_size) (by simp only [aN_size]) (aN_one _ _) ?_))
      refine bodyPost_ret (blk_ret (p := 2) (by kernel_rfl) _ _ w.heap.size _ rfl ?_) rfl ⟨rfl, ?_⟩
      · exact setRow_heap _ _ _ _ _ _ d2
      · exact below_row hb' _ (by omega) _
end Go.Proofs.Ytkfmgjipocmkjaa
namespace Go.Proofs.Ytkfmgjipocmkjaa

theorem xor4 (a b c d : Nat) : (a ^^^ b) ^^^ (c ^^^ d) = (a ^^^ c) ^^^ (b ^^^ d) := by
  rw [Nat.xor_assoc, Nat.xor_assoc, ← Nat.xor_assoc b, Nat.xor_comm b c, Nat.xor_assoc c]

/-- X, k times. -/
def it (X : Nat → Nat) : Nat → Nat → Nat
  | 0, b => b
  | k + 1, b => X (it X k b)

/-- The sum of X i times of b, over the bits i below k that a has. -/
def gL (X : Nat → Nat) (bit : Nat → Nat → Bool) : Nat → Nat → Nat → Nat
  | 0, _, _ => 0
  | k + 1, a, b => gL X bit k a b ^^^ (if bit a k then it X k b else 0)

section
variable {X : Nat → Nat} {bit : Nat → Nat → Bool} (hX : ∀ a b, X (a ^^^ b) = X a ^^^ X b) (hbit : ∀ a b i, bit (a ^^^ b) i = (bit a i ^^ bit b i))

theorem add_nought {T : Nat → Nat} (hT : ∀ a b, T (a ^^^ b) = T a ^^^ T b) : T 0 = 0 := by
  have := hT 0 0
  simpa using this

include hX in
theorem it_add (k a b : Nat) : it X k (a ^^^ b) = it X k a ^^^ it X k b := by
  induction k with
  | zero => rfl
  | succ k ih => simp only [it, ih, hX]

include hX in
theorem gL_add_r (k a b c : Nat) : gL X bit k a (b ^^^ c) = gL X bit k a b ^^^ gL X bit k a c := by
  induction k with
  | zero => simp [gL]
  | succ k ih =>
    simp only [gL, ih]
    by_cases h : bit a k = true
    · simp only [h, if_true, it_add hX]; exact xor4 _ _ _ _
    · simp [h]

include hbit in
theorem gL_add_l (k a b c : Nat) : gL X bit k (a ^^^ b) c = gL X bit k a c ^^^ gL X bit k b c := by
  induction k with
  | zero => simp [gL]
  | succ k ih =>
    simp only [gL, ih, hbit]
    rw [xor4]
    congr 1
    cases bit a k <;> cases bit b k <;> simp

theorem it_op {T : Nat → Nat} (hTX : ∀ b, T (X b) = X (T b)) (k b : Nat) : T (it X k b) = it X k (T b) := by
  induction k with
  | zero => rfl
  | succ k ih => simp only [it, hTX, ih]

theorem gL_op {T : Nat → Nat} (hT : ∀ a b, T (a ^^^ b) = T a ^^^ T b) (hTX : ∀ b, T (X b) = X (T b)) (k a b : Nat) : T (gL X bit k a b) = gL X bit k a (T b) := by
  have h0 := add_nought hT
  induction k with
  | zero => exact h0
  | succ k ih =>
    simp only [gL, hT, ih]
    congr 1
    by_cases h : bit a k = true
    · simp only [h, if_true]; exact it_op hTX k b
    · simp [h, h0]

include hX in
/-- Products by two elements may change places. -/
theorem gL_swap (k a b c : Nat) : gL X bit k a (gL X bit k b c) = gL X bit k b (gL X bit k a c) :=
  gL_op (gL_add_r hX k a) (fun b => (gL_op (X := X) (T := X) hX (fun _ => rfl) k a b).symm) k b c

include hX in
theorem gL_comm (k a b e : Nat) (ha : gL X bit k a e = a) (hb : gL X bit k b e = b) : gL X bit k a b = gL X bit k b a := by
  have := gL_swap (bit := bit) hX k a b e
  rw [ha, hb] at this
  exact this

include hX in
theorem gL_assoc (k a b c e : Nat) (hu : ∀ x, x = gL X bit k a b ∨ x = c ∨ x = b → gL X bit k x e = x) : gL X bit k (gL X bit k a b) c = gL X bit k a (gL X bit k b c) := by
  rw [gL_comm hX k (gL X bit k a b) c e (hu _ (.inl rfl)) (hu _ (.inr (.inl rfl))), gL_swap hX, gL_comm hX k c b e (hu _ (.inr (.inl rfl))) (hu _ (.inr (.inr rfl)))]

include hbit in
theorem gL_nought_l (k b : Nat) : gL X bit k 0 b = 0 := add_nought (T := fun a => gL X bit k a b) fun a c => gL_add_l hbit k a c b
include hX in
theorem gL_nought_r (k a : Nat) : gL X bit k a 0 = 0 := add_nought (T := gL X bit k a) (gL_add_r hX k a)
end

/- The field of 256. -/
/-- x times an element. -/
def xt (b : Nat) : Nat := if b.testBit 7 then b <<< 1 ^^^ 0x11b else b <<< 1
theorem xt_add (a b : Nat) : xt (a ^^^ b) = xt a ^^^ xt b := by
  unfold xt
  simp only [Nat.testBit_xor, Nat.shiftLeft_xor_distrib]
  generalize a <<< 1 = p
  generalize b <<< 1 = q
  cases a.testBit 7 <;> cases b.testBit 7 <;> simp
  · exact Nat.xor_assoc _ _ _
  · rw [Nat.xor_assoc, Nat.xor_comm q, ← Nat.xor_assoc]
  · rw [xor4]; simp
/-- The product. -/
def gm (a b : Nat) : Nat := gL xt Nat.testBit 8 a b

theorem gm_add_r (a b c : Nat) : gm a (b ^^^ c) = gm a b ^^^ gm a c := gL_add_r xt_add 8 a b c
theorem gm_add_l (a b c : Nat) : gm (a ^^^ b) c = gm a c ^^^ gm b c := gL_add_l Nat.testBit_xor 8 a b c
theorem gm_nought_l (b : Nat) : gm 0 b = 0 := gL_nought_l Nat.testBit_xor 8 b
theorem gm_nought_r (a : Nat) : gm a 0 = 0 := gL_nought_r xt_add 8 a

theorem all256 {p : Nat → Bool} (h : (List.range 256).all p = true) (a : Nat) (ha : a < 256) : p a = true :=
  List.all_eq_true.mp h a (List.mem_range.mpr ha)

theorem gm_one (a : Nat) (ha : a < 256) : gm a 1 = a := by
  have := all256 (p := fun a => gm a 1 == a) (by decide +kernel) a ha
  simpa using this

theorem xt_lt (b : Nat) (hb : b < 256) : xt b < 256 := by
  have := all256 (p := fun b => decide (xt b < 256)) (by decide +kernel) b hb
  simpa using this
theorem it_lt (k b : Nat) (hb : b < 256) : it xt k b < 256 := by
  induction k with
  | zero => exact hb
  | succ k ih => exact xt_lt _ ih
theorem gL_lt (k a b : Nat) (hb : b < 256) : gL xt Nat.testBit k a b < 256 := by
  induction k with
  | zero => exact Nat.zero_lt_succ _
  | succ k ih =>
    refine Nat.xor_lt_two_pow (n := 8) ih ?_
    split
    · exact it_lt k b hb
    · exact Nat.zero_lt_succ _
theorem gm_lt (a b : Nat) (hb : b < 256) : gm a b < 256 := gL_lt 8 a b hb

theorem gm_comm (a b : Nat) (ha : a < 256) (hb : b < 256) : gm a b = gm b a := gL_comm xt_add 8 a b 1 (gm_one a ha) (gm_one b hb)
theorem gm_assoc (a b c : Nat) (hb : b < 256) (hc : c < 256) : gm (gm a b) c = gm a (gm b c) :=
  gL_assoc xt_add 8 a b c 1 (by
    intro x hx
    rcases hx with h | h | h <;> subst h
    · exact gm_one _ (gm_lt _ _ hb)
    · exact gm_one _ hc
    · exact gm_one _ hb)

/-- The power. -/
def gp (a : Nat) : Nat → Nat
  | 0 => 1
  | n + 1 => gm (gp a n) a
theorem gp_lt (a n : Nat) (ha : a < 256) : gp a n < 256 := by
  cases n with
  | zero => exact Nat.lt_of_sub_eq_succ rfl
  | succ n => exact gm_lt _ _ ha
theorem gp_add (a m n : Nat) (ha : a < 256) : gp a (m + n) = gm (gp a m) (gp a n) := by
  induction n with
  | zero => exact (gm_one _ (gp_lt a m ha)).symm
  | succ n ih =>
    show gm (gp a (m + n)) a = gm (gp a m) (gm (gp a n) a)
    rw [ih, gm_assoc _ _ _ (gp_lt a n ha) ha]
theorem gp_one (a : Nat) (ha : a < 256) : gp a 1 = a := by
  show gm 1 a = a
  rw [gm_comm 1 a (by omega) ha, gm_one a ha]
theorem gp_two (a n : Nat) (ha : a < 256) : gp a (2 * n) = gp (gm a a) n := by
  induction n with
  | zero => rfl
  | succ n ih =>
    rw [show 2 * (n + 1) = 2 * n + 2 from by omega, gp_add a _ _ ha, ih]
    show _ = gm (gp (gm a a) n) (gm a a)
    congr 1
    show gm (gm 1 a) a = _
    have h1 := gp_one a ha
    rw [show gm 1 a = a from h1]
/-- The inverse, by few products. -/
def gi (a : Nat) : Nat :=
  let b := gm a a
  let c := gm b b
  let d := gm c c
  let e := gm d d
  let f := gm e e
  let g := gm f f
  let h := gm g g
  gm (gm (gm b c) (gm d e)) (gm (gm f g) h)
theorem gi_lt (a : Nat) (ha : a < 256) : gi a < 256 := gm_lt _ _ (gm_lt _ _ (gm_lt _ _ (gm_lt _ _ (gm_lt _ _ (gm_lt _ _ (gm_lt _ _ (gm_lt _ _ (gm_lt _ _ ha))))))))
theorem gp_dbl (a n : Nat) (ha : a < 256) : gp a (n + n) = gm (gp a n) (gp a n) := gp_add a n n ha
theorem gi_pow (a : Nat) (ha : a < 256) : gp a 254 = gi a := by
  unfold gi
  dsimp only
  rw [show 254 = ((2 + 4) + (8 + 16)) + ((32 + 64) + 128) from rfl]
  rw [gp_add a (2 + 4 + (8 + 16)) _ ha, gp_add a (2 + 4) _ ha, gp_add a 2 4 ha, gp_add a 8 16 ha, gp_add a (32 + 64) 128 ha, gp_add a 32 64 ha]
  have h2 : gp a 2 = gm a a := by rw [show (2 : Nat) = 1 + 1 from rfl, gp_dbl a 1 ha, gp_one a ha]
  have h4 := gp_dbl a 2 ha
  have h8 := gp_dbl a 4 ha
  have h16 := gp_dbl a 8 ha
  have h32 := gp_dbl a 16 ha
  have h64 := gp_dbl a 32 ha
  have h128 := gp_dbl a 64 ha
  simp only [Nat.reduceAdd] at h4 h8 h16 h32 h64 h128
  rw [h128, h64, h32, h16, h8, h4, h2]
theorem gi_zero : gi 0 = 0 := by decide +kernel
theorem gm_gi (a : Nat) (ha : a < 256) (h0 : a ≠ 0) : gm a (gi a) = 1 := by
  have := all256 (p := fun a => a == 0 || gm a (gi a) == 1) (by decide +kernel) a ha
  simpa [h0] using this
theorem gm_uniq (a b : Nat) (ha : a < 256) (hb : b < 256) (h : gm a b = 1) : b = gi a := by
  have h0 : a ≠ 0 := by rintro rfl; rw [gm_nought_l] at h; cases h
  have h1 := gm_gi a ha h0
  have h2 : gm (gi a) (gm a b) = gi a := by rw [h, gm_one _ (gi_lt a ha)]
  rw [← gm_assoc _ _ _ ha hb, gm_comm (gi a) a (gi_lt a ha) ha, h1, gm_comm 1 b (by omega) hb, gm_one b hb] at h2
  exact h2
theorem gm_zero (a b : Nat) (ha : a < 256) (hb : b < 256) (h : gm a b = 0) : a = 0 ∨ b = 0 := by
  by_cases h0 : a = 0
  · exact .inl h0
  · right
    have h1 := gm_gi a ha h0
    have h2 : gm (gi a) (gm a b) = 0 := by rw [h, gm_nought_r]
    rw [← gm_assoc _ _ _ ha hb, gm_comm (gi a) a (gi_lt a ha) ha, h1, gm_comm 1 b (by omega) hb, gm_one b hb] at h2
    exact h2
theorem gi_nz (a : Nat) (ha : a < 256) (h0 : a ≠ 0) : gi a ≠ 0 := by
  intro h
  have := gm_gi a ha h0
  rw [h, gm_nought_r] at this
  cases this
theorem gi_gi (a : Nat) (ha : a < 256) : gi (gi a) = a := by
  by_cases h0 : a = 0
  · subst h0; decide +kernel
  · refine (gm_uniq (gi a) a (gi_lt a ha) ha ?_).symm
    rw [gm_comm _ _ (gi_lt a ha) ha]
    exact gm_gi a ha h0
theorem gp_255 (a : Nat) (ha : a < 256) (h0 : a ≠ 0) : gp a 255 = 1 := by
  show gm (gp a 254) a = 1
  rw [gi_pow a ha, gm_comm _ _ (gi_lt a ha) ha]
  exact gm_gi a ha h0
theorem gp_nought (n : Nat) (h : n ≠ 0) : gp 0 n = 0 := by
  obtain ⟨k, rfl⟩ : ∃ k, n = k + 1 := ⟨n - 1, by omega⟩
  exact gm_nought_r _
theorem gp_mul255 (a k : Nat) (ha : a < 256) (h0 : a ≠ 0) : gp a (255 * k) = 1 := by
  induction k with
  | zero => rfl
  | succ k ih =>
    rw [show 255 * (k + 1) = 255 * k + 255 from by omega, gp_add a _ _ ha, ih, gp_255 a ha h0]
    decide +kernel
theorem gp_mod (a n : Nat) (ha : a < 256) (h0 : a ≠ 0) : gp a n = gp a (n % 255) := by
  conv => lhs; rw [← Nat.div_add_mod n 255]
  rw [gp_add a _ _ ha, gp_mul255 a _ ha h0, gm_comm 1 _ (by omega) (gp_lt a _ ha), gm_one _ (gp_lt a _ ha)]
end Go.Proofs.Ytkfmgjipocmkjaa
namespace Go.Proofs.Ytkfmgjipocmkjaa
open Go Go.RowKit
set_option linter.unusedVariables false
set_option linter.unusedSimpArgs false

set_option maxRecDepth 100000 in
theorem may_any (A : Option Addr) (N cap : Nat) (w : World) : Calls Try.prog 23 #[.slice A N cap] w fun e w' => e = .returned (.bool (decide (N = 16 ∨ N = 32))) ∧ w' = w := by
  by_cases h1 : N = 16
  · subst h1
    go_enter Try.func23, Try.ntmps23
    go_wp2_with fail
    go_ret
    exact ⟨rfl, rfl⟩
  · by_cases h2 : N = 32
    · subst h2
      go_enter Try.func23, Try.ntmps23
      go_wp2_with fail
      go_ret
      exact ⟨rfl, rfl⟩
    · have e1 : ((N : Int) == 16) = false := by rw [beq_eq_false_iff_ne]; omega
      have e2 : ((N : Int) == 32) = false := by rw [beq_eq_false_iff_ne]; omega
      rw [decide_eq_false (by omega)]
      clear h1 h2
      go_enter Try.func23, Try.ntmps23
      go_wp2_with fail
      go_ret
      exact ⟨rfl, rfl⟩
/-- The error that a question has. -/
def opE (nk nn nt : Nat) : Nat := if (nk = 16 ∨ nk = 32) ∧ nn = 12 then (if 65536 < nt then 3 else 0) else 2
end Go.Proofs.Ytkfmgjipocmkjaa
namespace Go.Proofs.Ytkfmgjipocmkjaa
open Go Go.RowKit
set_option linter.unusedVariables false
set_option linter.unusedSimpArgs false

theorem size_u8 (w : World) : (sizeOf 5).run Try.prog w = .ok 1 w := by kernel_rfl
theorem eqin_u8 (d : Nat) (a b : Int) (w : World) : (Op.equalIn (d + 1) 5 (.int .u8 a) (.int .u8 b)).run Try.prog w = .ok (a == b) w := by
  simp [Op.equalIn, run_underlying Try.underlying5]
end Go.Proofs.Ytkfmgjipocmkjaa
namespace Go.Proofs.Ytkfmgjipocmkjaa
open Go Go.RowKit
set_option linter.unusedVariables false
set_option linter.unusedSimpArgs false

def orAll (l : List UInt8) : UInt8 := l.foldl (· ||| ·) 0
theorem orAll_snoc (l : List UInt8) (b : UInt8) : orAll (l ++ [b]) = orAll l ||| b := by simp [orAll]
theorem or_zero (a b : UInt8) : (a ||| b == 0) = (a == 0 && b == 0) := by
  rw [Bool.eq_iff_iff]; simp [UInt8.or_eq_zero_iff]
theorem orAll_zero (l : List UInt8) : (orAll l == 0) = l.all (· == 0) := by
  have key : ∀ (l : List UInt8) (a : UInt8), ((l.foldl (· ||| ·) a) == 0) = (a == 0 && l.all (· == 0)) := by
    intro l
    induction l with
    | nil => intro a; simp
    | cons b l ih => intro a; rw [List.foldl_cons, ih, or_zero, List.all_cons, Bool.and_assoc]
  have := key l 0
  simpa [orAll] using this

def orX (a b : List UInt8) : List UInt8 := List.zipWith (· ^^^ ·) a b
theorem orX_len (a b : List UInt8) (h : a.length = b.length) : (orX a b).length = a.length := by simp [orX, h]
theorem xor_zero (a b : UInt8) : (a ^^^ b = 0) ↔ a = b := UInt8.xor_eq_zero_iff
theorem same_eq : ∀ (a b : List UInt8), a.length = b.length → (orX a b).all (· == 0) = (a == b)
  | [], [], _ => by simp [orX]
  | x :: a, y :: b, h => by
    have ih := same_eq a b (by simpa using h)
    simp only [orX, List.zipWith_cons_cons, List.all_cons] at ih ⊢
    rw [ih, List.cons_beq_cons]
    congr 1
    rw [Bool.eq_iff_iff]
    simp

theorem orX_snoc (a b : List UInt8) (x y : UInt8) (h : a.length = b.length) : orX (a ++ [x]) (b ++ [y]) = orX a b ++ [x ^^^ y] := by
  simp [orX, List.zipWith_append h]

set_option maxRecDepth 100000 in
theorem same_len (A B : Option Addr) (a b : List UInt8) (n ca cb : Nat) (hn : a.length = n) (hm : b.length = n) (w : World) (hl : n ≤ 140737488351232)
    (h : Rd w w.heap.size A (vb a)) (h' : Rd w w.heap.size B (vb b)) :
    Calls Try.prog 22 #[.slice A n ca, .slice B n cb] w fun e w' => e = .returned (.bool (a == b)) ∧ ∃ k, w' = w.drewN k := by
  rw [← same_eq a b (hn.trans hm.symm), ← orAll_zero]
  have HN := Lib.hid hn; clear hn
  have HM := Lib.hid hm; clear hm
  go_enter Try.func22, Try.ntmps22
  go_wp2
  go_loopw [5, 14] (fun s i wr => ∃ k : Nat, k ≤ n ∧ i = .int .i64 k ∧ s = .int .u8 ((orAll (orX (a.take k) (b.take k))).toNat : Int) ∧ ∃ d, wr = w.drewN d) (fun _ i _ => n - (intOf i).toNat)
  case atStart => exact ⟨0, Nat.zero_le _, rfl, rfl, 0, rfl⟩
  case round =>
    obtain ⟨k, hk, rfl, rfl, d, rfl⟩ := hrel
    by_cases hlt : k < n
    · have ha : k < a.length := by have := HN.out; omega
      have hb : k < b.length := by have := HM.out; omega
      obtain ⟨ad, rfl, hbd, hck⟩ := h.byte ha
      obtain ⟨bd, rfl, hbd', hck'⟩ := h'.byte hb
      go_wp2
      go_quiet (fail)
      go_wp2
      go_roundw
      case rel => exact ⟨k + 1, by omega, by go_num, by rw [bits_xor, bits_or, take_snoc _ _ ha, take_snoc _ _ hb, orX_snoc _ _ _ _ (by simp; omega), orAll_snoc], _, rfl⟩
      case measure => simp [intOf]; omega
    · go_wp2
      go_ret
      exact ⟨ret_bool (by rw [byte_beq0, List.take_of_length_le (by have := HN.out; omega), List.take_of_length_le (by have := HM.out; omega)]), d, rfl⟩

set_option maxRecDepth 100000 in
theorem same_any (A B : Option Addr) (a b : List UInt8) (n m ca cb : Nat) (hn : a.length = n) (hm : b.length = m) (w : World) (hl : n ≤ 140737488351232) (hl' : m ≤ 140737488351232)
    (h : Rd w w.heap.size A (vb a)) (h' : Rd w w.heap.size B (vb b)) :
    Calls Try.prog 22 #[.slice A n ca, .slice B m cb] w fun e w' => e = .returned (.bool (a == b)) ∧ ∃ k, w' = w.drewN k := by
  by_cases hab : n = m
  · subst hab
    exact same_len A B a b n ca cb hn hm w hl h h'
  · have hfin : (a == b) = false := by rw [beq_eq_false_iff_ne]; intro e; exact hab (by rw [← hn, ← hm, e])
    rw [hfin]
    have hx : (((n : Int)) != (m : Int)) = true := by rw [bne_iff_ne]; omega
    clear hn hm
    go_enter Try.func22, Try.ntmps22
    go_wp2
    go_ret
    exact ⟨rfl, 0, rfl⟩

theorem same_bel (A B : Option Addr) (a b : List UInt8) (n m ca cb : Nat) (hn : a.length = n) (hm : b.length = m) (w : World) (hl : n ≤ 140737488351232) (hl' : m ≤ 140737488351232)
    (h : Rd w w.heap.size A (vb a)) (h' : Rd w w.heap.size B (vb b)) :
    Calls Try.prog 22 #[.slice A n ca, .slice B m cb] w fun e w' => e = .returned (.bool (a == b)) ∧ Below w.heap.size w w' :=
  (same_any A B a b n m ca cb hn hm w hl hl' h h').mono fun e w' ⟨he, d, hw⟩ => ⟨he, by subst hw; exact bdrewN (Below.refl _ _) d⟩

set_option maxRecDepth 100000 in
/-- 'string(a) == string(b)'. -/
theorem rsame_any (A B : Option Addr) (a b : List UInt8) (n m ca cb : Nat) (hn : a.length = n) (hm : b.length = m) (w : World) {BA BB : Nat} (h : Rd w BA A (vb a)) (h' : Rd w BB B (vb b)) :
    Calls Try.prog 13 #[.slice A n ca, .slice B m cb] w fun e w' => e = .returned (.bool (a == b)) ∧ w' = w := by
  have ra := run_str (P := Try.prog) 22 9 5 Try.underlying22 Try.underlying5 Try.underlying9 hn ca h
  have rb := run_str (P := Try.prog) 22 9 5 Try.underlying22 Try.underlying5 Try.underlying9 hm cb h'
  clear hn hm
  go_enter Try.func13, Try.ntmps13
  go_wp2
  go_ret
  exact ⟨rfl, rfl⟩
end Go.Proofs.Ytkfmgjipocmkjaa
namespace Go.Proofs.Ytkfmgjipocmkjaa
open Go Go.RowKit
set_option linter.unusedVariables false
set_option linter.unusedSimpArgs false

/-- A post that only a normal end meets. -/
def OnlyN (Q : Exit → Act → World → Prop) : Exit → Act → World → Prop
  | .normal, a, w => Q .normal a w
  | _, _, _ => False
theorem OnlyN.imp {Q : Exit → Act → World → Prop} : ∀ (e : Exit) (a : Act) (w : World), OnlyN Q e a w → Q e a w := fun e a w h => by
  cases e <;> first | exact h | exact (h : False).elim
theorem OnlyN.normal {Q : Exit → Act → World → Prop} {a : Act} {w : World} (h : Q .normal a w) : OnlyN Q .normal a w := h
theorem OnlyN.no {Q : Exit → Act → World → Prop} (h : LetsOut (OnlyN Q)) : False := by
  obtain ⟨a, w, h⟩ := h
  exact h
/-- Nothing is deferred. -/
def noDefer (ops : List Oper) : Bool := ops.all fun o => match o.op with | .defer _ => false | _ => true
theorem noDefer_at {ops : List Oper} (h : noDefer ops = true) {o : Oper} (ho : o ∈ ops) : ∀ c, o.op ≠ .defer c := fun c e => by
  have := List.all_eq_true.mp h o ho
  rw [e] at this
  cases this

section
variable {P : Program} {Q : Exit → Act → World → Prop} {l n : Nat}
theorem oper_round {o : Oper} {a : Act} {w : World} {K : Act → World → Prop} (hd : ∀ c, o.op ≠ .defer c) (h : o.wp P a w K (OnlyN Q)) : o.wpIn (Fence.wide.inRound l) n P a w K (OnlyN Q) := by
  unfold Oper.wp at h
  refine ⟨fun _ _ => trivial, ?_⟩
  rw [Fence.inRound_round, Oper.semAt_some l _ _ hd]
  generalize (execOp a.eval o).run P w = r at *
  cases r with
  | ok x w' =>
    cases x with
    | value v => exact h
    | skip => exact h
    | defer d => exact h
    | enter f args =>
      refine ⟨fun e => by simp [Fence.wide] at e, ?_⟩
      have hh : Calls P f args w' _ := h
      exact callsIn_wide.2 hh
    | row row args =>
      refine ⟨fun e => by simp [Fence.wide] at e, ?_⟩
      intro c cs _
      have hh : Rows P row args w' _ := h
      obtain ⟨v, w2, h1, h2⟩ := hh c cs
      exact ⟨v, w2, h1, stepsIn_wide.2 h2⟩
    | _ => exact (h : False).elim
  | halt x w' => cases x <;> exact h
theorem list_round {ops : Array Oper} : ∀ (xs : List Oper) (a : Act) (w : World), noDefer xs = true → wpList P ops (OnlyN Q) xs a w → wpListIn (Fence.wide.inRound l) n P ops (OnlyN Q) xs a w := by
  intro xs
  induction xs with
  | nil => exact fun a w _ h => h
  | cons o xs ih =>
    intro a w hd h
    have hd' : noDefer xs = true := by
      unfold noDefer at *
      rw [List.all_cons, Bool.and_eq_true] at hd
      exact hd.2
    unfold wpList at h
    unfold wpListIn
    split
    · rename_i hw
      rw [if_pos hw] at h
      rcases h with h | h
      · exact Oper.wpIn_mono (fun a w h => ih a w hd' h) (oper_round (noDefer_at hd (List.mem_cons_self ..)) h)
      · exact (OnlyN.no h.2).elim
    · rename_i hw
      rw [if_neg hw] at h
      exact ⟨fun _ _ => trivial, ih _ _ hd' h⟩
theorem any_round {ops : Array Oper} {md : Region.Mode} (hd : noDefer ops.toList = true) : ∀ (fuel : Nat) (listed : Array Bool) (a : Act) (w : World), wpAny P md ops (OnlyN Q) fuel listed a w → wpAnyIn (Fence.wide.inRound l) n P md ops (OnlyN Q) fuel listed a w
  | 0, _, _, _, h => h
  | fuel + 1, listed, a, w, h => ⟨h.1, fun i hi => by
    have h2 := h.2 i hi
    unfold wpOp at h2
    unfold wpOpIn
    cases ho : ops[i]? with
    | none => simp only [ho] at h2; exact any_round hd fuel _ _ _ h2
    | some o =>
      simp only [ho] at h2
      have hm : o ∈ ops.toList := Array.mem_toList_iff.mpr (Array.mem_of_getElem? ho)
      simp only
      split
      · rename_i hw
        rw [if_pos hw] at h2
        rcases h2 with h2 | h2
        · exact Oper.wpIn_mono (fun a w h => any_round hd fuel _ a w h) (oper_round (noDefer_at hd hm) h2)
        · exact (OnlyN.no h2.2).elim
      · rename_i hw
        rw [if_neg hw] at h2
        exact ⟨fun _ _ => trivial, any_round hd fuel _ _ _ h2⟩⟩

/-- A region in a round, walked as outside. -/
theorem wpIn_round_list {id : Nat} {xs : List Oper} {a : Act} {w : World} (hd : noDefer xs = true) (h : wpList P xs.toArray (OnlyN Q) xs a w) : (Code.region id xs.toArray false).wpIn (Fence.wide.inRound l) n P Q a w :=
  Code.wpIn_mono OnlyN.imp (wpIn_region_lit (list_round xs a w hd h))
/-- A region that draws its order, in a round. -/
theorem wpIn_round_held {id : Nat} {xs : List Oper} {S : World → Prop} {a : Act} {w : World} (hm : P.follows .mixedOrders = true) (hd : noDefer xs = true) (hS : S w.drew)
    (h : S w.drew → wpAnyH P .any xs.toArray (OnlyN Q) S xs.toArray.size (Array.replicate xs.toArray.size false) a w.drew) : (Code.region id xs.toArray true).wpIn (Fence.wide.inRound l) n P Q a w :=
  Code.wpIn_mono OnlyN.imp (wpIn_region_any hm (any_round (by simpa using hd) _ _ _ _ (wpAny_of_held _ _ _ _ (h hS))))

/-- What is said of one block lies beyond a turn of a later one. -/
theorem ownFrom_block {β : Type} {B b : Nat} {o : β → Obj} (hb : b < B) : OwnFrom B (fun (s : β) W => W.heap[b]? = some (o s)) := fun s W W' row h hg hr =>
  (hg.block b (Array.getElem?_eq_some_iff.1 h).1 (fun e => by have := (hr b e.symm).1; omega)).trans h
/-- A call keeps what is no cells. -/
theorem keeps_below {W W' : World} (h : Below W.heap.size W W') : KeepsOthers W W' := ⟨h.size, fun k o hk _ => (h.block k (Array.getElem?_eq_some_iff.1 hk).1).trans hk⟩
end
end Go.Proofs.Ytkfmgjipocmkjaa
namespace Go.Proofs.Ytkfmgjipocmkjaa
open Go Go.RowKit Go.Shelf
set_option linter.unusedVariables false
set_option linter.unusedSimpArgs false
attribute [local go_sem] Oper.semAt_some

/-- A chunk of len bytes, by its number. -/
abbrev Chk (len : Nat) := { x : Nat // 16 * x < len }
/-- How many bytes it has. -/
def chL (len x : Nat) : Nat := if len - 16 * x < 16 then len - 16 * x else 16
def chE (ad : Addr) (len : Nat) (x : Chk len) : Array Value := #[.slice (some (ad.add (16 * x.1))) (chL len x.1) (chL len x.1)]

set_option maxRecDepth 100000 in
set_option maxHeartbeats 1000000 in
theorem chunk_any (A : Option Addr) (len cap : Nat) (w : World) :
    Calls Try.prog 28 #[.slice A len cap, .int .i64 16] w fun e w' => e = .returned (.func (.func 46) #[] #[.pointer (some ⟨w.heap.size, 0, none⟩), .pointer (some ⟨w.heap.size + 1, 0, none⟩)]) ∧ w' = (w.alloc (.cells #[.slice A len cap] 22)).alloc (.cells #[.int .i64 16] 3) := by
  go_enter Try.func28, Try.ntmps28
  go_wp2
  go_ret
  exact ⟨rfl, rfl⟩

/-- The iterator's two boxes are as they were. -/
def KpC (B2 B3 : Nat) (W W' : World) : Prop := W'.heap[B2]? = W.heap[B2]? ∧ W'.heap[B3]? = W.heap[B3]?
theorem KpC.trans {B2 B3 : Nat} {A B C : World} (h : KpC B2 B3 A B) (k : KpC B2 B3 B C) : KpC B2 B3 A C := ⟨k.1.trans h.1, k.2.trans h.2⟩

set_option maxRecDepth 100000 in
set_option maxHeartbeats 2000000 in
theorem chunk1_in (l B2 B3 : Nat) (ad : Addr) (len cap : Nat) (hlc : len ≤ cap) (hreach : len ≤ 140737488351360) (J Jx : List (Chk len) → World → Prop) (W : World)
    (hY : ∀ pre x W1, J pre W1 → pre.length < (len + 15) / 16 → YieldAt Fence.wide 0 Try.prog l (chE ad len x) W1 fun e W' => (e = .returned (.bool true) ∧ J (pre ++ [x]) W' ∧ KpC B2 B3 W1 W') ∨ (e = .returned (.bool false) ∧ Jx (pre ++ [x]) W'))
    (h2 : W.heap[B2]? = some (.cells #[.slice (some ad) len cap] 22 (0, 0))) (h3 : W.heap[B3]? = some (.cells #[.int .i64 16] 3 (0, 0))) (h0 : J [] W) (hJd : ∀ pre W1 n, J pre W1 → J pre (W1.drewN n)) :
    CallsIn Fence.wide 1 Try.prog 46 #[.func (.yield l) #[] #[], .pointer (some ⟨B2, 0, none⟩), .pointer (some ⟨B3, 0, none⟩)] W fun e W' => (∃ v, e = .returned v) ∧
      ((∃ ys, ys.map (·.1) = List.range ((len + 15) / 16) ∧ J ys W') ∨ (∃ pre, True ∧ Jx pre W')) := by
  refine callsIn_of_wp Try.func46 rfl trivial ?_ rfl
  simp only [Try.ntmps46, List.size_toArray, List.length_cons, List.length_nil, Nat.reduceAdd, Nat.reduceSub, Array.replicate_succ, Array.replicate_zero, List.push_toArray, List.append_toArray, List.nil_append, List.cons_append]
  have H2 := Lib.hid h2; clear h2
  have H3 := Lib.hid h3; clear h3
  gi_wp2
  gi_loopw [4] (fun i wr => ∃ (k : Nat) (pre : List (Chk len)), pre.map (·.1) = List.range k ∧ 16 * k ≤ len + 15 ∧ i = .int .i64 (16 * k : Nat) ∧ J pre wr ∧ Hid (KpC B2 B3 W wr))
    (fun i _ => len + 15 - (intOf i).toNat)
  case atStart => exact ⟨0, [], rfl, by omega, rfl, h0, Lib.hid ⟨rfl, rfl⟩⟩
  case round =>
    obtain ⟨k, pre, hp, hk, rfl, hJ, hbl⟩ := hrel
    have c2 := (show wr.cell? ⟨B2, 0, none⟩ = some (.slice (some ad) len cap) from by rw [cell_of_row _ _ _ _ _ _ (hbl.out.1.trans H2.out)]; rfl)
    have c3 := (show wr.cell? ⟨B3, 0, none⟩ = some (.int .i64 16) from by rw [cell_of_row _ _ _ _ _ _ (hbl.out.2.trans H3.out)]; rfl)
    have hpl : pre.length = k := by have := congrArg List.length hp; simpa using this
    by_cases hlt : 16 * k < len
    · obtain ⟨x, hx⟩ : ∃ x : Chk len, x.1 = k := ⟨⟨k, hlt⟩, rfl⟩
      obtain ⟨q, hq⟩ : ∃ q, q = 16 * k := ⟨_, rfl⟩
      have hmul : 16 * k = q := hq.symm
      obtain ⟨e, he⟩ : ∃ e, e = chL len k := ⟨_, rfl⟩
      have hmin : (if ((len - q : Nat) : Int) < 16 then ((len - q : Nat) : Int) else 16) = (e : Int) := by
        rw [he]; unfold chL; split <;> split <;> omega
      have he2 : q + e ≤ len := by rw [he]; unfold chL; split <;> omega
      have he3 : 0 < e := by rw [he]; unfold chL; split <;> omega
      have he4 : e ≤ 16 := by rw [he]; unfold chL; split <;> omega
      have hlen : pre.length < (len + 15) / 16 := by omega
      have hcE : chE ad len x = #[.slice (some (ad.add q)) e e] := by rw [hq, he, ← hx]; rfl
      have HCE := Lib.hid hcE; clear hcE
      have HLEN := Lib.hid hlen; clear hlen
      have hlt' : q < len := by omega
      have HE := Lib.hid he; clear he
      have HQ := Lib.hid hq; clear hq
      have HP := Lib.hid hpl; clear hpl
      have HX := Lib.hid hx; clear hx
      have hqi : ((16 * k : Nat) : Int) = (q : Int) := by omega
      rw [hqi]
      have HQI := Lib.hid hqi; clear hqi
      have HM := Lib.hid hmul; clear hmul
      clear hlt
      gi_wp2
      refine wpIn_wide.2 ?_
      go_quiet (fail)
      obtain ⟨fn, tmps, assign, body, hy, hR⟩ := hY pre x (wr.drewN nq) (hJd _ _ _ hJ) HLEN.out
      rw [HCE.out] at hy
      have hbl' : Hid (KpC B2 B3 W (wr.drewN nq)) := Lib.hid ⟨hbl.out.1, hbl.out.2⟩
      have c2' : (wr.drewN nq).cell? ⟨B2, 0, none⟩ = some (.slice (some ad) len cap) := c2
      have c3' : (wr.drewN nq).cell? ⟨B3, 0, none⟩ = some (.int .i64 16) := c3
      generalize wr.drewN nq = w2 at *
      have HR := Lib.hid hR; clear hR
      gi_wp2
      refine HR.out.mono ?_
      rintro e3 W3 (⟨rfl, hJ3, hk3⟩ | ⟨rfl, hJx3⟩)
      · have c33 : W3.cell? ⟨B3, 0, none⟩ = some (.int .i64 16) := by rw [cell_of_row _ _ _ _ _ _ (hk3.2.trans (hbl'.out.2.trans H3.out))]; rfl
        have HK3 := Lib.hid hk3; clear hk3
        gi_wp2
        go_roundw
        case rel =>
          refine ⟨k + 1, pre ++ [x], ?_, ?_, ?_, hJ3, Lib.hid (hbl'.out.trans HK3.out)⟩
          · rw [List.map_append, hp, List.range_succ]
            simp only [List.map_cons, List.map_nil, HX.out]
          · have := HQ.out; omega
          · have := HQ.out; exact val_int (by omega)
        case measure => have := HQ.out; simp [intOf]; omega
      · gi_wp2
        refine bodyPost_ret (results_none rfl _ _ _) rfl ?_
        exact ⟨⟨_, rfl⟩, .inr ⟨_, trivial, hJx3⟩⟩
    · gi_wp2
      go_end0
      refine ⟨⟨_, rfl⟩, .inl ⟨pre, ?_, hJ⟩⟩
      rw [hp]
      congr 1
      omega

set_option maxRecDepth 100000 in
set_option maxHeartbeats 1000000 in
theorem chunk0_in (l B2 B3 : Nat) (A : Option Addr) (cap : Nat) (J : List (Chk 0) → World → Prop) (W : World)
    (h2 : W.heap[B2]? = some (.cells #[.slice A 0 cap] 22 (0, 0))) (h0 : J [] W) :
    CallsIn Fence.wide 1 Try.prog 46 #[.func (.yield l) #[] #[], .pointer (some ⟨B2, 0, none⟩), .pointer (some ⟨B3, 0, none⟩)] W fun e W' => (∃ v, e = .returned v) ∧ J [] W' := by
  have c2 : W.cell? ⟨B2, 0, none⟩ = some (.slice A 0 cap) := by rw [cell_of_row _ _ _ _ _ _ h2]; rfl
  refine callsIn_of_wp Try.func46 rfl trivial ?_ rfl
  simp only [Try.ntmps46, List.size_toArray, List.length_cons, List.length_nil, Nat.reduceAdd, Nat.reduceSub, Array.replicate_succ, Array.replicate_zero, List.push_toArray, List.append_toArray, List.nil_append, List.cons_append]
  gi_wp2
  gi_loopw [4] (fun i wr => i = .int .i64 0 ∧ wr = W) (fun _ _ => 0)
  case atStart => exact ⟨rfl, rfl⟩
  case round =>
    obtain ⟨rfl, rfl⟩ := hrel
    gi_wp2
    go_end0
    exact ⟨⟨_, rfl⟩, h0⟩

/-- What a chunk is handed on as. -/
def chA (A : Option Addr) (len : Nat) (x : Chk len) : Array Value := #[.slice (A.map fun ad => ad.add (16 * x.1)) (chL len x.1) (chL len x.1)]
theorem chunk_stops (B2 B3 : Nat) (A : Option Addr) (len cap : Nat) (hA : 0 < len → ∃ ad, A = some ad) (hlc : len ≤ cap) (hreach : len ≤ 140737488351360) (w : World)
    (h2 : w.heap[B2]? = some (.cells #[.slice A len cap] 22 (0, 0))) (h3 : w.heap[B3]? = some (.cells #[.int .i64 16] 3 (0, 0))) :
    SeqStopsK Fence.wide 1 Try.prog 46 #[.pointer (some ⟨B2, 0, none⟩), .pointer (some ⟨B3, 0, none⟩)] (chA A len) (KpC B2 B3) (fun ys => ys.map (·.1) = List.range ((len + 15) / 16)) (fun _ => True) ((len + 15) / 16) w := fun l J Jx W hW hJ _ hY h0 => by
  have k2 := (hW.block B2 (Array.getElem?_eq_some_iff.1 h2).1).trans h2
  have k3 := (hW.block B3 (Array.getElem?_eq_some_iff.1 h3).1).trans h3
  rcases Nat.eq_zero_or_pos len with rfl | hp
  · exact (chunk0_in l B2 B3 A cap J W k2 h0).mono fun e W' ⟨he, hj⟩ => ⟨he, .inl ⟨[], rfl, hj⟩⟩
  · obtain ⟨ad, rfl⟩ := hA hp
    exact chunk1_in l B2 B3 ad len cap hlc hreach J Jx W hY k2 k3 h0 fun pre W1 n hj => hJ pre W1 _ none hj ⟨rfl, rfl, rfl, Nat.le_refl _, fun _ _ _ => rfl⟩ (fun r e => by cases e)
end Go.Proofs.Ytkfmgjipocmkjaa
namespace Go.Proofs.Ytkfmgjipocmkjaa
open Go Go.RowKit
set_option linter.unusedVariables false
set_option linter.unusedSimpArgs false

theorem vb_one (l : List UInt8) : ∀ v ∈ vb l, v.oneCell' = true := by
  intro v hv
  simp only [vb, List.mem_map] at hv
  obtain ⟨b, _, rfl⟩ := hv
  rfl

set_option maxRecDepth 100000 in
set_option maxHeartbeats 400000 in
theorem copy_any (A : Option Addr) (l : List UInt8) (n cap : Nat) (hn : l.length = n) (w : World) (hl : n ≤ 140737488351232) (h : Rd w w.heap.size A (vb l)) :
    Calls Try.prog 10 #[.slice A n cap] w fun e w' => ∃ v, e = .returned v ∧ w'.ownsRow w.heap.size 5 1 v n (vb l) ∧ Below w.heap.size w w' := by
  obtain ⟨i0, hi, hz0, hz1, hz2⟩ := info_parts info_u8
  have hsz : (Try.prog.info? 5).map (·.size) = some 1 := by rw [hi]; simp [hz1]
  have HN := Lib.hid hn; clear hn
  obtain ⟨cs, hcs⟩ : ∃ cs, cs = vb l := ⟨_, rfl⟩
  have hone : ∀ v ∈ cs, v.oneCell' = true := by rw [hcs]; exact vb_one l
  have hlen : cs.length = n := by rw [hcs, ← HN.out]; simp
  rw [← hcs] at h ⊢
  have HL := Lib.hid hlen
  have HONE := Lib.hid hone
  clear hcs hlen hone
  go_enter Try.func10, Try.ntmps10
  go_wp2_with (first
    | (at_make; refine wpList_make_blk _ rfl _ _ 22 rfl 5 i0 (.int .u8 0) Try.underlying22 hi hz0 hz1 rfl .i64 .i64 _ _ n (n + 3) rfl rfl rfl (by omega) (by omega) (by rw [hz2]; omega) (by unfold maxLen; omega) ?_; intro w0 hblk0 hb0 hsize0)
    | ((with_reducible show wpList _ _ _ _ _ _); refine wpList_copy_splice (o := ⟨some 12, _, _, _, _, _⟩) rfl (.tmp 10) (.tmp 11) 22 22 rfl 5 Try.underlying22 hsz (some ⟨w.heap.size, 0, none⟩) A n (n + 3) n cap rfl rfl w.heap.size 0 (List.replicate (n + 3) (.int .u8 0)) 5 hblk0.out cs (by have := HL.out; simp [this]) ?_ (by have := HL.out; simp; omega) HONE.out w.heap.size w hb0 (Nat.le_refl _) ?_))
  · intro h0
    obtain ⟨ad, rfl, hb, hc⟩ := h h0
    exact ⟨ad, rfl, fun j v hv => (hb0.cell (by rw [add_block]; exact hb)).trans (hc j v hv)⟩
  · intro w1 hblk1 hb1
    go_wp2
    go_ret
    refine ⟨_, rfl, ?_, hb1⟩
    have := own_of_blk (n := n) (cap := n + 3) hblk1.out (Nat.le_refl _) (by omega) (by unfold maxLen; omega) (by have := HL.out; simp [splice]; omega)
    have hsp : (List.take n (splice (List.replicate (n + 3) (Value.int .u8 0)) 0 cs)) = cs := by
      simp only [splice, List.take_zero, List.nil_append]
      rw [List.take_append_of_le_length (by have := HL.out; omega), List.take_of_length_le (by have := HL.out; omega)]
    simp only [hsp] at this
    exact this

/-- Of n bytes the first m are done. -/
def xPart (a b : List UInt8) (n m : Nat) : List UInt8 := orX (a.take m) (b.take m) ++ List.replicate (n - m) 0
theorem xPart_len (a b : List UInt8) (n m : Nat) (ha : a.length = n) (hb : b.length = n) (h : m ≤ n) : (xPart a b n m).length = n := by simp [xPart, orX, ha, hb]; omega
theorem xPart_set (a b : List UInt8) (n m : Nat) (ha : a.length = n) (hb : b.length = n) (h : m < n) (x : UInt8) (hx : x = a[m]'(by omega) ^^^ b[m]'(by omega)) :
    (vb (xPart a b n m)).set m (.int .u8 (x.toNat : Int)) = vb (xPart a b n (m + 1)) := by
  have h1 : (orX (a.take m) (b.take m)).length = m := by simp [orX, ha, hb]; omega
  have h2 : List.replicate (n - m) (0 : UInt8) = 0 :: List.replicate (n - (m + 1)) 0 := by
    rw [show n - m = (n - (m + 1)) + 1 from by omega, List.replicate_succ]
  have key : (xPart a b n m).set m x = xPart a b n (m + 1) := by
    unfold xPart
    rw [take_snoc a m (by omega), take_snoc b m (by omega), orX_snoc _ _ _ _ (by simp; omega), h2, List.set_append_right _ _ (by omega), h1, hx]
    simp
  rw [← key]
  simp only [vb, List.map_set]

set_option maxRecDepth 100000 in
set_option maxHeartbeats 1000000 in
theorem xor_any (A B : Option Addr) (a b : List UInt8) (n ca cb : Nat) (hn : a.length = n) (hm : b.length = n) (w : World) (hl : n ≤ 140737488351232)
    (h : Rd w w.heap.size A (vb a)) (h' : Rd w w.heap.size B (vb b)) :
    Calls Try.prog 29 #[.slice A n ca, .slice B n cb] w fun e w' => ∃ v, e = .returned (.tuple #[v, .int .i64 0]) ∧ w'.ownsRow w.heap.size 5 1 v n (vb (orX a b)) ∧ Below w.heap.size w w' := by
  obtain ⟨i0, hi, hz0, hz1, hz2⟩ := info_parts info_u8
  have HN := Lib.hid hn; clear hn
  have HM := Lib.hid hm; clear hm
  go_enter Try.func29, Try.ntmps29
  go_wp2_with (at_make; refine wpList_make_full _ rfl _ _ 22 rfl w.heap.size 5 i0 (.int .u8 0) 1 Try.underlying22 hi hz0 hz1 .i64 .i64 _ _ n rfl rfl rfl rfl (by rw [hz2]; omega) (by unfold maxLen; omega) (Nat.le_refl _) ?_; intro w0 hown0 hgrow0)
  have hown1 : w0.ownsRow w.heap.size 5 1 (.slice (some ⟨w.heap.size, 0, none⟩) n n) n (vb (xPart a b n 0)) := by
    have e : (madeCells (Value.int .u8 0).cells (n * 1)).toList = vb (xPart a b n 0) := by
      simp [xPart, orX, Value.cells, toList_madeCells_one]
    rw [← e]; exact hown0
  have hb0 : Below w.heap.size w w0 := (Below.refl _ _).grown hgrow0 (Nat.le_refl _) (by simp)
  clear hown0 hgrow0
  go_loopw [18] (fun i wr => ∃ m : Nat, m ≤ n ∧ i = .int .i64 m ∧
      wr.ownsRow w.heap.size 5 1 (.slice (some ⟨w.heap.size, 0, none⟩) n n) n (vb (xPart a b n m)) ∧ Below w.heap.size w wr) (fun i _ => n - (intOf i).toNat)
  case atStart => exact ⟨0, Nat.zero_le _, rfl, hown1, hb0⟩
  case round =>
    rename_i wr _ _
    obtain ⟨m, hm, rfl, hown, hb⟩ := hrel
    by_cases hlt : m < n
    · have ha : m < a.length := by have := HN.out; omega
      have hbl : m < b.length := by have := HM.out; omega
      obtain ⟨ad, rfl, hbd, hck⟩ := (h.below hb).byte ha
      obtain ⟨bd, rfl, hbd', hck'⟩ := (h'.below hb).byte hbl
      have hfz := hown.frozenAt m
      have hce := (hown.cellAt m (by omega)).trans (List.getElem?_eq_getElem (by simp [xPart_len a b n m HN.out HM.out hm]; omega))
      have hst := hown.stored m (.int .u8 ((a[m] ^^^ b[m]).toNat : Int))
      rw [xPart_set a b n m HN.out HM.out hlt _ rfl] at hst
      have HST := Lib.hid hst; clear hst
      go_wp2
      go_region
      go_wp2
      go_roundw
      case rel =>
        rw [bits_xor]
        exact ⟨m + 1, by omega, by go_num, HST.out.1, (hb.grown HST.out.2 hb.size (by simp)).drew⟩
      case measure => simp [intOf]; omega
    · obtain rfl : m = n := by omega
      go_wp2
      go_ret2
      refine ⟨_, rfl, ?_, hb⟩
      have e : xPart a b m m = orX a b := by
        simp only [xPart, Nat.sub_self, List.replicate_zero, List.append_nil]
        rw [List.take_of_length_le (by have := HN.out; omega), List.take_of_length_le (by have := HM.out; omega)]
      rw [← e]
      exact hown

set_option maxRecDepth 100000 in
theorem xor_err (A B : Option Addr) (n m ca cb : Nat) (w : World) (hx : n ≠ m) (hl : n ≤ 140737488351232) (hl' : m ≤ 140737488351232) :
    Calls Try.prog 29 #[.slice A n ca, .slice B m cb] w fun e w' => e = .returned (.tuple #[.slice none 0 0, .int .i64 2]) ∧ w' = w := by
  have hx : (((n : Int)) != (m : Int)) = true := by rw [bne_iff_ne]; omega
  go_enter Try.func29, Try.ntmps29
  go_wp2
  go_ret2
  exact ⟨rfl, rfl⟩
end Go.Proofs.Ytkfmgjipocmkjaa
namespace Go.Proofs.Ytkfmgjipocmkjaa
open Go Go.RowKit
set_option linter.unusedVariables false
set_option linter.unusedSimpArgs false

/-- A row of noughts, as make lays it. -/
def zrow (n : Nat) : Array Value := (List.replicate n (.int .u8 0)).toArray
theorem zrow_make (n : Nat) (hn : n ≤ 100000) (w : World) : (Instr.makeSlice 22 (.int .i64 (n : Int)) (.int .i64 (n : Int))).run Try.prog w = .ok (.slice (some ⟨w.heap.size, 0, none⟩) n n) (w.alloc (.cells (zrow n) 5)) := by
  obtain ⟨i, hi, hz0, hz1, hz2⟩ := info_parts info_b
  have := run_make (P := Try.prog) w 22 5 i _ Try.underlying22 hi hz0 .i64 .i64 (n : Int) (n : Int) (by omega) (by omega) (by rw [hz2]; omega) (by omega)
  rw [this]
  simp only [Int.toNat_natCast, hz1, Nat.mul_one]
  have e : madeCells (Value.int .u8 0).cells n = zrow n := by
    have := toList_madeCells_one (.int .u8 0) n
    unfold zrow
    rw [← this]
    simp [Value.cells]
  rw [e]
theorem zrow_rd (n : Nat) (w : World) : Rd (w.alloc (.cells (zrow n) 5)) (w.alloc (.cells (zrow n) 5)).heap.size (some ⟨w.heap.size, 0, none⟩) (vn (List.replicate n 0)) := fun _ => ⟨_, rfl, by simp, fun j u hj => by
  rw [head_add, cell_of_row _ _ _ _ _ _ (heap_alloc_new w _)]
  unfold zrow
  rw [List.getElem?_toArray]
  simpa [vn] using hj⟩
end Go.Proofs.Ytkfmgjipocmkjaa
namespace Go.Proofs.Ytkfmgjipocmkjaa
open Go Go.RowKit Go.ChangeShapes Go.WideShapes Go.ChangeAt Go.Deep
set_option linter.unusedVariables false
set_option linter.unusedSimpArgs false

section
variable {H : Type} {enc : TypeId × Value → H} {P : Program} {W W' : World}
theorem list_getD_range {α : Type} (l : List α) (d : α) (n : Nat) (h : l.length = n) : (List.range n).map (fun i => l.getD i d) = l := by
  apply List.ext_getElem?
  intro i
  by_cases hi : i < n
  · rw [List.getElem?_map, List.getElem?_range hi, Option.map_some, List.getD_eq_getElem?_getD, List.getElem?_eq_getElem (by omega)]; rfl
  · rw [List.getElem?_eq_none (by simp; omega), List.getElem?_eq_none (by omega)]
/-- A struct by value: its cells V, and what is read of them, Y. -/
theorem open_struct {t : TypeId} {fs : Array Field} {v : Value} {d : DataW H} {ps : List MemPlace} {r : Reach} {b0 base : Nat} {spare : Nat → Bool} {held : Bool} (hs : P.underlying t = some (.struct fs)) (hone : oneCellFields P fs = true) (hC : P.cellsOf t = fs.size)
    (hv : Value.okWide P W r b0 t v) (hd : DataW.Trod enc P W base spare held t v d ps) :
    ∃ (V : Nat → Value) (Y : Nat → DataW H × List MemPlace) (n : Nat), v = .agg ((List.range fs.size).map V).toArray ∧ d = .agg ((List.range fs.size).map fun i => (Y i).1) ∧ ps = (List.range fs.size).flatMap (fun i => (Y i).2) ∧
      ∀ (i : Nat) (f : Field), fs[i]? = some f → DataW.trod enc P W base spare held n f.type [V i] = some (Y i) := by
  obtain ⟨cs, rfl, hsz⟩ := okWide_struct hs hv
  obtain ⟨fuel, hf⟩ := hd
  obtain ⟨xs, n, _, hx, hcl, hlen, hg⟩ := DataW.trod_struct hs hf
  have hl : cs.toList.length = fs.size := by rw [Array.length_toList, hsz, hC]
  obtain ⟨Y, hY⟩ : ∃ Y : Nat → DataW H × List MemPlace, Y = fun i => xs.getD i (.nil, []) := ⟨_, rfl⟩
  have ex : (List.range fs.size).map Y = xs := by rw [hY]; exact list_getD_range xs _ _ hlen
  have hyi : ∀ i, i < fs.size → xs[i]? = some (Y i) := fun i hi => by rw [hY, List.getElem?_eq_getElem (by omega)]; simp [List.getD, hlen, hi]
  clear hY
  simp only [Prod.mk.injEq] at hx
  refine ⟨fun i => cs.toList.getD i undef, Y, n, ?_, ?_, ?_, fun i f hi => ?_⟩
  · rw [list_getD_range cs.toList undef fs.size hl]
  · rw [hx.1, ← ex, List.map_map]; rfl
  · rw [hx.2, ← ex, List.flatMap_map]
  · obtain ⟨ho, hk⟩ := hone_of hone i f hi
    have hlt : i < fs.size := (Array.getElem?_eq_some_iff.1 hi).1
    have := hg i f hi
    rw [ho, hk, show (Value.agg cs).cells.toList = cs.toList from rfl, take1_drop cs.toList i undef (by omega)] at this
    rw [this, hyi i hlt]
/-- How much a struct's fields may be. -/
theorem sized_struct {ts : List TypeId} {ds : List (DataW H)} (h : (DataW.weightsEach P ts ds).all (· ≤ reachBytes) = true) {j : Nat} {t : TypeId} {fs : Array Field} {parts : List (DataW H)} (ht : ts[j]? = some t) (hd : ds[j]? = some (.agg parts)) (hu : P.underlying t = some (.struct fs)) :
    (DataW.weightsEach P (fs.toList.map (·.type)) parts).all (· ≤ reachBytes) = true := by
  rw [List.all_eq_true]
  intro n hn
  exact List.all_eq_true.1 h n (DataW.weights_mem_each ht hd n (by simp only [DataW.weights, hu]; exact hn))
/-- A field that is a slice of bytes. -/
theorem field_bytes {t e : TypeId} {c : Value} {y : DataW H × List MemPlace} {fuel : Nat} (ht : P.underlying t = some (.slice e)) (he : P.underlying e = some (.int .u8)) (hc : P.cellsOf e = 1)
    (hf : DataW.trod enc P W 0 (fun _ => true) true fuel t [c] = some y) (hlt : ∀ x ∈ y.2, x.block < W.heap.size) (hsz : ∀ elems spare, y.1 = .slice elems spare → elems.length + spare.length ≤ reachBytes) :
    ∃ A l cap, c = .slice A l.length cap ∧ Rd W W.heap.size A (vb l) ∧ l.length ≤ 140737488351232 ∧ l.length ≤ cap := by
  rcases open_ints ht he hc hf with ⟨hcs, hx⟩ | ⟨a, len, cap, zs, hcs, _, hl, hm, hz, hx, hcell, hwz⟩
  · rw [List.cons.injEq] at hcs
    rw [hcs.1]
    exact ⟨none, [], 0, rfl, Rd.nil _ _ _, by simp, by simp⟩
  · rw [List.cons.injEq] at hcs
    rw [hcs.1]
    have hx1 := congrArg Prod.fst hx
    simp only [if_true] at hz
    have hs := hsz _ _ hx1
    simp only [lits, List.length_map, List.length_take, List.length_drop, reachBytes] at hs
    refine ⟨some a, (zs.take len).map fun n => UInt8.ofNat n.toNat, cap, by simp; omega, ?_, by simp; omega, by simp; omega⟩
    intro h0
    refine ⟨a, rfl, ?_, ?_⟩
    · simp only [vb, List.length_map, List.length_take] at h0
      have : (⟨a.block, a.off, none⟩ : Addr).block < W.heap.size := by
        have h1 := hcell 0 (by omega)
        have h2 := World.block_lt_of_cell? W _ h1
        rwa [add_block] at h2
      exact this
    · intro j u hj
      simp only [vb, List.map_map, List.getElem?_map, Option.map_eq_some_iff, Function.comp] at hj
      obtain ⟨n, hn, rfl⟩ := hj
      rw [List.getElem?_take] at hn
      split at hn
      · have hjl : j < zs.length := by
          rcases Nat.lt_or_ge j zs.length with h | h
          · exact h
          · rw [List.getElem?_eq_none h] at hn; cases hn
        rw [hcell j hjl]
        have e1 : zs.getD j 0 = n := by simp [List.getD, hn]
        rw [e1]
        have hw := hwz n (List.mem_of_getElem? hn)
        have hb : 0 ≤ n ∧ n ≤ 255 := by simpa [Lit.wf, IntKind.min, IntKind.max, IntKind.signed, IntKind.bits] using hw
        congr 2
        rw [UInt8.toNat_ofNat']
        omega
      · cases hn
/-- A field that is a number. -/
theorem field_int {t : TypeId} {k : IntKind} {c : Value} {y : DataW H × List MemPlace} {fuel : Nat} {base : Nat} {spare : Nat → Bool} {held : Bool} (ht : P.underlying t = some (.int k)) (hf : DataW.trod enc P W base spare held fuel t [c] = some y) : ∃ n, c = .int k n ∧ (Lit.int k n).wf = true := by
  obtain ⟨n, h, _, hw⟩ := DataW.trod_int ht hf
  rw [List.cons.injEq] at h
  exact ⟨n, h.1, hw⟩
/-- A slice of structs: the cell of each field of each element, and what it is. -/
theorem open_structs {t e : TypeId} {fs : Array Field} {v : Value} {d : DataW H} {ps : List MemPlace} {r : Reach} {b0 base : Nat} {held : Bool} (ht : P.underlying t = some (.slice e)) (he : P.underlying e = some (.struct fs)) (hone : oneCellFields P fs = true) (hC : P.cellsOf e = fs.size)
    (hv : Value.okWide P W r b0 t v) (hd : DataW.Trod enc P W base (fun _ => true) held t v d ps) (hsz : ∀ elems spare, d = .slice elems spare → (elems.length + spare.length) * P.bytesOf e ≤ reachBytes) (hby : 0 < P.bytesOf e) :
    ∃ (A : Option Addr) (len cap : Nat), v = .slice A len cap ∧ len ≤ reachBytes ∧ ∀ i, i < len → ∃ ad, A = some ad ∧ ∃ n : Nat, ∀ (j : Nat) (f : Field), fs[j]? = some f → ∃ (c : Value) (y : DataW H × List MemPlace), W.cell? (ad.add (i * fs.size + j)) = some c ∧ DataW.trod enc P W base (fun _ => true) held n f.type [c] = some y := by
  obtain ⟨a0, len, cap, rfl⟩ := okWide_slice ht hv
  obtain ⟨fuel, hf⟩ := hd
  rcases open_slice ht hf with ⟨hcs, hx⟩ | ⟨a, len', cap', m, n, D, Pl, hcs, _, hl, hm, hmm, hx, hi⟩
  · simp [Value.cells] at hcs
    obtain ⟨rfl, rfl, rfl⟩ := hcs
    exact ⟨none, 0, 0, rfl, Nat.zero_le _, fun i hi => by omega⟩
  · simp [Value.cells] at hcs
    obtain ⟨rfl, rfl, rfl⟩ := hcs
    have hx1 := congrArg Prod.fst hx
    have hs := hsz _ _ hx1
    simp only [List.length_map, List.length_range] at hs
    simp only [if_true] at hmm
    refine ⟨some a, len, cap, rfl, ?_, fun i hil => ⟨a, rfl, ?_⟩⟩
    · have h1 : len ≤ (len + (m - len)) * P.bytesOf e := Nat.le_trans (Nat.le_add_right _ _) (Nat.le_mul_of_pos_right _ hby)
      omega
    · obtain ⟨cs', hc, htr⟩ := hi i (by omega)
      rw [hC] at hc
      obtain ⟨xs, n', _, _, hcl, hlen, hg⟩ := DataW.trod_struct he htr
      obtain ⟨_, hcl2, hat⟩ := World.cells?_some hc
      refine ⟨n', fun j f hj => ?_⟩
      obtain ⟨ho, hk⟩ := hone_of hone j f hj
      have hjl : j < fs.size := (Array.getElem?_eq_some_iff.1 hj).1
      have hg2 := hg j f hj
      rw [ho, hk, take1_drop cs' j undef (by omega)] at hg2
      refine ⟨cs'.getD j undef, xs[j]'(by omega), ?_, by rw [hg2, List.getElem?_eq_getElem (by omega)]⟩
      rw [← Go.Deep.add_add, hat j hjl, List.getD_eq_getElem?_getD, List.getElem?_eq_getElem (by omega)]
      rfl
/-- Structs of two numbers: the numbers. -/
theorem structs_int2 {f0 f1 : Field} {A : Option Addr} {len base : Nat} {held : Bool} (h0 : P.underlying f0.type = some (.int .i64)) (h1 : P.underlying f1.type = some (.int .i64))
    (h : ∀ i, i < len → ∃ ad, A = some ad ∧ ∃ n : Nat, ∀ (j : Nat) (f : Field), (#[f0, f1] : Array Field)[j]? = some f → ∃ (c : Value) (y : DataW H × List MemPlace), W.cell? (ad.add (i * (#[f0, f1] : Array Field).size + j)) = some c ∧ DataW.trod enc P W base (fun _ => true) held n f.type [c] = some y) :
    ∃ K M : Nat → Int, ∀ i, i < len → ∃ ad, A = some ad ∧ ad.block < W.heap.size ∧ W.cell? (ad.add (i * 2)) = some (.int .i64 (K i)) ∧ W.cell? (ad.add (i * 2 + 1)) = some (.int .i64 (M i)) ∧ -9223372036854775808 ≤ M i ∧ M i ≤ 9223372036854775807 := by
  have step : ∀ i : Nat, ∃ km : Int × Int, i < len → ∃ ad, A = some ad ∧ ad.block < W.heap.size ∧ W.cell? (ad.add (i * 2)) = some (.int .i64 km.1) ∧ W.cell? (ad.add (i * 2 + 1)) = some (.int .i64 km.2) ∧ -9223372036854775808 ≤ km.2 ∧ km.2 ≤ 9223372036854775807 := by
    intro i
    by_cases hi : i < len
    · obtain ⟨ad, e, n, hf⟩ := h i hi
      obtain ⟨c0, y0, hc0, ht0⟩ := hf 0 f0 rfl
      obtain ⟨c1, y1, hc1, ht1⟩ := hf 1 f1 rfl
      obtain ⟨a, rfl, wa⟩ := field_int h0 ht0
      obtain ⟨b, rfl, wb⟩ := field_int h1 ht1
      have hb : -9223372036854775808 ≤ b ∧ b ≤ 9223372036854775807 := by simpa [Lit.wf, IntKind.min, IntKind.max, IntKind.signed, IntKind.bits] using wb
      refine ⟨(a, b), fun _ => ⟨ad, e, ?_, hc0, hc1, hb.1, hb.2⟩⟩
      have := World.block_lt_of_cell? W _ hc0
      rwa [add_block] at this
    · exact ⟨(0, 0), fun h => (hi h).elim⟩
  obtain ⟨f, hf⟩ := Classical.axiomOfChoice step
  exact ⟨fun i => (f i).1, fun i => (f i).2, hf⟩
/-- A field that is a slice of bytes, however long. -/
theorem field_bytes0 {t e : TypeId} {c : Value} {y : DataW H × List MemPlace} {fuel : Nat} (ht : P.underlying t = some (.slice e)) (he : P.underlying e = some (.int .u8)) (hc : P.cellsOf e = 1)
    (hf : DataW.trod enc P W 0 (fun _ => true) true fuel t [c] = some y) :
    ∃ A l cap, c = .slice A l.length cap ∧ Rd W W.heap.size A (vb l) ∧ l.length ≤ cap := by
  rcases open_ints ht he hc hf with ⟨hcs, hx⟩ | ⟨a, len, cap, zs, hcs, _, hl, hm, hz, hx, hcell, hwz⟩
  · rw [List.cons.injEq] at hcs
    rw [hcs.1]
    exact ⟨none, [], 0, rfl, Rd.nil _ _ _, by simp⟩
  · rw [List.cons.injEq] at hcs
    rw [hcs.1]
    simp only [if_true] at hz
    refine ⟨some a, (zs.take len).map fun n => UInt8.ofNat n.toNat, cap, by simp; omega, ?_, by simp; omega⟩
    intro h0
    refine ⟨a, rfl, ?_, ?_⟩
    · simp only [vb, List.length_map, List.length_take] at h0
      have h1 := hcell 0 (by omega)
      have h2 := World.block_lt_of_cell? W _ h1
      rwa [add_block] at h2
    · intro j u hj
      simp only [vb, List.map_map, List.getElem?_map, Option.map_eq_some_iff, Function.comp] at hj
      obtain ⟨n, hn, rfl⟩ := hj
      rw [List.getElem?_take] at hn
      split at hn
      · have hjl : j < zs.length := by
          rcases Nat.lt_or_ge j zs.length with h | h
          · exact h
          · rw [List.getElem?_eq_none h] at hn; cases hn
        rw [hcell j hjl]
        have e1 : zs.getD j 0 = n := by simp [List.getD, hn]
        rw [e1]
        have hw := hwz n (List.mem_of_getElem? hn)
        have hb : 0 ≤ n ∧ n ≤ 255 := by simpa [Lit.wf, IntKind.min, IntKind.max, IntKind.signed, IntKind.bits] using hw
        congr 2
        rw [UInt8.toNat_ofNat']
        omega
      · cases hn
/-- Structs of a uint64, a bool and a slice of bytes: what they are. -/
theorem structs_item {f0 f1 f2 : Field} {e : TypeId} {A : Option Addr} {len : Nat} (h0 : P.underlying f0.type = some (.int .u64)) (h1 : P.underlying f1.type = some .bool) (h2 : P.underlying f2.type = some (.slice e)) (he : P.underlying e = some (.int .u8)) (hc : P.cellsOf e = 1)
    (h : ∀ i, i < len → ∃ ad, A = some ad ∧ ∃ n : Nat, ∀ (j : Nat) (f : Field), (#[f0, f1, f2] : Array Field)[j]? = some f → ∃ (c : Value) (y : DataW H × List MemPlace), W.cell? (ad.add (i * (#[f0, f1, f2] : Array Field).size + j)) = some c ∧ DataW.trod enc P W 0 (fun _ => true) true n f.type [c] = some y) :
    ∃ (N : Nat → Nat) (I : Nat → Bool) (B : Nat → Option Addr) (T : Nat → List UInt8) (C : Nat → Nat), ∀ i, i < len → N i < 18446744073709551616 ∧ Rd W W.heap.size (B i) (vb (T i)) ∧ (T i).length ≤ C i ∧ ∃ ad, A = some ad ∧ ad.block < W.heap.size ∧ W.cell? (ad.add (i * 3)) = some (.int .u64 (N i : Int)) ∧ W.cell? (ad.add (i * 3 + 1)) = some (.bool (I i)) ∧ W.cell? (ad.add (i * 3 + 2)) = some (.slice (B i) (T i).length (C i)) := by
  have step : ∀ i : Nat, ∃ x : Nat × Bool × Option Addr × List UInt8 × Nat, i < len → x.1 < 18446744073709551616 ∧ Rd W W.heap.size x.2.2.1 (vb x.2.2.2.1) ∧ x.2.2.2.1.length ≤ x.2.2.2.2 ∧ ∃ ad, A = some ad ∧ ad.block < W.heap.size ∧ W.cell? (ad.add (i * 3)) = some (.int .u64 (x.1 : Int)) ∧ W.cell? (ad.add (i * 3 + 1)) = some (.bool x.2.1) ∧ W.cell? (ad.add (i * 3 + 2)) = some (.slice x.2.2.1 x.2.2.2.1.length x.2.2.2.2) := by
    intro i
    by_cases hi : i < len
    · obtain ⟨ad, ea, n, hf⟩ := h i hi
      obtain ⟨c0, y0, hc0, ht0⟩ := hf 0 f0 rfl
      obtain ⟨c1, y1, hc1, ht1⟩ := hf 1 f1 rfl
      obtain ⟨c2, y2, hc2, ht2⟩ := hf 2 f2 rfl
      obtain ⟨a, rfl, wa⟩ := field_int h0 ht0
      obtain ⟨b, eb, _⟩ := DataW.trod_bool h1 ht1
      rw [List.cons.injEq] at eb
      obtain ⟨rfl, _⟩ := eb
      obtain ⟨B, t, cap, rfl, hr, hl⟩ := field_bytes0 h2 he hc ht2
      have hb : 0 ≤ a ∧ a ≤ 18446744073709551615 := by simpa [Lit.wf, IntKind.min, IntKind.max, IntKind.signed, IntKind.bits] using wa
      have hblk := World.block_lt_of_cell? W _ hc0
      rw [add_block] at hblk
      refine ⟨(a.toNat, b, B, t, cap), fun _ => ⟨?_, hr, hl, ad, ea, hblk, ?_, hc1, hc2⟩⟩
      · show a.toNat < _
        omega
      · show W.cell? (ad.add (i * 3)) = some (.int .u64 (a.toNat : Int))
        rw [Int.toNat_of_nonneg hb.1]
        exact hc0
    · exact ⟨(0, false, none, [], 0), fun h => (hi h).elim⟩
  obtain ⟨f, hf⟩ := Classical.axiomOfChoice step
  exact ⟨fun i => (f i).1, fun i => (f i).2.1, fun i => (f i).2.2.1, fun i => (f i).2.2.2.1, fun i => (f i).2.2.2.2, hf⟩
end
end Go.Proofs.Ytkfmgjipocmkjaa
