/-
  The landed code's device in memory (layer 8): its struct, its two rows of blocks, what waits. No promise yet.
-/
import Derived.Test.YtajplflefagbaaaDcA
import Derived.Test.YtajplflefagbaaaDkB
namespace Go.Proofs.Ytajplflefagbaaa
open Go Go.RowKit
set_option linter.unusedVariables false
set_option linter.unusedSimpArgs false

/-- How much a device has been asked. -/
def Dev.load (D : Dev) : Nat := max D.waits.length D.steps
theorem load_waits (D : Dev) : D.waits.length ≤ D.load := Nat.le_max_left _ _
theorem load_steps (D : Dev) : D.steps ≤ D.load := Nat.le_max_right _ _
theorem load_le {D : Dev} {m : Nat} (h1 : D.waits.length ≤ m) (h2 : D.steps ≤ m) : D.load ≤ m := Nat.max_le.2 ⟨h1, h2⟩
theorem load_new (n : Nat) : (Dev.new n).load = 0 := rfl
theorem steps_step (D : Dev) : D.step.steps ≤ D.steps + 1 := by
  unfold Dev.step
  split
  · exact Nat.le_succ _
  · exact Nat.mod_le _ _
theorem waits_stepE (D : Dev) : D.step.waits = D.waits := by unfold Dev.step; split <;> rfl
theorem load_step (D : Dev) : D.step.load ≤ D.load + 1 := load_le (by rw [waits_stepE]; have := load_waits D; omega) (by have := load_steps D; have := steps_step D; omega)
theorem load_write (D : Dev) (n : Nat) (i : Int) (l : List UInt8) : (D.write n i l).load ≤ D.load + 1 := by
  unfold Dev.write
  split
  · split
    · refine load_le ?_ (by show D.step.steps ≤ _; have := load_steps D; have := steps_step D; omega)
      show (D.step.waits ++ [(i.toNat, l)]).length ≤ _
      rw [waits_stepE, List.length_append]
      have := load_waits D
      simp; omega
    · exact load_step D
  · omega
theorem load_sync (D : Dev) : D.sync.load ≤ D.load + 1 := by
  unfold Dev.sync
  split
  · exact load_le (Nat.zero_le _) (by show D.step.steps ≤ _; have := load_steps D; have := steps_step D; omega)
  · exact load_step D
theorem load_crash (D : Dev) (ms : List Nat) : (D.crash ms).load ≤ D.load := load_le (Nat.zero_le _) (load_steps D)
theorem load_foreign (D : Dev) (n : Nat) (i a : Int) (b : List UInt8) : (D.foreign n i a b).load = D.load := by unfold Dev.foreign; split <;> rfl

/-- The byte of blocks at a place, and what waits. -/
def bF (M : List (List UInt8)) (k : Nat) : Value := .int .u8 (((M.getD (k / 256) []).getD (k % 256) 0).toNat : Int)
def wF (W : List (Nat × List UInt8)) (k : Nat) : Value := if k % 257 = 0 then .int .i64 ((W.getD (k / 257) (0, [])).1 : Int) else .int .u8 (((W.getD (k / 257) (0, [])).2.getD (k % 257 - 1) 0).toNat : Int)
theorem bF_one (M : List (List UInt8)) (k : Nat) : (bF M k).oneCell' = true := rfl
theorem wF_one (W : List (Nat × List UInt8)) (k : Nat) : (wF W k).oneCell' = true := by unfold wF; split <;> rfl
/-- One block of them. -/
theorem bF_block (M : List (List UInt8)) (i : Nat) (h : (M.getD i []).length = 256) : fl 256 (fun j => bF M (i * 256 + j)) = vb (M.getD i []) := by
  rw [fl_vb _ 256 h]
  refine fl_congr fun k hk => ?_
  unfold bF
  rw [show (i * 256 + k) / 256 = i from by omega, show (i * 256 + k) % 256 = k from by omega]
theorem bF_set (M : List (List UInt8)) (i n : Nat) (l : List UInt8) (hl : l.length = 256) (hi : i < M.length) : ∀ k, layF (bF M) (i * 256) (vb l) k = bF (M.set i l) k := by
  intro k
  unfold layF bF
  rw [List.length_map, hl, getD_set]
  by_cases h : i * 256 ≤ k ∧ k < i * 256 + 256
  · rw [if_pos h, show k / 256 = i from by omega, if_pos ⟨rfl, hi⟩, show k % 256 = k - i * 256 from by omega, List.getElem?_map, List.getElem?_eq_getElem (by omega), List.getD_eq_getElem?_getD, List.getElem?_eq_getElem (by omega)]; rfl
  · rw [if_neg h, if_neg (fun e => h (by have := e.1; omega))]
theorem bF_over (M : List (List UInt8)) (i a : Nat) (b : List UInt8) (hi : i < M.length) (hl : (M.getD i []).length = 256) (ha : a + b.length ≤ 256) : ∀ k, layF (bF M) (i * 256 + a) (vb b) k = bF (M.set i (over8 (M.getD i []) a b)) k := by
  intro k
  unfold layF bF
  rw [List.length_map]
  by_cases h : k / 256 = i
  · rw [show (M.set i (over8 (M.getD i []) a b)).getD (k / 256) [] = over8 (M.getD i []) a b from by rw [getD_set, if_pos ⟨h, hi⟩], h]
    have e : (over8 (M.getD i []) a b).getD (k % 256) 0 = if a ≤ k % 256 ∧ k % 256 < a + b.length then b.getD (k % 256 - a) 0 else (M.getD i []).getD (k % 256) 0 := by
      unfold over8
      rw [List.getD_eq_getElem?_getD, List.getElem?_map, List.getElem?_range (by rw [hl]; omega)]; rfl
    rw [e]
    by_cases h2 : a ≤ k % 256 ∧ k % 256 < a + b.length
    · rw [if_pos h2, if_pos (by omega), show k - (i * 256 + a) = k % 256 - a from by omega, List.getElem?_map, List.getElem?_eq_getElem (by omega), List.getD_eq_getElem?_getD, List.getElem?_eq_getElem (by omega)]; rfl
    · rw [if_neg h2, if_neg (by omega)]
  · rw [show (M.set i (over8 (M.getD i []) a b)).getD (k / 256) [] = M.getD (k / 256) [] from by rw [getD_set, if_neg (fun e => h e.1)], if_neg (by omega)]
/-- One that waits. -/
def wL (x : Nat × List UInt8) : List Value := .int .i64 (x.1 : Int) :: vb x.2
theorem wL_len (x : Nat × List UInt8) (h : x.2.length = 256) : (wL x).length = 257 := by simp [wL, h]
theorem wL_one (x : Nat × List UInt8) : ∀ v ∈ wL x, v.oneCell' = true := by
  intro v hv
  rcases List.mem_cons.1 hv with rfl | hv
  · rfl
  · obtain ⟨b, _, rfl⟩ := List.mem_map.1 hv; rfl
theorem wF_at (W : List (Nat × List UInt8)) (k : Nat) (h : (W.getD k (0, [])).2.length = 256) : fl 257 (fun j => wF W (k * 257 + j)) = wL (W.getD k (0, [])) := by
  apply List.ext_getElem?
  intro j
  by_cases hj : j < 257
  · rw [fl_get _ _ _ hj]
    unfold wF wL
    rw [show (k * 257 + j) / 257 = k from by omega, show (k * 257 + j) % 257 = j from by omega]
    rcases j with _ | j
    · rfl
    · rw [if_neg (by omega), List.getElem?_cons_succ, List.getElem?_map, Nat.add_sub_cancel, List.getElem?_eq_getElem (by omega), List.getD_eq_getElem?_getD, List.getElem?_eq_getElem (by omega)]; rfl
  · rw [List.getElem?_eq_none (by rw [fl_len]; omega), List.getElem?_eq_none (by rw [wL_len _ h]; omega)]
theorem wF_add (W : List (Nat × List UInt8)) (x : Nat × List UInt8) (h : x.2.length = 256) : fl (W.length * 257) (wF W) ++ wL x = fl ((W ++ [x]).length * 257) (wF (W ++ [x])) := by
  have e : (W ++ [x]).length * 257 = W.length * 257 + 257 := by rw [List.length_append]; simp; omega
  rw [e, fl_add]
  congr 1
  · refine fl_congr fun k hk => ?_
    unfold wF
    rw [show (W ++ [x]).getD (k / 257) (0, []) = W.getD (k / 257) (0, []) from by rw [getD_app, if_neg (by omega)]]
  · rw [wF_at _ _ (by rw [getD_app, if_pos rfl]; exact h), getD_app, if_pos rfl]

/-- Where the code's device lies, and how it counts. -/
structure Cs where
  bn : Nat
  cn : Nat
  bf : Nat
  cf : Nat
  wv : Value
  fl : Nat
  cu : Bool
  la : Nat
abbrev cCells (S : Cs) (n : Nat) (D : Dev) : Array Value := #[.slice (some ⟨S.bn, 0, none⟩) n S.cn, .slice (some ⟨S.bf, 0, none⟩) n S.cf, S.wv, .int .u64 (D.steps : Int), .int .u64 (S.fl : Int), .bool S.cu, .int .u64 (S.la : Int), .bool D.down]
structure CDs (S : Cs) (w : World) (d : Nat) (L : Nat → Prop) (n : Nat) (D : Dev) : Prop where
  ok : D.Ok n
  n4 : 0 < n ∧ n ≤ 4096
  cc : n ≤ S.cn ∧ n ≤ S.cf
  ss : D.steps < 9223372036854775808
  rf : D.fail = S.fl - D.steps ∧ S.fl < 18446744073709551616
  rc : D.cut = (if S.cu = true then ((S.la - D.steps : Nat) : Int) else -1) ∧ S.la < 18446744073709551616
  inv : ∀ i, i < n → (∀ k, k < D.waits.length → (D.waits.getD k (0, [])).1 ≠ i) → D.now.getD i [] = D.firm.getD i []
  hp : w.heap[d]? = some (.cells (cCells S n D) 63 (0, 0))
  ld : L d ∧ L S.bn ∧ L S.bf
  ne : S.bn ≠ d ∧ S.bf ≠ d ∧ S.bn ≠ S.bf
  lw : ∀ b, S.wv.ownBlock = some b → L b ∧ b ≠ d ∧ b ≠ S.bn ∧ b ≠ S.bf
  rn : Fr w S.bn 67 (n * 256) (bF D.now)
  rr : Fr w S.bf 67 (n * 256) (bF D.firm)
  ww : w.ownsRow 0 71 257 S.wv D.waits.length (fl (D.waits.length * 257) (wF D.waits))
  lt : ∀ b, L b → b < w.heap.size
def CD (w : World) (d : Nat) (L : Nat → Prop) (n : Nat) (D : Dev) : Prop := ∃ S, CDs S w d L n D
section
variable {S : Cs} {w w' : World} {d n : Nat} {L M : Nat → Prop} {D : Dev}
theorem CDs.c0 (h : CDs S w d L n D) : w.cell? ⟨d, 0, none⟩ = some (.slice (some ⟨S.bn, 0, none⟩) n S.cn) := by rw [cell_of_row _ _ _ _ _ _ h.hp]; rfl
theorem CDs.c1 (h : CDs S w d L n D) : w.cell? ⟨d, 1, none⟩ = some (.slice (some ⟨S.bf, 0, none⟩) n S.cf) := by rw [cell_of_row _ _ _ _ _ _ h.hp]; rfl
theorem CDs.c2 (h : CDs S w d L n D) : w.cell? ⟨d, 2, none⟩ = some S.wv := by rw [cell_of_row _ _ _ _ _ _ h.hp]; rfl
theorem CDs.c3 (h : CDs S w d L n D) : w.cell? ⟨d, 3, none⟩ = some (.int .u64 (D.steps : Int)) := by rw [cell_of_row _ _ _ _ _ _ h.hp]; rfl
theorem CDs.c4 (h : CDs S w d L n D) : w.cell? ⟨d, 4, none⟩ = some (.int .u64 (S.fl : Int)) := by rw [cell_of_row _ _ _ _ _ _ h.hp]; rfl
theorem CDs.c5 (h : CDs S w d L n D) : w.cell? ⟨d, 5, none⟩ = some (.bool S.cu) := by rw [cell_of_row _ _ _ _ _ _ h.hp]; rfl
theorem CDs.c6 (h : CDs S w d L n D) : w.cell? ⟨d, 6, none⟩ = some (.int .u64 (S.la : Int)) := by rw [cell_of_row _ _ _ _ _ _ h.hp]; rfl
theorem CDs.c7 (h : CDs S w d L n D) : w.cell? ⟨d, 7, none⟩ = some (.bool D.down) := by rw [cell_of_row _ _ _ _ _ _ h.hp]; rfl
theorem CDs.free (h : CDs S w d L n D) (j : Nat) : w.frozen? ⟨d, j, none⟩ = false := frozen_of_row _ _ _ _ _ h.hp
theorem CDs.keep' (h : CDs S w d L n D) (hk : ∀ b, L b → w'.heap[b]? = w.heap[b]?) (hs : w.heap.size ≤ w'.heap.size) : CDs S w' d L n D :=
  ⟨h.ok, h.n4, h.cc, h.ss, h.rf, h.rc, h.inv, (hk _ h.ld.1).trans h.hp, h.ld, h.ne, h.lw, h.rn.keep (hk _ h.ld.2.1), h.rr.keep (hk _ h.ld.2.2), own_same h.ww fun b hb => hk b (h.lw b hb).1, fun b hb => Nat.lt_of_lt_of_le (h.lt b hb) hs⟩
theorem CDs.keep (h : CDs S w d L n D) (hk : Keep M w w') (hd : ∀ b, L b → ¬ M b) : CDs S w' d L n D := h.keep' (fun b hb => hk.block b (h.lt b hb) (hd b hb)) hk.size
theorem CDs.call (h : CDs S w d L n D) (hb : Below w.heap.size w w') : CDs S w' d L n D := h.keep' (fun b hL => hb.block b (h.lt b hL)) hb.size
theorem CDs.more (h : CDs S w d L n D) (hM : ∀ b, L b → M b) (hlt : ∀ b, M b → b < w.heap.size) : CDs S w d M n D :=
  ⟨h.ok, h.n4, h.cc, h.ss, h.rf, h.rc, h.inv, h.hp, ⟨hM _ h.ld.1, hM _ h.ld.2.1, hM _ h.ld.2.2⟩, h.ne, fun b hb => ⟨hM _ (h.lw b hb).1, (h.lw b hb).2⟩, h.rn, h.rr, h.ww, hlt⟩
/-- Only the struct's own cells are others. -/
theorem CDs.setp {S' : Cs} {D' : Dev} (h : CDs S w d L n D) (e1 : D'.now = D.now) (e2 : D'.firm = D.firm) (e3 : D'.waits = D.waits) (es : S'.bn = S.bn ∧ S'.cn = S.cn ∧ S'.bf = S.bf ∧ S'.cf = S.cf ∧ S'.wv = S.wv)
    (hs : D'.steps < 9223372036854775808) (hf : D'.fail = S'.fl - D'.steps ∧ S'.fl < 18446744073709551616 ∧ D'.fail ≤ 9223372036854775807) (hc : D'.cut = (if S'.cu = true then ((S'.la - D'.steps : Nat) : Int) else -1) ∧ S'.la < 18446744073709551616 ∧ D'.cut ≤ 9223372036854775807)
    (hp : w'.heap[d]? = some (.cells (cCells S' n D') 63 (0, 0)))
    (ht : Turn d w w') : CDs S' w' d L n D' := by
  obtain ⟨b1, b2, b3, b4, b5⟩ := es
  refine ⟨⟨by rw [e1]; exact h.ok.nl, by rw [e2]; exact h.ok.fl, by rw [e1]; exact h.ok.nr, by rw [e2]; exact h.ok.fr, by rw [e3]; exact h.ok.wl, hf.2.2, ⟨?_, hc.2.2⟩, by omega⟩, h.n4, by rw [b2, b4]; exact h.cc, hs, ⟨hf.1, hf.2.1⟩, ⟨hc.1, hc.2.1⟩, by rw [e1, e2, e3]; exact h.inv, hp, by rw [b1, b3]; exact h.ld, by rw [b1, b3]; exact h.ne, by rw [b1, b3, b5]; exact h.lw, ?_, ?_, ?_, fun b hb => by rw [ht.size]; exact h.lt b hb⟩
  · rw [hc.1]; split <;> omega
  · rw [b1, e1]; exact h.rn.turn ht h.ne.1
  · rw [b3, e2]; exact h.rr.turn ht h.ne.2.1
  · rw [b5, e3]; exact own_same h.ww fun b hb => ht.block b (h.lw b hb).2.1
end
theorem CD.keep {w w' : World} {d n : Nat} {L M : Nat → Prop} {D : Dev} (h : CD w d L n D) (hk : Keep M w w') (hd : ∀ b, L b → ¬ M b) : CD w' d L n D := by obtain ⟨S, h⟩ := h; exact ⟨S, h.keep hk hd⟩
theorem CD.call {w w' : World} {d n : Nat} {L : Nat → Prop} {D : Dev} (h : CD w d L n D) (hb : Below w.heap.size w w') : CD w' d L n D := by obtain ⟨S, h⟩ := h; exact ⟨S, h.call hb⟩
theorem CD.lt {w : World} {d n : Nat} {L : Nat → Prop} {D : Dev} (h : CD w d L n D) : ∀ b, L b → b < w.heap.size := by obtain ⟨S, h⟩ := h; exact h.lt
theorem CD.ok {w : World} {d n : Nat} {L : Nat → Prop} {D : Dev} (h : CD w d L n D) : D.Ok n := by obtain ⟨S, h⟩ := h; exact h.ok
theorem CD.more {w : World} {d n : Nat} {L M : Nat → Prop} {D : Dev} (h : CD w d L n D) (hM : ∀ b, L b → M b) (hlt : ∀ b, M b → b < w.heap.size) : CD w d M n D := by obtain ⟨S, h⟩ := h; exact ⟨S, h.more hM hlt⟩
/-- What Foreign answers; what Firm tells. -/
def forE (n : Nat) (i at_ : Int) (len : Nat) : Nat := if forB n i at_ len = true then 0 else 2
def Dev.firmE (n : Nat) (i : Int) : Nat := if hasB n i = true then 0 else 2
def Dev.firmB (D : Dev) (n : Nat) (i : Int) : List UInt8 := if hasB n i = true then D.firm.getD i.toNat [] else []
theorem ext_lt {L : Nat → Prop} {w w' : World} (h : ∀ b, L b → b < w.heap.size) (hs : w.heap.size ≤ w'.heap.size) : ∀ b, ext L w w' b → b < w'.heap.size := fun b hb => hb.elim (fun h1 => Nat.lt_of_lt_of_le (h b h1) hs) fun h1 => h1.2
theorem CDs.ext {S : Cs} {w w0 : World} {d n : Nat} {L : Nat → Prop} {D : Dev} (h : CDs S w d L n D) (hlt : ∀ b, L b → b < w0.heap.size) (hs : w0.heap.size ≤ w.heap.size) : CD w d (ext L w0 w) n D := ⟨S, h.more (fun _ h => .inl h) (ext_lt hlt hs)⟩
theorem Turn.keepL {g : Nat} {L : Nat → Prop} {a b : World} (h : Turn g a b) (hg : L g) : Keep L a b := Turn.keep (Keep.refl _ _) h fun _ => hg
end Go.Proofs.Ytajplflefagbaaa
