/-
  slices.Chunk of bytes, sixteen at a time: the iterator's contract.
-/
import Derived.Test.YtfgigoheaoanpaaProg
import Derived.Test.YtfgigoheaoanpaaRnd
import Derived.Shelf.Abstract
import Derived.Shelf.RegionOpen
import Derived.OwnWalkIn
import Derived.TacticsInMore
import Derived.LoopNIn
import Derived.LoopIn
namespace Go.Proofs.Ytfgigoheaoanpaa
open Go Go.RowKit Go.Shelf
set_option linter.unusedVariables false
set_option linter.unusedSimpArgs false
attribute [local go_sem] Oper.semAt_some

/-- A chunk of len bytes, by its number. -/
abbrev Chk (len : Nat) := { x : Nat // 16 * x < len }
/-- How many bytes it has. -/
def chL (len x : Nat) : Nat := if len - 16 * x < 16 then len - 16 * x else 16
def chE (ad : Addr) (len : Nat) (x : Chk len) : Array Value := #[.slice (some (ad.add (16 * x.1))) (chL len x.1) (chL len x.1)]

set_option maxHeartbeats 1000000 in
theorem chunk_any (A : Option Addr) (len cap : Nat) (w : World) :
    Calls Try.prog 23 #[.slice A len cap, .int .i64 16] w fun e w' => e = .returned (.func (.func 30) #[] #[.pointer (some ⟨w.heap.size, 0, none⟩), .pointer (some ⟨w.heap.size + 1, 0, none⟩)]) ∧ w' = (w.alloc (.cells #[.slice A len cap] 22)).alloc (.cells #[.int .i64 16] 3) := by
  go_enter Try.func23, Try.ntmps23
  go_wp2
  go_ret
  exact ⟨rfl, rfl⟩

/-- The iterator's two boxes are as they were. -/
def KpC (B2 B3 : Nat) (W W' : World) : Prop := W'.heap[B2]? = W.heap[B2]? ∧ W'.heap[B3]? = W.heap[B3]?
theorem KpC.trans {B2 B3 : Nat} {A B C : World} (h : KpC B2 B3 A B) (k : KpC B2 B3 B C) : KpC B2 B3 A C := ⟨k.1.trans h.1, k.2.trans h.2⟩

set_option maxRecDepth 100000 in
set_option maxHeartbeats 2000000 in
theorem chunk1_in (l B2 B3 : Nat) (ad : Addr) (len cap : Nat) (hlc : len ≤ cap) (hreach : len ≤ 140737488351360) (J Jx : List (Chk len) → World → Prop) (W : World)
    (hY : ∀ pre x W1, J pre W1 → pre.length < (len + 15) / 16 → YieldAt Fence.wide 0 Try.prog l (chE ad len x) W1 fun e W' => (e = .returned (.bool true) ∧ J (pre ++ [x]) W' ∧ KpC B2 B3 W1 W') ∨ (e = .returned (.bool false) ∧ Jx (pre ++ [x]) W'))
    (h2 : W.heap[B2]? = some (.cells #[.slice (some ad) len cap] 22 (0, 0))) (h3 : W.heap[B3]? = some (.cells #[.int .i64 16] 3 (0, 0))) (h0 : J [] W) (hJd : ∀ pre W1 n, J pre W1 → J pre (W1.drewN n)) :
    CallsIn Fence.wide 1 Try.prog 30 #[.func (.yield l) #[] #[], .pointer (some ⟨B2, 0, none⟩), .pointer (some ⟨B3, 0, none⟩)] W fun e W' => (∃ v, e = .returned v) ∧
      ((∃ ys, ys.map (·.1) = List.range ((len + 15) / 16) ∧ J ys W') ∨ (∃ pre, True ∧ Jx pre W')) := by
  refine callsIn_of_wp Try.func30 rfl trivial ?_ rfl
  simp only [Try.ntmps30, List.size_toArray, List.length_cons, List.length_nil, Nat.reduceAdd, Nat.reduceSub, Array.replicate_succ, Array.replicate_zero, List.push_toArray, List.append_toArray, List.nil_append, List.cons_append]
  have H2 := Lib.hid h2; clear h2
  have H3 := Lib.hid h3; clear h3
  gi_wp2
  gi_loopw [4] (fun i wr => ∃ (k : Nat) (pre : List (Chk len)), pre.map (·.1) = List.range k ∧ 16 * k ≤ len + 15 ∧ i = .int .i64 (16 * k : Nat) ∧ J pre wr ∧ Hid (KpC B2 B3 W wr))
    (fun i _ => len + 15 - (intOf i).toNat)
  case atStart => exact ⟨0, [], rfl, by omega, rfl, h0, Lib.hid ⟨rfl, rfl⟩⟩
  case round =>
    obtain ⟨k, pre, hp, hk, rfl, hJ, hbl⟩ := hrel
    have c2 := (show wr.cell? ⟨B2, 0, none⟩ = some (.slice (some ad) len cap) from by rw [cell_of_row _ _ _ _ _ _ (hbl.out.1.trans H2.out)]; rfl)
    have c3 := (show wr.cell? ⟨B3, 0, none⟩ = some (.int .i64 16) from by rw [cell_of_row _ _ _ _ _ _ (hbl.out.2.trans H3.out)]; rfl)
    have hpl : pre.length = k := by have := congrArg List.length hp; simpa using this
    by_cases hlt : 16 * k < len
    · obtain ⟨x, hx⟩ : ∃ x : Chk len, x.1 = k := ⟨⟨k, hlt⟩, rfl⟩
      obtain ⟨q, hq⟩ : ∃ q, q = 16 * k := ⟨_, rfl⟩
      have hmul : 16 * k = q := hq.symm
      obtain ⟨e, he⟩ : ∃ e, e = chL len k := ⟨_, rfl⟩
      have hmin : (if ((len - q : Nat) : Int) < 16 then ((len - q : Nat) : Int) else 16) = (e : Int) := by
        rw [he]; unfold chL; split <;> split <;> omega
      have he2 : q + e ≤ len := by rw [he]; unfold chL; split <;> omega
      have he3 : 0 < e := by rw [he]; unfold chL; split <;> omega
      have he4 : e ≤ 16 := by rw [he]; unfold chL; split <;> omega
      have hlen : pre.length < (len + 15) / 16 := by omega
      have hcE : chE ad len x = #[.slice (some (ad.add q)) e e] := by rw [hq, he, ← hx]; rfl
      have HCE := Lib.hid hcE; clear hcE
      have HLEN := Lib.hid hlen; clear hlen
      have hlt' : q < len := by omega
      have HE := Lib.hid he; clear he
      have HQ := Lib.hid hq; clear hq
      have HP := Lib.hid hpl; clear hpl
      have HX := Lib.hid hx; clear hx
      have hqi : ((16 * k : Nat) : Int) = (q : Int) := by omega
      rw [hqi]
      have HQI := Lib.hid hqi; clear hqi
      have HM := Lib.hid hmul; clear hmul
      clear hlt
      gi_wp2
      refine wpIn_wide.2 ?_
      go_quiet (fail)
      obtain ⟨fn, tmps, assign, body, hy, hR⟩ := hY pre x (wr.drewN nq) (hJd _ _ _ hJ) HLEN.out
      rw [HCE.out] at hy
      have hbl' : Hid (KpC B2 B3 W (wr.drewN nq)) := Lib.hid ⟨hbl.out.1, hbl.out.2⟩
      have c2' : (wr.drewN nq).cell? ⟨B2, 0, none⟩ = some (.slice (some ad) len cap) := c2
      have c3' : (wr.drewN nq).cell? ⟨B3, 0, none⟩ = some (.int .i64 16) := c3
      generalize wr.drewN nq = w2 at *
      have HR := Lib.hid hR; clear hR
      gi_wp2
      refine HR.out.mono ?_
      rintro e3 W3 (⟨rfl, hJ3, hk3⟩ | ⟨rfl, hJx3⟩)
      · have c33 : W3.cell? ⟨B3, 0, none⟩ = some (.int .i64 16) := by rw [cell_of_row _ _ _ _ _ _ (hk3.2.trans (hbl'.out.2.trans H3.out))]; rfl
        have HK3 := Lib.hid hk3; clear hk3
        gi_wp2
        go_roundw
        case rel =>
          refine ⟨k + 1, pre ++ [x], ?_, ?_, ?_, hJ3, Lib.hid (hbl'.out.trans HK3.out)⟩
          · rw [List.map_append, hp, List.range_succ]
            simp only [List.map_cons, List.map_nil, HX.out]
          · have := HQ.out; omega
          · have := HQ.out; exact val_int (by omega)
        case measure => have := HQ.out; simp [intOf]; omega
      · gi_wp2
        refine bodyPost_ret (results_none rfl _ _ _) rfl ?_
        exact ⟨⟨_, rfl⟩, .inr ⟨_, trivial, hJx3⟩⟩
    · gi_wp2
      go_end0
      refine ⟨⟨_, rfl⟩, .inl ⟨pre, ?_, hJ⟩⟩
      rw [hp]
      congr 1
      omega

set_option maxRecDepth 100000 in
set_option maxHeartbeats 1000000 in
theorem chunk0_in (l B2 B3 : Nat) (A : Option Addr) (cap : Nat) (J : List (Chk 0) → World → Prop) (W : World)
    (h2 : W.heap[B2]? = some (.cells #[.slice A 0 cap] 22 (0, 0))) (h0 : J [] W) :
    CallsIn Fence.wide 1 Try.prog 30 #[.func (.yield l) #[] #[], .pointer (some ⟨B2, 0, none⟩), .pointer (some ⟨B3, 0, none⟩)] W fun e W' => (∃ v, e = .returned v) ∧ J [] W' := by
  have c2 : W.cell? ⟨B2, 0, none⟩ = some (.slice A 0 cap) := by rw [cell_of_row _ _ _ _ _ _ h2]; rfl
  refine callsIn_of_wp Try.func30 rfl trivial ?_ rfl
  simp only [Try.ntmps30, List.size_toArray, List.length_cons, List.length_nil, Nat.reduceAdd, Nat.reduceSub, Array.replicate_succ, Array.replicate_zero, List.push_toArray, List.append_toArray, List.nil_append, List.cons_append]
  gi_wp2
  gi_loopw [4] (fun i wr => i = .int .i64 0 ∧ wr = W) (fun _ _ => 0)
  case atStart => exact ⟨rfl, rfl⟩
  case round =>
    obtain ⟨rfl, rfl⟩ := hrel
    gi_wp2
    go_end0
    exact ⟨⟨_, rfl⟩, h0⟩

/-- What a chunk is handed on as. -/
def chA (A : Option Addr) (len : Nat) (x : Chk len) : Array Value := #[.slice (A.map fun ad => ad.add (16 * x.1)) (chL len x.1) (chL len x.1)]
theorem chunk_stops (B2 B3 : Nat) (A : Option Addr) (len cap : Nat) (hA : 0 < len → ∃ ad, A = some ad) (hlc : len ≤ cap) (hreach : len ≤ 140737488351360) (w : World)
    (h2 : w.heap[B2]? = some (.cells #[.slice A len cap] 22 (0, 0))) (h3 : w.heap[B3]? = some (.cells #[.int .i64 16] 3 (0, 0))) :
    SeqStopsK Fence.wide 1 Try.prog 30 #[.pointer (some ⟨B2, 0, none⟩), .pointer (some ⟨B3, 0, none⟩)] (chA A len) (KpC B2 B3) (fun ys => ys.map (·.1) = List.range ((len + 15) / 16)) (fun _ => True) ((len + 15) / 16) w := fun l J Jx W hW hJ _ hY h0 => by
  have k2 := (hW.block B2 (Array.getElem?_eq_some_iff.1 h2).1).trans h2
  have k3 := (hW.block B3 (Array.getElem?_eq_some_iff.1 h3).1).trans h3
  rcases Nat.eq_zero_or_pos len with rfl | hp
  · exact (chunk0_in l B2 B3 A cap J W k2 h0).mono fun e W' ⟨he, hj⟩ => ⟨he, .inl ⟨[], rfl, hj⟩⟩
  · obtain ⟨ad, rfl⟩ := hA hp
    exact chunk1_in l B2 B3 ad len cap hlc hreach J Jx W hY k2 k3 h0 fun pre W1 n hj => hJ pre W1 _ none hj ⟨rfl, rfl, rfl, Nat.le_refl _, fun _ _ _ => rfl⟩ (fun r e => by cases e)
end Go.Proofs.Ytfgigoheaoanpaa
