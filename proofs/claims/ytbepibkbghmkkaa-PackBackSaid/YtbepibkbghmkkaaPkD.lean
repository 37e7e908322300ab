/-
  The document's reader (layer 7): what its calls answer, and where it stands behind them.
-/
import Derived.Test.YtbepibkbghmkkaaPkC
import Derived.Deep.AppendLies
import Derived.Deep.DeepCutAuto
import Derived.BigQuiet
namespace Go.Proofs.Ytbepibkbghmkkaa
open Go Go.RowKit
set_option linter.unusedVariables false
set_option linter.unusedSimpArgs false

/-- The document's reader in its block: its bytes, its place, its fault. -/
def RR (w : World) (p : Nat) (B : Option Addr) (n cap at_ f : Nat) : Prop := w.heap[p]? = some (.cells #[.slice B n cap, .int .i64 (at_ : Int), .int .i64 (f : Int)] 35 (0, 0))
section
variable {w : World} {p : Nat} {B : Option Addr} {n cap at_ f : Nat}
theorem RR.lt (h : RR w p B n cap at_ f) : p < w.heap.size := (Array.getElem?_eq_some_iff.1 h).1
theorem RR.c0 (h : RR w p B n cap at_ f) : w.cell? ⟨p, 0, none⟩ = some (.slice B n cap) := by rw [cell_of_row _ _ _ _ _ _ h]; rfl
theorem RR.c1 (h : RR w p B n cap at_ f) : w.cell? ⟨p, 1, none⟩ = some (.int .i64 (at_ : Int)) := by rw [cell_of_row _ _ _ _ _ _ h]; rfl
theorem RR.c2 (h : RR w p B n cap at_ f) : w.cell? ⟨p, 2, none⟩ = some (.int .i64 (f : Int)) := by rw [cell_of_row _ _ _ _ _ _ h]; rfl
theorem RR.fr (h : RR w p B n cap at_ f) (k : Nat) : w.frozen? ⟨p, k, none⟩ = false := frozen_of_row _ _ _ _ _ h
theorem RR.set1 (h : RR w p B n cap at_ f) (a : Nat) : RR (w.setCell ⟨p, 1, none⟩ (.int .i64 (a : Int))) p B n cap a f := heap_setCell_same w p 1 _ _ _ h
theorem RR.set2 (h : RR w p B n cap at_ f) (a : Nat) : RR (w.setCell ⟨p, 2, none⟩ (.int .i64 (a : Int))) p B n cap at_ a := heap_setCell_same w p 2 _ _ _ h
theorem grown_set (w : World) (p k : Nat) (v : Value) : w.grownBy (w.setCell ⟨p, k, none⟩ v) (some p) := ⟨rfl, rfl, rfl, by simp, fun q _ hq => heap_setCell_other w ⟨p, k, none⟩ q v (fun e => hq (by simp [e]))⟩
theorem grown_drewN (w : World) (m : Nat) (r : Option Nat) : w.grownBy (w.drewN m) r := ⟨rfl, rfl, rfl, Nat.le_refl _, fun _ _ _ => rfl⟩
theorem grown_trans {a b c : World} {r : Option Nat} (h : a.grownBy b r) (k : b.grownBy c r) : a.grownBy c r :=
  ⟨k.os.trans h.os, k.tape.trans h.tape, k.output.trans h.output, Nat.le_trans h.size k.size, fun q hq hne => (k.block q (Nat.lt_of_lt_of_le hq h.size) hne).trans (h.block q hq hne)⟩
end

set_option maxRecDepth 100000 in
set_option maxHeartbeats 4000000 in
theorem rprnum_no (w : World) (p : Nat) (B : Option Addr) (n cap at_ f : Nat) (h : RR w p B n cap at_ f) (hf : f ≠ 0) :
    Calls Try.prog 18 #[.pointer (some ⟨p, 0, none⟩)] w fun e w' => e = .returned (.int .u64 0) ∧ w' = w := by
  have d2 := h.c2
  have hf2 : ¬ (f : Int) = 0 := by omega
  go_enter Try.func18, Try.ntmps18
  go_wp2_with fail
  go_ret
  exact ⟨rfl, rfl⟩

theorem run_tailP {P : Program} (t e : TypeId) (i : TypeInfo) (ht : P.underlying t = some (.slice e)) (hi : P.info? e = some i) (hs : i.size = 1) (bd : Addr) (len cap n : Nat) (hn : n ≤ len) (hl : len < cap) (w : World) :
    (Instr.slice t (.slice (some bd) len cap) (some (.int .i64 (n : Int))) none none).run P w = .ok (.slice (some (bd.add n)) (len - n) (cap - n)) w := by
  have h1 : cap ≠ n := by omega
  have h2 : ¬ len < n := by omega
  have h3 : ¬ cap < len := by omega
  simp [Instr.slice, run_underlying ht, Instr.sliceBounds, Instr.sliceBound, asIntOf, sizeOf, typeInfo, hi, hs, h1]
  omega
theorem Rd.tailP {w : World} {B : Nat} {bd : Addr} {xs : List Value} (h : Rd w B (some bd) xs) (n : Nat) : Rd w B (some (bd.add n)) (xs.drop n) := fun h0 => by
  rw [List.length_drop] at h0
  obtain ⟨ad, e, hb, hc⟩ := h (by omega)
  cases e
  refine ⟨bd.add n, rfl, by rw [add_block]; exact hb, fun j v hj => ?_⟩
  rw [List.getElem?_drop] at hj
  rw [add_add]
  exact hc _ _ hj
theorem vn_drop (l : List Nat) (k : Nat) : vn (l.drop k) = (vn l).drop k := by simp [vn, List.map_drop]

set_option maxRecDepth 100000 in
set_option maxHeartbeats 4000000 in
theorem rprnum_any (w : World) (p : Nat) (bd : Addr) (l : List Nat) (n cap at_ : Nat) (hn : l.length = n) (hl : ∀ x ∈ l, x < 256) (hle : n ≤ 1000000) (hc : n < cap) (h : RR w p (some bd) n cap at_ 0) (hat : at_ ≤ n) {BB : Nat} (hr : Rd w BB (some bd) (vn l)) (v k e0 : Nat) (hk : tk (l.drop at_) = (v, k, e0)) (hkb : k ≤ 10) :
    Calls Try.prog 18 #[.pointer (some ⟨p, 0, none⟩)] w fun e w' => e = .returned (.int .u64 (v : Int)) ∧ RR w' p (some bd) n cap (at_ + k) e0 ∧ w.grownBy w' (some p) := by
  have d0 := h.c0
  have d1 := h.c1
  have d2 := h.c2
  obtain ⟨j0, hi, hz0, hz1, hz2⟩ := info_parts info_b
  have q1 := run_tailP (P := Try.prog) 24 5 j0 Try.underlying24 hi hz1 bd n cap at_ hat hc
  have hrd : Rd w BB (some (bd.add at_)) (vn (l.drop at_)) := by rw [vn_drop]; exact hr.tailP at_
  have ht := fun m : Nat => rptaken_any (some (bd.add at_)) (l.drop at_) (n - at_) (cap - at_) (by rw [List.length_drop, hn]) (fun x hx => hl x (List.mem_of_mem_drop hx)) (by omega) (w.drewN m) (hrd.drewN m)
  simp only [hk] at ht
  obtain ⟨bt, hbt⟩ : ∃ bt, bt = bd.add at_ := ⟨_, rfl⟩
  obtain ⟨nt, hnt⟩ : ∃ nt, nt = n - at_ := ⟨_, rfl⟩
  obtain ⟨ct, hct⟩ : ∃ ct, ct = cap - at_ := ⟨_, rfl⟩
  rw [← hbt, ← hnt, ← hct] at q1
  rw [← hbt, ← hnt, ← hct] at ht
  clear hbt hnt hct hi hz0 hz1 hz2 hrd hk
  have HR := Lib.hid h; clear h
  have HT := Lib.hid ht; clear ht
  have hwr : IntKind.i64.wrap ((at_ : Int) + (k : Int)) = ((at_ + k : Nat) : Int) := by rw [IntWalk.i64_in _ (by omega)]; omega
  obtain ⟨a2, ha2⟩ : ∃ a2, a2 = at_ + k := ⟨_, rfl⟩
  rw [← ha2] at hwr
  rw [← ha2]
  clear ha2
  go_enter Try.func18, Try.ntmps18
  go_upto_region 3 with fail
  go_quiet (refine Calls.quiet_of_same (HT.out _))
  have HR1 : Hid (RR (w.drewN nq) p (some bd) n cap at_ 0) := Lib.hid HR.out
  have hg1 := grown_drewN w nq (some p)
  generalize w.drewN nq = w1 at *
  clear d0 d1 d2 HT
  have d2 := HR1.out.c2
  have f2 := HR1.out.fr 2
  go_upto_region 5 with fail
  have HR2 := Lib.hid (HR1.out.set2 e0)
  have hg2 := grown_trans hg1 (grown_set w1 p 2 (.int .i64 (e0 : Int)))
  generalize w1.setCell ⟨p, 2, none⟩ (.int .i64 (e0 : Int)) = w2 at *
  clear d2 f2 hg1 HR1
  have d1 := HR2.out.c1
  have f1 := HR2.out.fr 1
  go_wp2_with fail
  go_ret
  exact ⟨rfl, HR2.out.set1 a2, grown_trans hg2 (grown_set w2 p 1 _)⟩
end Go.Proofs.Ytbepibkbghmkkaa
