/-
  A round of a range over a function: what is walked outside of rounds serves in one, where nothing is deferred.
-/
import Derived.Test.YtfgigoheaoanpaaBase
import Derived.Deep.RegionHeld3
import Derived.OrdersIn
import Derived.RangeFuncNested
import Derived.RangeFuncBound
import Derived.RangeFuncCalls
import Derived.RangeFuncLeaves
namespace Go.Proofs.Ytfgigoheaoanpaa
open Go Go.RowKit
set_option linter.unusedVariables false
set_option linter.unusedSimpArgs false

/-- A post that only a normal end meets. -/
def OnlyN (Q : Exit → Act → World → Prop) : Exit → Act → World → Prop
  | .normal, a, w => Q .normal a w
  | _, _, _ => False
theorem OnlyN.imp {Q : Exit → Act → World → Prop} : ∀ (e : Exit) (a : Act) (w : World), OnlyN Q e a w → Q e a w := fun e a w h => by
  cases e <;> first | exact h | exact (h : False).elim
theorem OnlyN.normal {Q : Exit → Act → World → Prop} {a : Act} {w : World} (h : Q .normal a w) : OnlyN Q .normal a w := h
theorem OnlyN.no {Q : Exit → Act → World → Prop} (h : LetsOut (OnlyN Q)) : False := by
  obtain ⟨a, w, h⟩ := h
  exact h
/-- Nothing is deferred. -/
def noDefer (ops : List Oper) : Bool := ops.all fun o => match o.op with | .defer _ => false | _ => true
theorem noDefer_at {ops : List Oper} (h : noDefer ops = true) {o : Oper} (ho : o ∈ ops) : ∀ c, o.op ≠ .defer c := fun c e => by
  have := List.all_eq_true.mp h o ho
  rw [e] at this
  cases this

section
variable {P : Program} {Q : Exit → Act → World → Prop} {l n : Nat}
theorem oper_round {o : Oper} {a : Act} {w : World} {K : Act → World → Prop} (hd : ∀ c, o.op ≠ .defer c) (h : o.wp P a w K (OnlyN Q)) : o.wpIn (Fence.wide.inRound l) n P a w K (OnlyN Q) := by
  unfold Oper.wp at h
  refine ⟨fun _ _ => trivial, ?_⟩
  rw [Fence.inRound_round, Oper.semAt_some l _ _ hd]
  generalize (execOp a.eval o).run P w = r at *
  cases r with
  | ok x w' =>
    cases x with
    | value v => exact h
    | skip => exact h
    | defer d => exact h
    | enter f args =>
      refine ⟨fun e => by simp [Fence.wide] at e, ?_⟩
      have hh : Calls P f args w' _ := h
      exact callsIn_wide.2 hh
    | row row args =>
      refine ⟨fun e => by simp [Fence.wide] at e, ?_⟩
      intro c cs _
      have hh : Rows P row args w' _ := h
      obtain ⟨v, w2, h1, h2⟩ := hh c cs
      exact ⟨v, w2, h1, stepsIn_wide.2 h2⟩
    | _ => exact (h : False).elim
  | halt x w' => cases x <;> exact h
theorem list_round {ops : Array Oper} : ∀ (xs : List Oper) (a : Act) (w : World), noDefer xs = true → wpList P ops (OnlyN Q) xs a w → wpListIn (Fence.wide.inRound l) n P ops (OnlyN Q) xs a w := by
  intro xs
  induction xs with
  | nil => exact fun a w _ h => h
  | cons o xs ih =>
    intro a w hd h
    have hd' : noDefer xs = true := by
      unfold noDefer at *
      rw [List.all_cons, Bool.and_eq_true] at hd
      exact hd.2
    unfold wpList at h
    unfold wpListIn
    split
    · rename_i hw
      rw [if_pos hw] at h
      rcases h with h | h
      · exact Oper.wpIn_mono (fun a w h => ih a w hd' h) (oper_round (noDefer_at hd (List.mem_cons_self ..)) h)
      · exact (OnlyN.no h.2).elim
    · rename_i hw
      rw [if_neg hw] at h
      exact ⟨fun _ _ => trivial, ih _ _ hd' h⟩
theorem any_round {ops : Array Oper} {md : Region.Mode} (hd : noDefer ops.toList = true) : ∀ (fuel : Nat) (listed : Array Bool) (a : Act) (w : World), wpAny P md ops (OnlyN Q) fuel listed a w → wpAnyIn (Fence.wide.inRound l) n P md ops (OnlyN Q) fuel listed a w
  | 0, _, _, _, h => h
  | fuel + 1, listed, a, w, h => ⟨h.1, fun i hi => by
    have h2 := h.2 i hi
    unfold wpOp at h2
    unfold wpOpIn
    cases ho : ops[i]? with
    | none => simp only [ho] at h2; exact any_round hd fuel _ _ _ h2
    | some o =>
      simp only [ho] at h2
      have hm : o ∈ ops.toList := Array.mem_toList_iff.mpr (Array.mem_of_getElem? ho)
      simp only
      split
      · rename_i hw
        rw [if_pos hw] at h2
        rcases h2 with h2 | h2
        · exact Oper.wpIn_mono (fun a w h => any_round hd fuel _ a w h) (oper_round (noDefer_at hd hm) h2)
        · exact (OnlyN.no h2.2).elim
      · rename_i hw
        rw [if_neg hw] at h2
        exact ⟨fun _ _ => trivial, any_round hd fuel _ _ _ h2⟩⟩

/-- A region in a round, walked as outside. -/
theorem wpIn_round_list {id : Nat} {xs : List Oper} {a : Act} {w : World} (hd : noDefer xs = true) (h : wpList P xs.toArray (OnlyN Q) xs a w) : (Code.region id xs.toArray false).wpIn (Fence.wide.inRound l) n P Q a w :=
  Code.wpIn_mono OnlyN.imp (wpIn_region_lit (list_round xs a w hd h))
/-- A region that draws its order, in a round. -/
theorem wpIn_round_held {id : Nat} {xs : List Oper} {S : World → Prop} {a : Act} {w : World} (hm : P.follows .mixedOrders = true) (hd : noDefer xs = true) (hS : S w.drew)
    (h : S w.drew → wpAnyH P .any xs.toArray (OnlyN Q) S xs.toArray.size (Array.replicate xs.toArray.size false) a w.drew) : (Code.region id xs.toArray true).wpIn (Fence.wide.inRound l) n P Q a w :=
  Code.wpIn_mono OnlyN.imp (wpIn_region_any hm (any_round (by simpa using hd) _ _ _ _ (wpAny_of_held _ _ _ _ (h hS))))

/-- What is said of one block lies beyond a turn of a later one. -/
theorem ownFrom_block {β : Type} {B b : Nat} {o : β → Obj} (hb : b < B) : OwnFrom B (fun (s : β) W => W.heap[b]? = some (o s)) := fun s W W' row h hg hr =>
  (hg.block b (Array.getElem?_eq_some_iff.1 h).1 (fun e => by have := (hr b e.symm).1; omega)).trans h
/-- A call keeps what is no cells. -/
theorem keeps_below {W W' : World} (h : Below W.heap.size W W') : KeepsOthers W W' := ⟨h.size, fun k o hk _ => (h.block k (Array.getElem?_eq_some_iff.1 hk).1).trans hk⟩
end
end Go.Proofs.Ytfgigoheaoanpaa
