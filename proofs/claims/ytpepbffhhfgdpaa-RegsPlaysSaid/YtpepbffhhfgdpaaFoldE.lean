/-
  Several texts in one:
  Does, whatever is asked; scripts that are too heavy (layer 8).
  Both registers beside both devices in a law's memory; a slice of slices of one's own that is written to (layer 9).
-/
import Derived.Test.YtpepbffhhfgdpaaDkT
import Derived.Test.YtpepbffhhfgdpaaDkU
import Derived.Test.YtpepbffhhfgdpaaDkV
import Derived.Test.YtpepbffhhfgdpaaDkW
import Derived.Test.YtpepbffhhfgdpaaFoldD
namespace Go.Proofs.Ytpepbffhhfgdpaa
open Go Go.RowKit
set_option linter.unusedVariables false
set_option linter.unusedSimpArgs false

theorem does_any (w : World) (d p n : Nat) (Lc L : Nat → Prop) (D : Dev) (o : OpV) (hP : Pair w d p Lc L n D) (ho : o.Ok w) (hB : Aside Lc L o.B o.bl) (hM : Aside Lc L o.M o.ml) (hnn : n ≤ 4096) (hm : D.load ≤ 900000) :
    Calls Try.prog 21 #[.pointer (some ⟨d, 0, none⟩), .pointer (some ⟨p, 0, none⟩), .agg (opA o)] w (DoesR w p n Lc L D.load (fun x => o.k ≠ 9 → x = d)) := by
  by_cases h1 : o.k = 1
  · exact does_write w d p n Lc L D o hP ho hB hM hnn hm h1
  by_cases h2 : o.k = 10
  · exact does_fill w d p n Lc L D o hP ho hB hM hnn hm h2
  by_cases h3 : o.k = 2
  · exact does_read w d p n Lc L D o hP ho hB hM hnn hm h3
  by_cases h4 : o.k = 3
  · exact does_sync w d p n Lc L D o hP ho hB hM hnn hm h4
  by_cases h5 : o.k = 4
  · exact does_step w d p n Lc L D o hP ho hB hM hnn hm h5
  by_cases h6 : o.k = 5
  · exact does_fail w d p n Lc L D o hP ho hB hM hnn hm h6
  by_cases h7 : o.k = 6
  · exact does_cut w d p n Lc L D o hP ho hB hM hnn hm h7
  by_cases h8 : o.k = 7
  · exact does_crash w d p n Lc L D o hP ho hB hM hnn hm h8
  by_cases h9 : o.k = 8
  · exact does_foreign w d p n Lc L D o hP ho hB hM hnn hm h9
  by_cases h10 : o.k = 9
  · exact does_fork w d p n Lc L D o hP ho hB hM hnn hm h10
  exact does_other w d p n Lc L D o hP ho hB hM hnn hm ⟨h1, h2, h3, h4, h5, h6, h7, h8, h9, h10⟩

def HeavyR (len : Nat) (w : World) (e : Ending) (w' : World) : Prop := ∃ b : Bool, e = .returned (.bool b) ∧ (b = false → len ≤ 4000) ∧ Below w.heap.size w w'
/-- A struct is read where it lies. -/
theorem wpList_load_at {P : Program} {ops : Array Oper} {rest : List Oper} {op : Oper} {a : Act} {w : World} {Q : Exit → Act → World → Prop} (hgd : op.guard = none) (ty : TypeId) (x : Operand) (ho : op.op = .load ty x)
    (ad : Addr) (hx : a.eval x = .pointer (some ad)) (cs : List Value) (fs : Array Field) (hc : ∀ j v, cs[j]? = some v → w.cell? (ad.add j) = some v)
    (hu : P.underlying ty = some (.struct fs)) (hi : (P.info? ty).map (·.size) = some cs.length)
    (h : wpList P ops Q rest (a.put op.dst (.agg cs.toArray)) w) : wpList P ops Q (op :: rest) a w := by
  have hl : (loadCells ad cs.length).run P w = .ok cs.toArray w := run_loadCells_list (P := P) w ad cs hc
  have hv : (loadVar ty ad).run P w = .ok (.agg cs.toArray) w := by
    cases hq : P.info? ty with
    | none => simp [hq] at hi
    | some i =>
      have hs : i.size = cs.length := by simpa [hq] using hi
      have hagg : (isAgg ty).run P w = .ok true w := by
        unfold isAgg
        rw [Sem.run_bind, run_underlying hu w]
        simp_all
      simp [loadVar, Sem.run_bind, hagg, sizeOf, typeInfo, hq, hs, hl]
  refine wpList_plain hgd fun _ hK => ?_
  unfold Oper.wp execOp
  simp only [ho, hx, Instr.loadAt, Instr.sureAddr, Sem.run_bind, Sem.run_pure, Result.andThen_ok, hv]
  exact hK _ _ h
theorem op_size : (Try.prog.info? 41).map (·.size) = some 5 := by kernel_rfl
theorem OpV.Ok.go {W w' : World} {o : OpV} (h : o.Ok W) (hb : Below W.heap.size W w') : o.Ok w' := ⟨h.hk, h.hi, h.ha, ⟨h.hb.1.go hb, h.hb.2⟩, ⟨h.hm.1.go hb, h.hm.2⟩⟩
theorem OpV.Ok.aside {W : World} {A : Option Addr} {l : List UInt8} (h : Rd W W.heap.size A (vb l)) {Lc L : Nat → Prop} (hL : ∀ b, Lc b ∨ L b → W.heap.size ≤ b) : Aside Lc L A l := fun h0 ad e hh => by
  obtain ⟨ad2, e2, hlt, _⟩ := h (by simpa [vb] using Nat.pos_of_ne_zero h0)
  rw [e] at e2
  cases e2
  have := hL _ hh
  omega
end Go.Proofs.Ytpepbffhhfgdpaa
namespace Go.Proofs.Ytpepbffhhfgdpaa
open Go Go.RowKit
set_option linter.unusedVariables false
set_option linter.unusedSimpArgs false

structure RP (w wr : World) (d p r q : Nat) (Lc L Rc R : Nat → Prop) (G : Rg) (D : Dev) : Prop where
  pr : Pair wr d p Lc L 8 D
  cg : CG wr r d Rc G
  rg : RG wr q p R G
  bel : Below w.heap.size w wr
  low : ∀ b, Lc b ∨ L b ∨ Rc b ∨ R b → w.heap.size ≤ b
  dcl : ∀ b, Rc b → ¬ Lc b ∧ ¬ L b
  drl : ∀ b, R b → ¬ Lc b ∧ ¬ L b
  drr : ∀ b, Rc b → ¬ R b
section
variable {w wr w1 w2 : World} {d p r q : Nat} {Lc L Rc R : Nat → Prop} {G G1 : Rg} {D D1 : Dev}
theorem RP.call (h : RP w wr d p r q Lc L Rc R G D) (hb : Below wr.heap.size wr w1) : RP w w1 d p r q Lc L Rc R G D :=
  ⟨h.pr.call hb, h.cg.call hb, h.rg.call hb, h.bel.trans (hb.mono h.bel.size), h.low, h.dcl, h.drl, h.drr⟩
/-- Behind the code's call: the document's side is as it was. -/
theorem RP.mid (h : RP w wr d p r q Lc L Rc R G D) (hk : Keep (fun b => Lc b ∨ Rc b) wr w1) : RG w1 q p R G ∧ RD w1 p L 8 D ∧ (∀ b, R b → ¬ L b) ∧ Below w.heap.size w w1 :=
  ⟨h.rg.keep hk fun b hb e => e.elim (h.drl b hb).1 (fun e => h.drr b e hb), h.pr.r.keep hk fun b hb e => e.elim (fun e => h.pr.dis b e hb) (fun e => (h.dcl b e).2 hb), fun b hb => (h.drl b hb).2, Keep.toBelow h.bel hk (fun b hb => h.low b (hb.elim .inl (fun e => .inr (.inr (.inl e))))) h.bel.size⟩
theorem RP.two (h : RP w wr d p r q Lc L Rc R G D) (hg1 : CG w1 r d Rc G1) (hd1 : CD w1 d (ext Lc wr w1) 8 D1) (hk1 : Keep (fun b => Lc b ∨ Rc b) wr w1) (hg2 : RG w2 q p R G1) (hd2 : RD w2 p L 8 D1) (hk2 : Keep (fun b => L b ∨ R b) w1 w2) :
    RP w w2 d p r q (ext Lc wr w1) L Rc R G1 D1 := by
  obtain ⟨_, hr1, _, hb1⟩ := h.mid hk1
  have e1 : ∀ b, ext Lc wr w1 b → ¬ L b := fun b hb hl => hb.elim (fun hc => h.pr.dis b hc hl) (fun hb => by have := h.pr.r.lt b hl; omega)
  have e2 : ∀ b, ext Lc wr w1 b → ¬ R b := fun b hb hl => hb.elim (fun hc => (h.drl b hl).1 hc) (fun hb => by have := h.rg.lt b hl; omega)
  have e3 : ∀ b, ext Lc wr w1 b → ¬ Rc b := fun b hb hl => hb.elim (fun hc => (h.dcl b hl).1 hc) (fun hb => by have := h.cg.lt b hl; omega)
  have lo : ∀ b, ext Lc wr w1 b → w.heap.size ≤ b := fun b hb => hb.elim (fun hb => h.low b (.inl hb)) (fun hb => Nat.le_trans h.bel.size hb.1)
  refine ⟨⟨hd1.keep hk2 (fun b hb e => e.elim (e1 b hb) (e2 b hb)), hd2, e1⟩, hg1.keep hk2 (fun b hb e => e.elim (h.dcl b hb).2 (h.drr b hb)), hg2, ?_, ?_, ?_, ?_, h.drr⟩
  · exact Keep.toBelow hb1 hk2 (fun b hb => h.low b (hb.elim (fun e => .inr (.inl e)) (fun e => .inr (.inr (.inr e))))) hb1.size
  · exact fun b hb => hb.elim (lo b) (fun hb => h.low b (.inr hb))
  · exact fun b hb => ⟨fun e => e3 b e hb, (h.dcl b hb).2⟩
  · exact fun b hb => ⟨fun e => e2 b e hb, (h.drl b hb).2⟩
/-- The document's call first. -/
theorem RP.mid2 (h : RP w wr d p r q Lc L Rc R G D) (hk : Keep (fun b => L b ∨ R b) wr w1) : CG w1 r d Rc G ∧ CD w1 d Lc 8 D ∧ (∀ b, Rc b → ¬ Lc b) ∧ Below w.heap.size w w1 :=
  ⟨h.cg.keep hk fun b hb e => e.elim (h.dcl b hb).2 (h.drr b hb), h.pr.c.keep hk fun b hb e => e.elim (h.pr.dis b hb) (fun e => (h.drl b e).1 hb), fun b hb => (h.dcl b hb).1, Keep.toBelow h.bel hk (fun b hb => h.low b (hb.elim (fun e => .inr (.inl e)) (fun e => .inr (.inr (.inr e))))) h.bel.size⟩
theorem RP.two2 (h : RP w wr d p r q Lc L Rc R G D) (hg1 : RG w1 q p R G1) (hd1 : RD w1 p L 8 D1) (hk1 : Keep (fun b => L b ∨ R b) wr w1) (hg2 : CG w2 r d Rc G1) (hd2 : CD w2 d (ext Lc w1 w2) 8 D1) (hk2 : Keep (fun b => Lc b ∨ Rc b) w1 w2) :
    RP w w2 d p r q (ext Lc w1 w2) L Rc R G1 D1 := by
  obtain ⟨hc1, hr1, _, hb1⟩ := h.mid2 hk1
  have e1 : ∀ b, ext Lc w1 w2 b → ¬ L b := fun b hb hl => hb.elim (fun hc => h.pr.dis b hc hl) (fun hb => by have := hd1.lt b hl; omega)
  have e2 : ∀ b, ext Lc w1 w2 b → ¬ R b := fun b hb hl => hb.elim (fun hc => (h.drl b hl).1 hc) (fun hb => by have := hg1.lt b hl; omega)
  have e3 : ∀ b, ext Lc w1 w2 b → ¬ Rc b := fun b hb hl => hb.elim (fun hc => (h.dcl b hl).1 hc) (fun hb => by have := hc1.lt b hl; omega)
  have lo : ∀ b, ext Lc w1 w2 b → w.heap.size ≤ b := fun b hb => hb.elim (fun hb => h.low b (.inl hb)) (fun hb => Nat.le_trans hb1.size hb.1)
  refine ⟨⟨hd2, hd1.keep hk2 (fun b hb e => e.elim (fun e => h.pr.dis b e hb) (fun e => (h.dcl b e).2 hb)), e1⟩, hg2, hg1.keep hk2 (fun b hb e => e.elim (h.drl b hb).1 (fun e => h.drr b e hb)), ?_, ?_, ?_, ?_, h.drr⟩
  · exact Keep.toBelow hb1 hk2 (fun b hb => h.low b (hb.elim (fun e => .inl e) (fun e => .inr (.inr (.inl e))))) hb1.size
  · exact fun b hb => hb.elim (lo b) (fun hb => h.low b (.inr hb))
  · exact fun b hb => ⟨fun e => e3 b e hb, (h.dcl b hb).2⟩
  · exact fun b hb => ⟨fun e => e2 b e hb, (h.drl b hb).2⟩
/-- Draws: no device is asked. -/
theorem RP.draw (h : RP w wr d p r q Lc L Rc R G D) (hg1 : CG w1 r d Rc G1) (hk1 : Keep Rc wr w1) (hg2 : RG w2 q p R G1) (hk2 : Keep R w1 w2) : RP w w2 d p r q Lc L Rc R G1 D := by
  have hb1 := Keep.toBelow h.bel hk1 (fun b hb => h.low b (.inr (.inr (.inl hb)))) h.bel.size
  have hp1 := h.pr.keep hk1 (fun b hb e => (h.dcl b e).1 hb) (fun b hb e => (h.dcl b e).2 hb)
  exact ⟨hp1.keep hk2 (fun b hb e => (h.drl b e).1 hb) (fun b hb e => (h.drl b e).2 hb), hg1.keep hk2 (fun b hb e => h.drr b hb e), hg2, Keep.toBelow hb1 hk2 (fun b hb => h.low b (.inr (.inr (.inr hb)))) hb1.size, h.low, h.dcl, h.drl, h.drr⟩
/-- An op of the devices. -/
theorem RP.does {d2 : Nat} {Lc' L' : Nat → Prop} (h : RP w wr d p r q Lc L Rc R G D) (hp : Pair w1 d p Lc' L' 8 D1) (ho : Ours wr Lc L Lc' L') (hk : Keep (fun b => Lc b ∨ L b) wr w1) : RP w w1 d p r q Lc' L' Rc R G D1 := by
  have lo : ∀ b, Lc' b ∨ L' b → w.heap.size ≤ b := fun b hb => by
    rcases ho b hb with h1 | h1 | h1
    · exact h.low b (.inl h1)
    · exact h.low b (.inr (.inl h1))
    · exact Nat.le_trans h.bel.size h1
  have dc : ∀ b, Rc b → ¬ (Lc' b ∨ L' b) := fun b hb e => by
    rcases ho b e with h1 | h1 | h1
    · exact (h.dcl b hb).1 h1
    · exact (h.dcl b hb).2 h1
    · have := h.cg.lt b hb; omega
  have dr : ∀ b, R b → ¬ (Lc' b ∨ L' b) := fun b hb e => by
    rcases ho b e with h1 | h1 | h1
    · exact (h.drl b hb).1 h1
    · exact (h.drl b hb).2 h1
    · have := h.rg.lt b hb; omega
  exact ⟨hp, h.cg.keep hk (fun b hb e => e.elim (h.dcl b hb).1 (h.dcl b hb).2), h.rg.keep hk (fun b hb e => e.elim (h.drl b hb).1 (h.drl b hb).2),
    Keep.toBelow h.bel hk (fun b hb => h.low b (hb.elim .inl (fun e => .inr (.inl e)))) h.bel.size,
    fun b hb => hb.elim (fun e => lo b (.inl e)) (fun hb => hb.elim (fun e => lo b (.inr e)) (fun e => h.low b (.inr (.inr e)))),
    fun b hb => ⟨fun e => dc b hb (.inl e), fun e => dc b hb (.inr e)⟩, fun b hb => ⟨fun e => dr b hb (.inl e), fun e => dr b hb (.inr e)⟩, h.drr⟩
end

/-- A slice of slices of one's own, whatever stands in them. -/
structure WI (w : World) (B : Nat) (ls : List (List UInt8)) (n : Nat) (V : Value) (xs : List Value) : Prop where
  own : w.ownsRow B 31 1 V n xs
  el : ∀ i, i < n → ∃ v l, xs[i]? = some v ∧ l.length = (ls.getD i []).length ∧ w.ownsRow B 5 1 v l.length (vb l)
theorem NI.toWI {w : World} {B n : Nat} {ls : List (List UInt8)} {V : Value} {xs : List Value} (h : NI w B ls n V xs) : WI w B ls n V xs := ⟨h.own, fun i hi => let ⟨v, h1, h2⟩ := h.el i hi; ⟨v, _, h1, rfl, h2⟩⟩
theorem WI.keep {w w' : World} {B n : Nat} {ls : List (List UInt8)} {V : Value} {xs : List Value} (h : WI w B ls n V xs) (hk : ∀ b, B ≤ b → b < w.heap.size → w'.heap[b]? = w.heap[b]?) : WI w' B ls n V xs :=
  ⟨own_same h.own fun b hb => hk b (h.own.lt b hb).1 (h.own.lt b hb).2, fun i hi => let ⟨v, l, h1, h2, h3⟩ := h.el i hi; ⟨v, l, h1, h2, own_same h3 fun b hb => hk b (h3.lt b hb).1 (h3.lt b hb).2⟩⟩
/-- A byte is written. -/
theorem WI.store {w : World} {B n g k : Nat} {ls : List (List UInt8)} {V : Value} {xs : List Value} (h : WI w B ls n V xs) (x : UInt8) (hg : ∃ cur : Array Value, w.heap[g]? = some (.cells cur 5 (0, 0))) : WI (w.setCell ⟨g, k, none⟩ (.int .u8 (x.toNat : Int))) B ls n V xs := by
  obtain ⟨cur, hgc⟩ := hg
  refine ⟨own_same h.own fun b hb => heap_setCell_other _ _ _ _ (fun e => ?_), fun i hi => ?_⟩
  · rcases h.own.2 with ⟨e3, _⟩ | ⟨g', c', cur', e3, _, h2, _⟩
    · subst e3; cases hb
    · subst e3
      have e4 : g' = b := by simpa [Value.ownBlock] using hb
      have e5 : b = g := e
      subst e4
      rw [← e5, h2] at hgc
      simp at hgc
  · obtain ⟨v, l, h1, h2, h3⟩ := h.el i hi
    by_cases e : v.ownBlock = some g
    · rcases h3.2 with ⟨e3, _⟩ | ⟨g', c', cur', e3, _⟩
      · subst e3; cases e
      · subst e3
        have e4 : g' = g := by simpa [Value.ownBlock] using e
        subst e4
        have hst := (h3.stored k (.int .u8 (x.toNat : Int))).1
        rw [show (vb l).set k (.int .u8 (x.toNat : Int)) = vb (l.set k x) from by simp [vb, List.map_set]] at hst
        refine ⟨_, l.set k x, h1, by rw [List.length_set]; exact h2, ?_⟩
        rw [List.length_set]; exact hst
    · exact ⟨v, l, h1, h2, own_same h3 fun b hb => heap_setCell_other _ _ _ _ (fun e2 => e (by rw [hb]; exact congrArg some e2))⟩
end Go.Proofs.Ytpepbffhhfgdpaa
