/-
  Does, whatever is asked; scripts that are too heavy (layer 8).
-/
import Derived.Test.YtajplflefagbaaaDkT
import Derived.Test.YtajplflefagbaaaDkU
import Derived.Test.YtajplflefagbaaaDkV
import Derived.Test.YtajplflefagbaaaDkW
namespace Go.Proofs.Ytajplflefagbaaa
open Go Go.RowKit
set_option linter.unusedVariables false
set_option linter.unusedSimpArgs false

theorem does_any (w : World) (d p n : Nat) (Lc L : Nat → Prop) (D : Dev) (o : OpV) (hP : Pair w d p Lc L n D) (ho : o.Ok w) (hB : Aside Lc L o.B o.bl) (hM : Aside Lc L o.M o.ml) (hnn : n ≤ 4096) (hm : D.load ≤ 900000) :
    Calls Try.prog 13 #[.pointer (some ⟨d, 0, none⟩), .pointer (some ⟨p, 0, none⟩), .agg (opA o)] w (DoesR w p n Lc L D.load (fun x => o.k ≠ 9 → x = d)) := by
  by_cases h1 : o.k = 1
  · exact does_write w d p n Lc L D o hP ho hB hM hnn hm h1
  by_cases h2 : o.k = 10
  · exact does_fill w d p n Lc L D o hP ho hB hM hnn hm h2
  by_cases h3 : o.k = 2
  · exact does_read w d p n Lc L D o hP ho hB hM hnn hm h3
  by_cases h4 : o.k = 3
  · exact does_sync w d p n Lc L D o hP ho hB hM hnn hm h4
  by_cases h5 : o.k = 4
  · exact does_step w d p n Lc L D o hP ho hB hM hnn hm h5
  by_cases h6 : o.k = 5
  · exact does_fail w d p n Lc L D o hP ho hB hM hnn hm h6
  by_cases h7 : o.k = 6
  · exact does_cut w d p n Lc L D o hP ho hB hM hnn hm h7
  by_cases h8 : o.k = 7
  · exact does_crash w d p n Lc L D o hP ho hB hM hnn hm h8
  by_cases h9 : o.k = 8
  · exact does_foreign w d p n Lc L D o hP ho hB hM hnn hm h9
  by_cases h10 : o.k = 9
  · exact does_fork w d p n Lc L D o hP ho hB hM hnn hm h10
  exact does_other w d p n Lc L D o hP ho hB hM hnn hm ⟨h1, h2, h3, h4, h5, h6, h7, h8, h9, h10⟩

def HeavyR (len : Nat) (w : World) (e : Ending) (w' : World) : Prop := ∃ b : Bool, e = .returned (.bool b) ∧ (b = false → len ≤ 4000) ∧ Below w.heap.size w w'
set_option maxRecDepth 100000 in
set_option maxHeartbeats 8000000 in
theorem heavy_any (A : Option Addr) (len cap : Nat) (O : Nat → OpV) (w : World) (hlen : len ≤ 140737488351360) (hO : ∀ i, i < len → (O i).Ok w ∧ ∃ ad, A = some ad ∧ (O i).At w ad i) :
    Calls Try.prog 9 #[.slice A len cap] w (HeavyR len w) := by
  have HO := Lib.hid hO; clear hO
  go_enter Try.func9, Try.ntmps9
  go_wp2_with fail
  go_loopw [3, 7] (fun s i wr => ∃ j m : Nat, j ≤ len ∧ i = .int .i64 j ∧ s = .int .i64 m ∧ j ≤ m ∧ m ≤ 4000 ∧ Below w.heap.size w wr) (fun _ i _ => len - (intOf i).toNat)
  case atStart => exact ⟨0, 0, Nat.zero_le _, rfl, rfl, Nat.le_refl _, Nat.zero_le _, Below.refl _ _⟩
  case round =>
    rename World => wr
    obtain ⟨j, m, hj, rfl, rfl, hjm, hm, hb⟩ := hrel
    have HB := Lib.hid hb; clear hb
    by_cases hlt : j < len
    · have hji : (j : Int) < (len : Int) := by omega
      obtain ⟨hok, ad, hA, hat⟩ := HO.out j hlt
      obtain ⟨_, _, _, c3, c4⟩ := hat.go HB.out
      have hb1 := hok.hb.2.2
      have hb2 := hok.hm.2.2
      generalize (O j).bl.length = b0 at *
      generalize (O j).ml.length = b1 at *
      generalize (O j).B = B0 at *
      generalize (O j).bc = B1 at *
      generalize (O j).M = B2 at *
      generalize (O j).mc = B3 at *
      clear hok hat
      subst hA
      obtain ⟨q, hq⟩ : ∃ q, q = b0 / 64 := ⟨_, rfl⟩
      obtain ⟨a1, ha1⟩ : ∃ a1, a1 = 1 + q := ⟨_, rfl⟩
      obtain ⟨a2, ha2⟩ : ∃ a2, a2 = a1 + b1 := ⟨_, rfl⟩
      obtain ⟨a3, ha3⟩ : ∃ a3, a3 = m + a2 := ⟨_, rfl⟩
      have e0 : (b0 : Int) / 64 = (q : Int) := by omega
      have e0w : IntKind.i64.wrap (q : Int) = (q : Int) := IntWalk.i64_in _ (by omega)
      have e1 : IntKind.i64.wrap (1 + (q : Int)) = (a1 : Int) := by rw [IntWalk.i64_in _ (by omega)]; omega
      have e2 : IntKind.i64.wrap ((a1 : Int) + (b1 : Int)) = (a2 : Int) := by rw [IntWalk.i64_in _ (by omega)]; omega
      have e3 : IntKind.i64.wrap ((m : Int) + (a2 : Int)) = (a3 : Int) := by rw [IntWalk.i64_in _ (by omega)]; omega
      have HQ := Lib.hid (And.intro ha1 (And.intro ha2 ha3)); clear hq ha1 ha2 ha3
      go_upto_region 5 with fail
      go_quiet (fail)
      have HBz := Lib.hid (bdrewN HB.out nq)
      clear c3 c4 e0 e0w e1 e2 e3
      generalize wr.drewN nq = wz at *
      by_cases hbig : 4000 < a3
      · have hbi : (4000 : Int) < (a3 : Int) := by omega
        go_wp2_with fail
        go_ret
        exact ⟨true, rfl, (fun h => by cases h), HBz.out⟩
      · have hbi : ¬ (4000 : Int) < (a3 : Int) := by omega
        go_wp2_with fail
        go_roundw
        case rel => exact ⟨j + 1, a3, by omega, by go_num, rfl, by have := HQ.out; omega, by omega, HBz.out⟩
        case measure => simp [intOf]; omega
    · have hji : ¬ (j : Int) < (len : Int) := by omega
      go_wp2_with fail
      go_ret
      exact ⟨false, rfl, fun _ => by omega, HB.out⟩
/-- A struct is read where it lies. -/
theorem wpList_load_at {P : Program} {ops : Array Oper} {rest : List Oper} {op : Oper} {a : Act} {w : World} {Q : Exit → Act → World → Prop} (hgd : op.guard = none) (ty : TypeId) (x : Operand) (ho : op.op = .load ty x)
    (ad : Addr) (hx : a.eval x = .pointer (some ad)) (cs : List Value) (fs : Array Field) (hc : ∀ j v, cs[j]? = some v → w.cell? (ad.add j) = some v)
    (hu : P.underlying ty = some (.struct fs)) (hi : (P.info? ty).map (·.size) = some cs.length)
    (h : wpList P ops Q rest (a.put op.dst (.agg cs.toArray)) w) : wpList P ops Q (op :: rest) a w := by
  have hl : (loadCells ad cs.length).run P w = .ok cs.toArray w := run_loadCells_list (P := P) w ad cs hc
  have hv : (loadVar ty ad).run P w = .ok (.agg cs.toArray) w := by
    cases hq : P.info? ty with
    | none => simp [hq] at hi
    | some i =>
      have hs : i.size = cs.length := by simpa [hq] using hi
      have hagg : (isAgg ty).run P w = .ok true w := by
        unfold isAgg
        rw [Sem.run_bind, run_underlying hu w]
        simp_all
      simp [loadVar, Sem.run_bind, hagg, sizeOf, typeInfo, hq, hs, hl]
  refine wpList_plain hgd fun _ hK => ?_
  unfold Oper.wp execOp
  simp only [ho, hx, Instr.loadAt, Instr.sureAddr, Sem.run_bind, Sem.run_pure, Result.andThen_ok, hv]
  exact hK _ _ h
theorem op_size : (Try.prog.info? 36).map (·.size) = some 5 := by kernel_rfl
theorem OpV.Ok.go {W w' : World} {o : OpV} (h : o.Ok W) (hb : Below W.heap.size W w') : o.Ok w' := ⟨h.hk, h.hi, h.ha, ⟨h.hb.1.go hb, h.hb.2⟩, ⟨h.hm.1.go hb, h.hm.2⟩⟩
theorem OpV.Ok.aside {W : World} {A : Option Addr} {l : List UInt8} (h : Rd W W.heap.size A (vb l)) {Lc L : Nat → Prop} (hL : ∀ b, Lc b ∨ L b → W.heap.size ≤ b) : Aside Lc L A l := fun h0 ad e hh => by
  obtain ⟨ad2, e2, hlt, _⟩ := h (by simpa [vb] using Nat.pos_of_ne_zero h0)
  rw [e] at e2
  cases e2
  have := hL _ hh
  omega
end Go.Proofs.Ytajplflefagbaaa
