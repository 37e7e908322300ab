/-
  From a walk to a law's row: arguments that are opened, and what stands behind the call, for any law that answers true and leaves all older memory alone.
-/
import Derived.Test.YtajplflefagbaaaRows
import Derived.Test.YtajplflefagbaaaBase
import Derived.ProofKit
import Derived.SizedLaws
namespace Go.Proofs.Ytajplflefagbaaa
open Go Go.RowKit Go.ChangeShapes Go.WideShapes Go.ChangeAt
set_option linter.unusedVariables false
set_option linter.unusedSimpArgs false

section
variable {H : Type} {enc : TypeId × Value → H} {P : Program} {W W' : World}

theorem trodAll_below (hlaid : laidOutB P = true) (hb : Below W.heap.size W W') :
    ∀ {ts : List TypeId} {vs : List Value} {ds : List (DataW H)} {ps : List MemPlace}, (ts.all fun t => P.readableRec t && decide (t < P.types.size)) = true →
      DataW.TrodAll enc P W 0 (fun _ => true) true ts vs ds ps → (∀ x ∈ ps, x.block < W.heap.size) →
      DataW.TrodAll enc P W' 0 (fun b => decide (b < W.heap.size)) true ts vs ds ps := by
  intro ts
  induction ts with
  | nil =>
    intro vs ds ps _ h _
    obtain ⟨rfl, rfl, rfl⟩ := trodAll_nil h
    exact trodAll_mk0
  | cons t ts ih =>
    intro vs ds ps hr h hlt
    obtain ⟨v, vs, d, ds, p, q, rfl, rfl, rfl, h0, h1⟩ := trodAll_cons h
    simp only [List.all_cons, Bool.and_eq_true, decide_eq_true_eq] at hr
    exact trodAll_cons_mk (Below.trod hlaid hr.1.1 hr.1.2 h0 hb fun x hx => hlt x (List.mem_append_left _ hx)) (ih (by simpa using hr.2) h1 fun x hx => hlt x (List.mem_append_right _ hx))

/-- What a row asks behind the call, of a law that answers true and leaves all older memory alone. -/
theorem law_post {fn : Func} {s : ChangeSpec} {args : Array Value} {ds gs : List (DataW H)} {before : List MemPlace} (tb : TypeId) (hbool : P.underlying tb = some .bool) (hres : fn.resultTypes = #[tb]) (hvars : s.vars = [])
    (hlaid : laidOutB P = true) (hread : (fn.params.toList.all fun t => P.readableRec t && decide (t < P.types.size)) = true)
    (hW : DataW.Whole enc P fn.params.toList s.vars false W args.toList ds gs before) (hspec : (s.fn H (ds ++ gs)).results = [.lit (.bool true)] ∧ (s.fn H (ds ++ gs)).args = ds ∧ (s.fn H (ds ++ gs)).vars = [])
    (hb : Below W.heap.size W W') : s.post enc P fn false true false false W args (.bool true) W' := by
  have hW' := hW
  obtain ⟨p, q, hA, hV, rfl, _, _⟩ := hW
  refine ⟨ds, gs, _, [], p, [], hW', ?_, ?_, ?_, hb.frame _, fun h => by cases h⟩
  · rw [hspec.1, hres]
    exact trodAll_cons_mk (p' := []) (shut_bool hbool true) trodAll_mk0
  · rw [hspec.2.1]
    exact trodAll_below hlaid hb hread hA fun x hx => hW'.lt x (List.mem_append_left _ hx)
  · rw [hspec.2.2, hvars]; rfl

/-- A slice of bytes among the arguments, opened. -/
theorem open_bytes_cap {t e : TypeId} {v : Value} {d : DataW H} {ps : List MemPlace} {r : Reach} {b0 : Nat} (ht : P.underlying t = some (.slice e)) (he : P.underlying e = some (.int .u8)) (hc : P.cellsOf e = 1)
    (hv : Value.okWide P W r b0 t v) (hd : DataW.Trod enc P W 0 (fun _ => true) true t v d ps) (hlt : ∀ x ∈ ps, x.block < W.heap.size)
    (hsz : ∀ elems spare, d = .slice elems spare → elems.length + spare.length ≤ reachBytes) :
    ∃ A l cap, v = .slice A l.length cap ∧ Rd W W.heap.size A (vb l) ∧ l.length ≤ 140737488351232 ∧ l.length ≤ cap := by
  obtain ⟨a0, len, cap, rfl⟩ := okWide_slice ht hv
  obtain ⟨fuel, hf⟩ := hd
  rcases open_ints ht he hc hf with ⟨hcs, hx⟩ | ⟨a, len', cap', zs, hcs, _, hl, hm, hz, hx, hcell, hwz⟩
  · simp [Value.cells] at hcs
    obtain ⟨rfl, rfl, rfl⟩ := hcs
    exact ⟨none, [], 0, rfl, Rd.nil _ _ _, by simp, by simp⟩
  · simp [Value.cells] at hcs
    obtain ⟨rfl, rfl, rfl⟩ := hcs
    simp only [Prod.mk.injEq] at hx
    obtain ⟨rfl, rfl⟩ := hx
    simp only [if_true] at hz
    have hs := hsz _ _ rfl
    simp only [lits, List.length_map, List.length_take, List.length_drop, reachBytes] at hs
    refine ⟨some a, (zs.take len).map fun n => UInt8.ofNat n.toNat, cap, by simp; omega, ?_, by simp; omega, by simp; omega⟩
    intro h0
    refine ⟨a, rfl, ?_, ?_⟩
    · simp only [vb, List.length_map, List.length_take] at h0
      have : (⟨a.block, a.off, none⟩ : Addr).block < W.heap.size := by
        have h1 := hcell 0 (by omega)
        have h2 := World.block_lt_of_cell? W _ h1
        rwa [add_block] at h2
      exact this
    · intro j u hj
      simp only [vb, List.map_map, List.getElem?_map, Option.map_eq_some_iff, Function.comp] at hj
      obtain ⟨n, hn, rfl⟩ := hj
      rw [List.getElem?_take] at hn
      split at hn
      · have hjl : j < zs.length := by
          rcases Nat.lt_or_ge j zs.length with h | h
          · exact h
          · rw [List.getElem?_eq_none h] at hn; cases hn
        rw [hcell j hjl]
        have e1 : zs.getD j 0 = n := by simp [List.getD, hn]
        rw [e1]
        have hw := hwz n (List.mem_of_getElem? hn)
        have hb : 0 ≤ n ∧ n ≤ 255 := by simpa [Lit.wf, IntKind.min, IntKind.max, IntKind.signed, IntKind.bits] using hw
        congr 2
        rw [UInt8.toNat_ofNat']
        omega
      · cases hn

theorem open_bytes {t e : TypeId} {v : Value} {d : DataW H} {ps : List MemPlace} {r : Reach} {b0 : Nat} (ht : P.underlying t = some (.slice e)) (he : P.underlying e = some (.int .u8)) (hc : P.cellsOf e = 1)
    (hv : Value.okWide P W r b0 t v) (hd : DataW.Trod enc P W 0 (fun _ => true) true t v d ps) (hlt : ∀ x ∈ ps, x.block < W.heap.size)
    (hsz : ∀ elems spare, d = .slice elems spare → elems.length + spare.length ≤ reachBytes) :
    ∃ A l cap, v = .slice A l.length cap ∧ Rd W W.heap.size A (vb l) ∧ l.length ≤ 140737488351232 := by
  obtain ⟨A, l, cap, h1, h2, h3, _⟩ := open_bytes_cap ht he hc hv hd hlt hsz
  exact ⟨A, l, cap, h1, h2, h3⟩

/-- A string among the arguments, opened. -/
theorem open_str {t : TypeId} {v : Value} {d : DataW H} {ps : List MemPlace} {r : Reach} {b0 : Nat} {base : Nat} {sp : Nat → Bool} {held : Bool} (ht : P.underlying t = some .string)
    (hv : Value.okWide P W r b0 t v) (hd : DataW.Trod enc P W base sp held t v d ps) (hsz : ∀ bs, d = .lit (.string bs) → bs.length ≤ reachBytes) :
    ∃ s : List UInt8, v = .string ⟨s.toArray⟩ ∧ d = .lit (.string s) ∧ ps = [] ∧ s.length ≤ 140737488351232 := by
  obtain ⟨s, rfl, rfl, rfl, _⟩ := ChangeMaps.open_string ht hv hd
  refine ⟨s.data.toList, rfl, rfl, rfl, ?_⟩
  have := hsz _ rfl
  simpa [reachBytes] using this
/-- The elements of an array of bytes. -/
theorem mapM_u8 {e : TypeId} {sp : Nat → Bool} {held : Bool} {base m : Nat} (he : P.underlying e = some (.int .u8)) {cs : List Value} {c : Nat} : ∀ (L : List Nat) (xs : List (DataW H × List MemPlace)),
    L.mapM (fun i => DataW.trod enc P W base sp held m e ((cs.drop (i * c)).take c)) = some xs → ∀ i ∈ L, ∃ n : Nat, n < 256 ∧ (cs.drop (i * c)).take c = [.int .u8 (n : Int)]
  | [], _, _ => fun _ h => by simp at h
  | i :: L, xs, h => by
    rw [List.mapM_cons] at h
    simp only [bind, Option.bind_eq_some_iff, pure, Option.some.injEq] at h
    obtain ⟨y, hy, ys, hys, rfl⟩ := h
    have ih := mapM_u8 he L ys hys
    obtain ⟨a, ea, rfl, wa⟩ := DataW.trod_int he hy
    have hb : 0 ≤ a ∧ a ≤ 255 := by simpa [Lit.wf, IntKind.min, IntKind.max, IntKind.signed, IntKind.bits] using wa
    intro j hj
    rcases List.mem_cons.mp hj with rfl | hj
    · exact ⟨a.toNat, by omega, by rw [ea]; congr 2; omega⟩
    · exact ih j hj

/-- n bytes by value. -/
abbrev arrN (n : Nat) (f : Nat → Nat) : Array Value := ((List.range n).map fun i => Value.int .u8 (f i : Int)).toArray

/-- An array of bytes among the arguments, opened. -/
theorem open_arr_u8 {t e : TypeId} {n : Nat} {v : Value} {d : DataW H} {ps : List MemPlace} {r : Reach} {b0 : Nat} {base : Nat} {sp : Nat → Bool} {held : Bool} (ht : P.underlying t = some (.array n e)) (he : P.underlying e = some (.int .u8)) (hc : P.cellsOf e = 1) (hn : P.cellsOf t = n)
    (hv : Value.okWide P W r b0 t v) (hd : DataW.Trod enc P W base sp held t v d ps) :
    ∃ f : Nat → Nat, v = .agg (arrN n f) ∧ ∀ i, i < n → f i < 256 := by
  simp only [Value.okWide, ht] at hv
  obtain ⟨cs, rfl, hsz, _⟩ := hv
  rw [hn] at hsz
  obtain ⟨fuel, hf⟩ := hd
  cases fuel with
  | zero => simp [DataW.trod] at hf
  | succ m =>
    unfold DataW.trod at hf
    rw [ht] at hf
    have e0 : (Value.agg cs).cells.toList.length = P.cellsOf t := by rw [hn]; simpa [Value.cells] using hsz
    dsimp only at hf
    rw [if_pos e0] at hf
    simp only [Value.cells, Option.map_eq_some_iff] at hf
    obtain ⟨ys, hy, _⟩ := hf
    have key := mapM_u8 he _ ys hy
    rw [hc] at key
    have key' : ∀ i (hi : i < n), ∃ k : Nat, k < 256 ∧ cs[i]? = some (.int .u8 (k : Int)) := by
      intro i hi
      obtain ⟨k, hk, e1⟩ := key i (List.mem_range.mpr hi)
      refine ⟨k, hk, ?_⟩
      have hl : i < cs.toList.length := by simpa [hsz] using hi
      have e2 : cs.toList[i]? = some (.int .u8 (k : Int)) := by
        have : ((cs.toList.drop (i * 1)).take 1)[0]? = some (Value.int .u8 (k : Int)) := by rw [e1]; rfl
        simpa using this
      simpa using e2
    refine ⟨fun i => match cs[i]? with | some (.int _ a) => a.toNat | _ => 0, ?_, ?_⟩
    · congr 1
      apply Array.ext_getElem?
      intro i
      by_cases hi : i < n
      · obtain ⟨k, hk, e1⟩ := key' i hi
        simp [e1, hi]
      · have : cs.size ≤ i := by omega
        simp [Array.getElem?_eq_none this, hi]
    · intro i hi
      obtain ⟨k, hk, e1⟩ := key' i hi
      simp [e1, hk]
end

theorem Try.own : ownKnob Try.prog.godebug = none := by kernel_rfl
theorem Try.laidOut : laidOutB Try.prog = true := by kernel_rfl
theorem Try.cellsU8 : Try.prog.cellsOf 5 = 1 := by kernel_rfl
theorem Try.bytesU8 : Try.prog.bytesOf 5 = 1 := by kernel_rfl
end Go.Proofs.Ytajplflefagbaaa
