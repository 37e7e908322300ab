/-
  The landed code's device (layer 8): slices.Clone of blocks and of writes that wait.
-/
import Derived.Test.YtajplflefagbaaaDcF
import Derived.Deep.AppendLies
import Derived.Lib.SliceRun
namespace Go.Proofs.Ytajplflefagbaaa
open Go Go.RowKit
set_option linter.unusedVariables false
set_option linter.unusedSimpArgs false

theorem append_none_runW {P : Program} {w : World} {base e sz : Nat} {t ty : TypeId} {i : TypeInfo} (ht : P.underlying t = some (.slice e)) (hi : P.info? e = some i) {v : Value} {n : Nat} {xs : List Value} (hown : w.ownsRow base e sz v n xs) (A : Option Addr) (c : Nat) :
    (Builtin.append_ #[t, t] ty #[v, .slice A 0 c]).run P w = .ok v w := by
  have hl : ∀ ad : Addr, (loadCells ad 0).run P w = .ok #[] w := fun ad => by
    have := run_loadCells_list (P := P) w ad [] (fun j v hj => by simp at hj)
    simpa using this
  rcases hown.2 with ⟨rfl, rfl⟩ | ⟨g, cap, cur, rfl, _, _, hnc, _⟩
  · cases A <;> simp [Builtin.append_, run_underlying ht, sizeOf, typeInfo, hi, Builtin.lenOf, Builtin.firstCells, hl, storeCells]
  · cases A <;> simp [Builtin.append_, run_underlying ht, sizeOf, typeInfo, hi, Builtin.lenOf, Builtin.firstCells, hnc, hl, storeCells]
/-- append(v, xs...), of elements of any size. -/
theorem wpList_append_allW {P : Program} {w : World} {ops : Array Oper} {rest : List Oper} {o : Oper} {a : Act} {Q : Exit → Act → World → Prop} (hg : o.guard = none) (s x : Operand) (t : TypeId)
    (ho : o.op = .call { callee := .builtin .append, args := #[s, x], argTypes := #[t, t] }) (base e : Nat) (i : TypeInfo) (z : Value) (sz bytes : Nat) (ht : P.underlying t = some (.slice e)) (hi : P.info? e = some i) (hz : i.zero = some z)
    (hsize : i.size = sz) (hby : i.bytes = bytes) (hzs : z.cells.size = sz) (hpos : 0 < sz) (v : Value) (n : Nat) (xs : List Value) (hs : a.eval s = v) (hown : w.ownsRow base e sz v n xs)
    (A : Option Addr) (m c : Nat) (news : List Value) (hx : a.eval x = .slice A m c) (hl : news.length = m * sz) (hR : Rd w w.heap.size A news) (h1 : ∀ u ∈ news, u.oneCell' = true)
    (h63 : n + m ≤ maxLen) (hbytes : (n + m) * bytes ≤ 140737488355328) (hbase : base ≤ w.heap.size)
    (h : ∀ v' w', Hid (w'.ownsRow base e sz v' (n + m) (xs ++ news)) → Hid (Below base w w') → Hid (w.grownBy w' v.ownBlock) → wpList P ops Q rest (a.put o.dst v') w') : wpList P ops Q (o :: rest) a w := by
  by_cases h0 : m = 0
  · subst h0
    obtain rfl : news = [] := List.eq_nil_of_length_eq_zero (by simpa using hl)
    refine wpList_plain hg fun K hK => ?_
    have hrun := append_none_runW (P := P) (w := w) (ty := o.type) ht hi hown A c
    unfold Oper.wp
    simp [execOp, ho, resolve, invoke, builtin, hs, hx, hrun, Result.andThen]
    exact hK _ _ (h v w (Lib.hid (by simpa using hown)) (Lib.hid (Below.refl _ _)) (Lib.hid ⟨rfl, rfl, rfl, Nat.le_refl _, fun _ _ _ => rfl⟩))
  · obtain ⟨ad, rfl, _, hc⟩ := hR (by rw [hl]; exact Nat.mul_pos (by omega) hpos)
    refine wpList_append_lies w hg s x t ho base e i z sz bytes ht hi hz hsize hby hzs hpos v n xs hs hown ad m c news hx hl hc h1 (by omega) h63 hbytes hbase w.heap.size rfl ?_
    intro g cap w' hown' hgrow _ _
    exact h _ w' (Lib.hid hown') (Lib.hid ((Below.refl base w).grown hgrow hbase (fun k hk => (hown.lt k hk).1))) (Lib.hid hgrow)
theorem clblk_none (cap : Nat) (w : World) :
    Calls Try.prog 39 #[.slice none 0 cap] w fun e w' => e = .returned (.slice none 0 0) ∧ w' = w := by
  have hnil := fun W : World => Lib.run_eql_slice_nil W 60 67 none 0 cap 0 0 Try.underlying60
  go_enter Try.func39, Try.ntmps39
  go_wp2_with fail
  go_ret
  exact ⟨rfl, rfl⟩
theorem clblk_empty (w : World) : (w.alloc (.cells #[] 67)).ownsRow w.heap.size 67 256 (.slice (some ⟨w.heap.size, 0, none⟩) 0 0) 0 [] :=
  World.ownsRow_made w #[] 0 (Nat.le_refl _) (by unfold maxLen; omega) (by simp)
set_option maxRecDepth 100000 in
set_option maxHeartbeats 8000000 in
theorem clblk_some (ad : Addr) (f : Nat → Value) (n cap : Nat) (hle : n ≤ 1000000) (hf : ∀ k, (f k).oneCell' = true) (w : World) (h : Rd w w.heap.size (some ad) (fl (n * 256) f)) :
    Calls Try.prog 39 #[.slice (some ad) n cap] w fun e w' => ∃ v, e = .returned v ∧ w'.ownsRow w.heap.size 67 256 v n (fl (n * 256) f) ∧ Below w.heap.size w w' := by
  obtain ⟨j0, hi, hz0, hz1, hz2⟩ := info_parts info_bk
  have hb1 : Below w.heap.size w (w.alloc (.cells #[] 67)) := (Below.refl _ _).alloc (Nat.le_refl _) _
  have H1 := Lib.hid (h.go hb1); clear h
  have HO := Lib.hid (clblk_empty w)
  have HB := Lib.hid hb1; clear hb1
  have HF := Lib.hid hf; clear hf
  have hnil := fun W : World => Lib.run_eql_slice_nil W 60 67 (some ad) n cap 0 0 Try.underlying60
  go_enter Try.func39, Try.ntmps39
  have sz := HB.out.size
  go_wp2_with (at_builtin; refine wpList_append_allW rfl (.tmp 5) (.tmp 6) 60 rfl w.heap.size 67 j0 (.agg z256) 256 256 Try.underlying60 hi hz0 hz1 hz2 (by show z256.size = 256; simp [fl_len]) (by omega) (.slice (some ⟨w.heap.size, 0, none⟩) 0 0) 0 [] rfl HO.out (some ad) n cap (fl (n * 256) f) rfl (fl_len _ _) H1.out (fun u hu => by obtain ⟨k, _, rfl⟩ := List.mem_map.1 hu; exact HF.out k) (by unfold maxLen; omega) (by omega) sz ?_; intro v3 w3 hown3 hb3 hgrow3)
  go_ret
  refine ⟨_, rfl, ?_, HB.out.trans hb3.out⟩
  simpa using hown3.out
theorem clblk_any (A : Option Addr) (f : Nat → Value) (n cap : Nat) (hle : n ≤ 1000000) (hf : ∀ k, (f k).oneCell' = true) (w : World) (h : Rd w w.heap.size A (fl (n * 256) f)) :
    Calls Try.prog 39 #[.slice A n cap] w fun e w' => ∃ v, e = .returned v ∧ w'.ownsRow w.heap.size 67 256 v n (fl (n * 256) f) ∧ Below w.heap.size w w' := by
  cases A with
  | some ad => exact clblk_some ad f n cap hle hf w h
  | none =>
    have h0 : n = 0 := by
      rcases Nat.eq_zero_or_pos n with e | e
      · exact e
      · obtain ⟨ad, e2, _⟩ := h (by rw [fl_len]; omega)
        cases e2
    subst h0
    refine (clblk_none cap w).mono ?_
    rintro e w' ⟨rfl, rfl⟩
    exact ⟨_, rfl, World.ownsRow_nil _ _ _ _, Below.refl _ _⟩
theorem clwr_none (cap : Nat) (w : World) :
    Calls Try.prog 40 #[.slice none 0 cap] w fun e w' => e = .returned (.slice none 0 0) ∧ w' = w := by
  have hnil := fun W : World => Lib.run_eql_slice_nil W 61 71 none 0 cap 0 0 Try.underlying61
  go_enter Try.func40, Try.ntmps40
  go_wp2_with fail
  go_ret
  exact ⟨rfl, rfl⟩
theorem clwr_empty (w : World) : (w.alloc (.cells #[] 71)).ownsRow w.heap.size 71 257 (.slice (some ⟨w.heap.size, 0, none⟩) 0 0) 0 [] :=
  World.ownsRow_made w #[] 0 (Nat.le_refl _) (by unfold maxLen; omega) (by simp)
set_option maxRecDepth 100000 in
set_option maxHeartbeats 8000000 in
theorem clwr_some (ad : Addr) (f : Nat → Value) (n cap : Nat) (hle : n ≤ 1000000) (hf : ∀ k, (f k).oneCell' = true) (w : World) (h : Rd w w.heap.size (some ad) (fl (n * 257) f)) :
    Calls Try.prog 40 #[.slice (some ad) n cap] w fun e w' => ∃ v, e = .returned v ∧ w'.ownsRow w.heap.size 71 257 v n (fl (n * 257) f) ∧ Below w.heap.size w w' := by
  obtain ⟨j0, hi, hz0, hz1, hz2⟩ := info_parts info_wr
  have hb1 : Below w.heap.size w (w.alloc (.cells #[] 71)) := (Below.refl _ _).alloc (Nat.le_refl _) _
  have H1 := Lib.hid (h.go hb1); clear h
  have HO := Lib.hid (clwr_empty w)
  have HB := Lib.hid hb1; clear hb1
  have HF := Lib.hid hf; clear hf
  have hnil := fun W : World => Lib.run_eql_slice_nil W 61 71 (some ad) n cap 0 0 Try.underlying61
  go_enter Try.func40, Try.ntmps40
  have sz := HB.out.size
  go_wp2_with (at_builtin; refine wpList_append_allW rfl (.tmp 5) (.tmp 6) 61 rfl w.heap.size 71 j0 (.agg (wC 0 fun _ => .int .u8 0)) 257 264 Try.underlying61 hi hz0 hz1 hz2 (wC_size _ _) (by omega) (.slice (some ⟨w.heap.size, 0, none⟩) 0 0) 0 [] rfl HO.out (some ad) n cap (fl (n * 257) f) rfl (fl_len _ _) H1.out (fun u hu => by obtain ⟨k, _, rfl⟩ := List.mem_map.1 hu; exact HF.out k) (by unfold maxLen; omega) (by omega) sz ?_; intro v3 w3 hown3 hb3 hgrow3)
  go_ret
  refine ⟨_, rfl, ?_, HB.out.trans hb3.out⟩
  simpa using hown3.out
theorem clwr_any (A : Option Addr) (f : Nat → Value) (n cap : Nat) (hle : n ≤ 1000000) (hf : ∀ k, (f k).oneCell' = true) (w : World) (h : Rd w w.heap.size A (fl (n * 257) f)) :
    Calls Try.prog 40 #[.slice A n cap] w fun e w' => ∃ v, e = .returned v ∧ w'.ownsRow w.heap.size 71 257 v n (fl (n * 257) f) ∧ Below w.heap.size w w' := by
  cases A with
  | some ad => exact clwr_some ad f n cap hle hf w h
  | none =>
    have h0 : n = 0 := by
      rcases Nat.eq_zero_or_pos n with e | e
      · exact e
      · obtain ⟨ad, e2, _⟩ := h (by rw [fl_len]; omega)
        cases e2
    subst h0
    refine (clwr_none cap w).mono ?_
    rintro e w' ⟨rfl, rfl⟩
    exact ⟨_, rfl, World.ownsRow_nil _ _ _ _, Below.refl _ _⟩
end Go.Proofs.Ytajplflefagbaaa
