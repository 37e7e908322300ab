/-
  Several texts in one:
  Texts filled up, as the document does it (layer 4).
  An append of a row of no length leaves the value as it was; of any owned row it lays the cells behind.
-/
import Derived.Test.YtkfmgjipocmkjaaGhC
import Derived.Test.YtkfmgjipocmkjaaFoldA
import Derived.Deep.AppendLies
namespace Go.Proofs.Ytkfmgjipocmkjaa
open Go Go.RowKit
set_option linter.unusedVariables false
set_option linter.unusedSimpArgs false

/-- How many noughts fill n bytes up. -/
def lackN (n : Nat) : Nat := (16 - n % 16) % 16
def fullN (l : List Nat) : List Nat := l ++ List.replicate (lackN l.length) 0
theorem fullN_len (l : List Nat) : (fullN l).length = l.length + lackN l.length := by simp [fullN]
theorem fullN_mod (l : List Nat) : (fullN l).length % 16 = 0 := by rw [fullN_len]; unfold lackN; omega
def slen : Value → Nat
  | .slice _ n _ => n
  | _ => 0
theorem nums_one (l : List Nat) : ∀ v ∈ vn l, v.oneCell' = true := by
  intro v hv
  simp only [vn, List.mem_map] at hv
  obtain ⟨b, _, rfl⟩ := hv
  rfl
theorem rep_snoc (k : Nat) : List.replicate (k + 1) 0 = List.replicate k 0 ++ [(0 : Nat)] := by rw [List.replicate_succ']

set_option maxRecDepth 100000 in
set_option maxHeartbeats 1000000 in
theorem gfull_any (A : Option Addr) (l : List Nat) (n cap : Nat) (hn : l.length = n) (hle : n ≤ 1000000) (w : World) (h : Rd w w.heap.size A (vn l)) :
    Calls Try.prog 60 #[.slice A n cap] w fun e w' => ∃ v, e = .returned v ∧ w'.ownsRow w.heap.size 5 1 v (n + lackN n) (vn (fullN l)) ∧ Below w.heap.size w w' := by
  obtain ⟨i0, hi0, hz0, hz1, hz2⟩ := info_parts info_b
  have HI0 := Lib.hid hi0; clear hi0
  have HC := Lib.hid (copyv_any A (vn l) n cap (by rw [vn_len]; exact hn) (nums_one l) w (by omega) h)
  have HN := Lib.hid hn; clear hn h
  have hK : lackN n < 16 := by unfold lackN; omega
  obtain ⟨K, hKe⟩ : ∃ K, K = lackN n := ⟨_, rfl⟩
  rw [← hKe] at hK
  have HK := Lib.hid hKe
  rw [← hKe]
  clear hKe
  go_enter Try.func60, Try.ntmps60
  go_wp2_with fail
  refine HC.out.mono ?_
  rintro e w1 ⟨v, rfl, hown, hb1⟩
  clear HC
  go_wp2_with fail
  go_loopw [3] (fun v wr => ∃ k c : Nat, ∃ A' : Option Addr, k ≤ K ∧ v = .slice A' (n + k) c ∧ Hid (wr.ownsRow w.heap.size 5 1 (.slice A' (n + k) c) (n + k) (vn (l ++ List.replicate k 0))) ∧ Hid (Below w.heap.size w wr)) (fun v _ => n + K - slen v)
  case atStart =>
    obtain ⟨A', c, rfl, _, _⟩ := Rd.of_own hown
    exact ⟨0, c, A', by omega, rfl, Lib.hid (by simpa using hown), Lib.hid hb1⟩
  case round =>
    clear hown hb1
    obtain ⟨k, c, A', hk, rfl, HT, HB⟩ := hrel
    obtain ⟨L, hL⟩ : ∃ L, L = n + k := ⟨_, rfl⟩
    have hmod : L % 16 = 0 ↔ ¬ k < K := by have := HK.out; unfold lackN at this; omega
    rw [← hL] at HT
    rw [← hL]
    have hL1 : (L : Int) ≤ 1000100 := by omega
    have hL0 : (0 : Int) ≤ (L : Int) := by omega
    have hLn : L ≤ 1000100 := by omega
    have HLL := Lib.hid hL; clear hL
    by_cases hlt : k < K
    · have e1 : ((L : Int) % 16 != 0) = true := by
        have : ¬ L % 16 = 0 := fun h => hmod.mp h hlt
        simp; omega
      have HM := Lib.hid hmod; clear hmod
      have hi0 := HI0.out
      have hT := HT.out
      have hsz := HB.out.size
      go_wp2_with (at_builtin; go_loud (refine wpList_append_lies _ rfl (.tmp 10) (.tmp 11) _ rfl w.heap.size 5 i0 _ 1 1 Try.underlying22 hi0 hz0 hz1 hz2 rfl (by omega) (.slice A' L c) L _ rfl (hT.alloc _) ⟨_, 0, none⟩ 1 1 [.int .u8 0] rfl rfl (World.news_of_block (cs := #[.int .u8 0]) (t := 5) (fr := (0, 0)) (heap_alloc_new _ _)) (by simp [Value.oneCell']) (by omega) (by unfold maxLen; omega) (by omega) (by simp; omega) (wr.heap.size + 1) (by simp) ?_; intro gg cap2 w2 hown2 hgrow hat hlt2))
      have HOW : Hid (w2.ownsRow w.heap.size 5 1 (.slice (some ⟨gg, 0, none⟩) (n + (k + 1)) cap2) (n + (k + 1)) (vn (l ++ List.replicate (k + 1) 0))) := Lib.hid (by
        have hL := HLL.out
        rw [show n + (k + 1) = L + 1 from by omega, rep_snoc, ← List.append_assoc]
        simpa [vn] using hown2)
      have HB2 : Hid (Below w.heap.size w w2) := Lib.hid ((HB.out.alloc hsz _).grown hgrow (by simp; omega) (fun k hk => (hT.lt k hk).1))
      rw [show L + 1 = n + (k + 1) from by have := HLL.out; omega]
      go_roundw
      case rel => exact ⟨k + 1, cap2, some ⟨gg, 0, none⟩, by omega, rfl, HOW, HB2⟩
      case measure => have := HLL.out; simp [slen]; omega
    · have e1 : ((L : Int) % 16 != 0) = false := by
        have : L % 16 = 0 := hmod.mpr hlt
        simp; omega
      have HM := Lib.hid hmod; clear hmod
      have hLK : L = n + K := by have := HLL.out; omega
      have HOW : Hid (wr.ownsRow w.heap.size 5 1 (.slice A' L c) (n + K) (vn (fullN l))) := Lib.hid (by
        have e := HT.out
        rw [hLK] at e
        have hkK : k = K := by omega
        rw [hkK] at e
        unfold fullN
        rw [HN.out, ← HK.out, hLK]
        exact e)
      clear hLK
      go_wp2_with fail
      go_ret
      exact ⟨_, rfl, HOW.out, HB.out⟩
end Go.Proofs.Ytkfmgjipocmkjaa
namespace Go.Proofs.Ytkfmgjipocmkjaa
open Go Go.RowKit
set_option linter.unusedVariables false
set_option linter.unusedSimpArgs false

theorem append_none_run {P : Program} {w : World} {base e : Nat} {t ty : TypeId} {i : TypeInfo} (ht : P.underlying t = some (.slice e)) (hi : P.info? e = some i) {v : Value} {n : Nat} {xs : List Value} (hown : w.ownsRow base e 1 v n xs) (A : Option Addr) (c : Nat) :
    (Builtin.append_ #[t, t] ty #[v, .slice A 0 c]).run P w = .ok v w := by
  have hl : ∀ ad : Addr, (loadCells ad 0).run P w = .ok #[] w := fun ad => by
    have := run_loadCells_list (P := P) w ad [] (fun j v hj => by simp at hj)
    simpa using this
  rcases hown.2 with ⟨rfl, rfl⟩ | ⟨g, cap, cur, rfl, _, _, hnc, _⟩
  · cases A <;> simp [Builtin.append_, run_underlying ht, sizeOf, typeInfo, hi, Builtin.lenOf, Builtin.firstCells, hl, storeCells]
  · cases A <;> simp [Builtin.append_, run_underlying ht, sizeOf, typeInfo, hi, Builtin.lenOf, Builtin.firstCells, hnc, hl, storeCells]

/-- append(v, xs...), xs whatever: the value is owned again, and no older memory is written. -/
theorem wpList_append_all {P : Program} {w : World} {ops : Array Oper} {rest : List Oper} {o : Oper} {a : Act} {Q : Exit → Act → World → Prop} (hg : o.guard = none) (s x : Operand) (t : TypeId)
    (ho : o.op = .call { callee := .builtin .append, args := #[s, x], argTypes := #[t, t] }) (base e : Nat) (i : TypeInfo) (z : Value) (bytes : Nat) (ht : P.underlying t = some (.slice e)) (hi : P.info? e = some i) (hz : i.zero = some z)
    (hsize : i.size = 1) (hby : i.bytes = bytes) (hzs : z.cells.size = 1) (v : Value) (n : Nat) (xs : List Value) (hs : a.eval s = v) (hown : w.ownsRow base e 1 v n xs)
    (A : Option Addr) (m c : Nat) (news : List Value) (hx : a.eval x = .slice A m c) (hl : news.length = m) (hR : Rd w w.heap.size A news) (h1 : ∀ u ∈ news, u.oneCell' = true)
    (h63 : n + m ≤ maxLen) (hbytes : (n + m) * bytes ≤ 140737488355328) (hbase : base ≤ w.heap.size)
    (h : ∀ v' w', Hid (w'.ownsRow base e 1 v' (n + m) (xs ++ news)) → Hid (Below base w w') → Hid (w.grownBy w' v.ownBlock) → wpList P ops Q rest (a.put o.dst v') w') : wpList P ops Q (o :: rest) a w := by
  by_cases h0 : m = 0
  · subst h0
    obtain rfl : news = [] := List.eq_nil_of_length_eq_zero hl
    refine wpList_plain hg fun K hK => ?_
    have hrun := append_none_run (P := P) (w := w) (ty := o.type) ht hi hown A c
    unfold Oper.wp
    simp [execOp, ho, resolve, invoke, builtin, hs, hx, hrun, Result.andThen]
    exact hK _ _ (h v w (Lib.hid (by simpa using hown)) (Lib.hid (Below.refl _ _)) (Lib.hid ⟨rfl, rfl, rfl, Nat.le_refl _, fun _ _ _ => rfl⟩))
  · obtain ⟨ad, rfl, _, hc⟩ := hR (by omega)
    refine wpList_append_lies w hg s x t ho base e i z 1 bytes ht hi hz hsize hby hzs (by omega) v n xs hs hown ad m c news hx (by omega) hc h1 (by omega) h63 hbytes hbase w.heap.size rfl ?_
    intro g cap w' hown' hgrow _ _
    exact h _ w' (Lib.hid hown') (Lib.hid ((Below.refl base w).grown hgrow hbase (fun k hk => (hown.lt k hk).1))) (Lib.hid hgrow)
end Go.Proofs.Ytkfmgjipocmkjaa
