/-
  What was synced, plain: rows whose sectors are whole, out of given bytes (layer 8).
-/
import Derived.Test.YtajplflefagbaaaDkZ
namespace Go.Proofs.Ytajplflefagbaaa
open Go Go.RowKit
set_option linter.unusedVariables false
set_option linter.unusedSimpArgs false

/-- A row whose sectors are of one byte each, out of S. -/
structure Sec (S : UInt8 → Prop) (row : List UInt8) : Prop where
  len : row.length = 256
  uni : ∀ k, k < 256 → row.getD k 0 = row.getD (k / 64 * 64) 0
  mem : ∀ k, k < 256 → S (row.getD k 0)
theorem Sec.full (x : UInt8) (S : UInt8 → Prop) (h : S x) : Sec S (fullB x) := ⟨fullB_len x, fun k hk => by rw [fullB_at x k hk, fullB_at x _ (by omega)], fun k hk => by rw [fullB_at x k hk]; exact h⟩
theorem Sec.more {S T : UInt8 → Prop} {row : List UInt8} (h : Sec S row) (hS : ∀ x, S x → T x) : Sec T row := ⟨h.len, h.uni, fun k hk => hS _ (h.mem k hk)⟩
theorem Sec.crash {S : UInt8 → Prop} {row : List UInt8} (h : Sec S row) (m : Nat) (x : UInt8) (hx : S x) : Sec S (crL8 m row (fullB x)) := by
  refine ⟨crL8_len _ _ _, fun k hk => ?_, fun k hk => ?_⟩
  · rw [crL8_at _ _ _ k hk, crL8_at _ _ _ _ (by omega), show k / 64 * 64 / 64 = k / 64 from by omega, fullB_at x k hk, fullB_at x _ (by omega)]
    split
    · rfl
    · exact h.uni k hk
  · rw [crL8_at _ _ _ k hk]
    split
    · rw [fullB_at x k hk]; exact hx
    · exact h.mem k hk
/-- The writes of the first j ops: where, and of what byte. -/
def wrL (K : Nat → Nat) (X : Nat → UInt8) (j : Nat) : List (Nat × List UInt8) := (List.range j).map fun t => (K t, fullB (X t))
theorem wrL_len (K : Nat → Nat) (X : Nat → UInt8) (j : Nat) : (wrL K X j).length = j := by simp [wrL]
theorem wrL_succ (K : Nat → Nat) (X : Nat → UInt8) (j : Nat) : wrL K X (j + 1) = wrL K X j ++ [(K j, fullB (X j))] := by simp [wrL, List.range_succ]
theorem wrL_at (K : Nat → Nat) (X : Nat → UInt8) (j t : Nat) (h : t < j) : (wrL K X j).getD t (0, []) = (K t, fullB (X t)) := by simp [wrL, List.getD_eq_getElem?_getD, h]
/-- The bytes that were written to block i since. -/
def sinceL (K : Nat → Nat) (X : Nat → UInt8) (j i : Nat) : List UInt8 := ((List.range j).filter fun t => K t == i).map X
theorem sinceL_zero (K : Nat → Nat) (X : Nat → UInt8) (i : Nat) : sinceL K X 0 i = [] := rfl
theorem sinceL_succ (K : Nat → Nat) (X : Nat → UInt8) (j i : Nat) : sinceL K X (j + 1) i = if K j = i then sinceL K X j i ++ [X j] else sinceL K X j i := by
  unfold sinceL
  rw [List.range_succ, List.filter_append, List.map_append]
  by_cases h : K j = i
  · rw [if_pos h]; simp [h]
  · rw [if_neg h]; simp [h]
theorem sinceL_len (K : Nat → Nat) (X : Nat → UInt8) (j i : Nat) : (sinceL K X j i).length ≤ j := by
  unfold sinceL
  rw [List.length_map]
  exact Nat.le_trans (List.length_filter_le _ _) (by simp)
theorem sinceL_mem (K : Nat → Nat) (X : Nat → UInt8) (j i t : Nat) (ht : t < j) (hk : K t = i) : X t ∈ sinceL K X j i := by
  unfold sinceL
  exact List.mem_map.2 ⟨t, List.mem_filter.2 ⟨List.mem_range.2 ht, by simp [hk]⟩, rfl⟩
/-- Behind a crash each sector is what it was, or that of one of the writes since. -/
theorem crN_sec (K : Nat → Nat) (X : Nat → UInt8) (ms : List Nat) (F : List (List UInt8)) (f : Nat → UInt8) (hF : ∀ i, i < 8 → F.getD i [] = fullB (f i)) (hl : F.length = 8) (hK : ∀ t, K t < 8) (j : Nat) :
    ∀ k, k ≤ j → ∀ i, i < 8 → Sec (fun y => y = f i ∨ y ∈ sinceL K X j i) ((crN (wrL K X j) ms F k).getD i [])
  | 0, _, i, hi => by rw [crN, hF i hi]; exact Sec.full _ _ (.inl rfl)
  | k + 1, hk, i, hi => by
    have ih := crN_sec K X ms F f hF hl hK j k (by omega)
    rw [crN, wrL_at K X j k (by omega), getD_set, crN_len, hl]
    by_cases e : i = K k
    · subst e
      rw [if_pos ⟨rfl, hK k⟩]
      exact (ih (K k) (hK k)).crash _ _ (.inr (sinceL_mem K X j (K k) k (by omega) rfl))
    · rw [if_neg (fun h => e h.1)]; exact ih i hi
theorem crF_sec (K : Nat → Nat) (X : Nat → UInt8) (ms : List Nat) (F : List (List UInt8)) (f : Nat → UInt8) (hF : ∀ i, i < 8 → F.getD i [] = fullB (f i)) (hl : F.length = 8) (hK : ∀ t, K t < 8) (j i : Nat) (hi : i < 8) :
    Sec (fun y => y = f i ∨ y ∈ sinceL K X j i) ((crF (wrL K X j) ms F).getD i []) := by
  rw [crF_N, wrL_len]
  exact crN_sec K X ms F f hF hl hK j _ (Nat.min_le_left _ _) i hi
/-- The device while the first ops are written: what it tells is f's. -/
structure SI1 (j : Nat) (f : Nat → UInt8) (D : Dev) : Prop where
  ci : CI 0 j D
  now : ∀ i, i < 8 → D.now.getD i [] = fullB (f i)
theorem SI1.start : SI1 0 (fun _ => 0) (Dev.new 8) := ⟨CI.start, fun i hi => by show (List.replicate 8 zeroB).getD i [] = _; rw [getD_rep _ _ _ _ hi]; rfl⟩
def updB (f : Nat → UInt8) (i : Nat) (x : UInt8) : Nat → UInt8 := fun j => if j = i then x else f j
theorem SI1.write {j : Nat} {f : Nat → UInt8} {D : Dev} (h : SI1 j f D) (k : Nat) (hk : hasB 8 (k : Int) = true) (x : UInt8) : SI1 (j + 1) (updB f k x) (D.write 8 (k : Int) (fullB x)) ∧ D.writeE 8 (k : Int) (fullB x) = 0 := by
  obtain ⟨h1, h2⟩ := h.ci.write k hk (fullB x) (fullB_len x)
  refine ⟨⟨h1, fun i hi => ?_⟩, h2⟩
  have hk8 : k < 8 := by have := (hasB_iff 8 (k : Int)).1 hk; omega
  have e1 : (D.write 8 (k : Int) (fullB x)).now = D.now.set k (fullB x) := by
    unfold Dev.write
    rw [if_pos ⟨hk, fullB_len x⟩, if_pos h.ci.stepE, h.ci.step]
    rfl
  rw [e1, getD_set, h.ci.ok.nl]
  unfold updB
  by_cases e : i = k
  · subst e; rw [if_pos ⟨rfl, hi⟩, if_pos rfl]
  · rw [if_neg (fun hh => e hh.1), if_neg e]; exact h.now i hi
/-- The device while the ops since are written. -/
structure SI2 (j : Nat) (K : Nat → Nat) (X : Nat → UInt8) (f : Nat → UInt8) (D : Dev) : Prop where
  ci : CI 1000 j D
  firm : ∀ i, i < 8 → D.firm.getD i [] = fullB (f i)
  wts : D.waits = wrL K X j
theorem SI1.sync {j : Nat} {f : Nat → UInt8} {D : Dev} (h : SI1 j f D) (K : Nat → Nat) (X : Nat → UInt8) (hj : j ≤ 400) : SI2 0 K X f D.sync := by
  have e1 : D.sync = { D with steps := (D.steps + 1) % 18446744073709551616, firm := D.now, waits := [] } := by
    unfold Dev.sync
    rw [if_pos h.ci.stepE, h.ci.step]
  have hc : CI 1000 0 D.sync := h.ci.syncAt (by have := h.ci.s; omega)
  rw [e1] at hc ⊢
  exact ⟨⟨hc.f, hc.c, hc.d, Nat.le_refl _, hc.e, hc.ok, hc.s⟩, h.now, rfl⟩
theorem SI2.write {j : Nat} {K : Nat → Nat} {X f : Nat → UInt8} {D : Dev} (h : SI2 j K X f D) (hk : hasB 8 (K j : Int) = true) : SI2 (j + 1) K X f (D.write 8 (K j : Int) (fullB (X j))) ∧ D.writeE 8 (K j : Int) (fullB (X j)) = 0 := by
  obtain ⟨h1, h2⟩ := h.ci.write (K j) hk (fullB (X j)) (fullB_len _)
  have e1 : D.write 8 (K j : Int) (fullB (X j)) = { D with steps := (D.steps + 1) % 18446744073709551616, now := D.now.set (K j) (fullB (X j)), waits := D.waits ++ [(K j, fullB (X j))] } := by
    unfold Dev.write
    rw [if_pos ⟨hk, fullB_len _⟩, if_pos h.ci.stepE, h.ci.step]
    rfl
  refine ⟨⟨h1, ?_, ?_⟩, h2⟩
  · rw [e1]; exact h.firm
  · rw [e1, wrL_succ, ← h.wts]
/-- What is read behind the crash. -/
theorem SI2.read {j : Nat} {K : Nat → Nat} {X f : Nat → UInt8} {D : Dev} (h : SI2 j K X f D) (hK : ∀ t, K t < 8) (ms : List Nat) (i : Nat) (hi : i < 8) :
    (D.crash ms).readE 8 (i : Int) = 0 ∧ Sec (fun y => y = f i ∨ y ∈ sinceL K X j i) ((D.crash ms).readB 8 (i : Int)) := by
  have hh : hasB 8 (i : Int) = true := (hasB_iff 8 _).2 ⟨by omega, by omega⟩
  have r : (D.crash ms).readE 8 (i : Int) = 0 := by unfold Dev.readE; rw [if_pos hh]; rfl
  refine ⟨r, ?_⟩
  unfold Dev.readB
  rw [if_pos r]
  show Sec _ ((crF D.waits ms D.firm).getD i [])
  rw [h.wts]
  exact crF_sec K X ms D.firm f h.firm h.ci.ok.fl hK j i hi
/-- The test of a byte against the first t of the bytes since. -/
def okS (b c fb : UInt8) (l : List UInt8) (t : Nat) : Bool := (b == fb && b == c) || (l.take t).any fun x => b == x && c == x
theorem okS_succ (b c fb : UInt8) (l : List UInt8) (t : Nat) (h : t < l.length) : okS b c fb l (t + 1) = (okS b c fb l t || (b == l.getD t 0 && c == l.getD t 0)) := by
  unfold okS
  rw [List.take_succ_eq_append_getElem h, List.any_append, List.getD_eq_getElem?_getD, List.getElem?_eq_getElem h]
  simp [Bool.or_assoc]
theorem okS_all (b c fb : UInt8) (l : List UInt8) (hu : b = c) (hm : b = fb ∨ b ∈ l) : okS b c fb l l.length = true := by
  subst hu
  unfold okS
  rw [List.take_of_length_le (Nat.le_refl _)]
  rcases hm with rfl | hm
  · simp
  · simp only [Bool.or_eq_true, List.any_eq_true]
    exact .inr ⟨b, hm, by simp⟩
end Go.Proofs.Ytajplflefagbaaa
