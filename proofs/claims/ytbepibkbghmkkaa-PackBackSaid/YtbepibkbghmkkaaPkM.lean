/-
  Numbers and texts one behind the other are read as they were; cut, they end too early: plain (layer 7, PackBack).
-/
import Derived.Test.YtbepibkbghmkkaaPkH
namespace Go.Proofs.Ytbepibkbghmkkaa
open Go Go.RowKit
set_option linter.unusedVariables false
set_option linter.unusedSimpArgs false

/-- The first things' bytes. -/
def bb (it : Nat → List Nat) : Nat → List Nat
  | 0 => []
  | i + 1 => bb it i ++ it i
theorem bb_split (it : Nat → List Nat) (i k : Nat) : ∃ r, bb it (i + 1 + k) = bb it i ++ (it i ++ r) := by
  induction k with
  | zero => exact ⟨[], by simp [bb]⟩
  | succ k ih =>
    obtain ⟨r, h⟩ := ih
    exact ⟨r ++ it (i + 1 + k), by
      show bb it (i + 1 + k) ++ it (i + 1 + k) = _
      rw [h]; simp⟩
theorem bb_at (it : Nat → List Nat) {i m : Nat} (h : i < m) : ∃ r, bb it m = bb it i ++ (it i ++ r) := by
  obtain ⟨k, rfl⟩ : ∃ k, m = i + 1 + k := ⟨m - (i + 1), by omega⟩
  exact bb_split it i k
theorem bb_lenS (it : Nat → List Nat) (i : Nat) : (bb it (i + 1)).length = (bb it i).length + (it i).length := by
  show (bb it i ++ it i).length = _
  rw [List.length_append]
theorem bb_le (it : Nat → List Nat) (m : Nat) (h : ∀ i, i < m → (it i).length ≤ 210) : (bb it m).length ≤ 210 * m := by
  induction m with
  | zero => simp [bb]
  | succ m ih =>
    have h1 := ih fun i hi => h i (by omega)
    have h2 := h m (by omega)
    rw [bb_lenS]
    omega
theorem bb_mono (it : Nat → List Nat) {i m : Nat} (h : i ≤ m) : (bb it i).length ≤ (bb it m).length := by
  rcases Nat.lt_or_eq_of_le h with h | rfl
  · obtain ⟨r, e⟩ := bb_at it h
    rw [e, List.length_append]
    omega
  · exact Nat.le_refl _
theorem bb_lt (it : Nat → List Nat) (m : Nat) (h : ∀ i, i < m → ∀ x ∈ it i, x < 256) : ∀ x ∈ bb it m, x < 256 := by
  induction m with
  | zero => simp [bb]
  | succ m ih =>
    intro x hx
    rcases List.mem_append.1 (show x ∈ bb it m ++ it m from hx) with hx | hx
    · exact ih (fun i hi => h i (by omega)) x hx
    · exact h m (by omega) x hx
theorem bb_congr {it it' : Nat → List Nat} (m : Nat) (h : ∀ i, i < m → it i = it' i) : bb it m = bb it' m := by
  induction m with
  | zero => rfl
  | succ m ih =>
    show bb it m ++ it m = bb it' m ++ it' m
    rw [ih fun i hi => h i (by omega), h m (by omega)]

theorem drop_pre (p q : List Nat) : (p ++ q).drop p.length = q := by simp
/-- Whole: read as it was. -/
theorem rdNum_whole (p r : List Nat) (v : Nat) (hv : v < 18446744073709551616) : rdNum (p ++ (leb v ++ r)) p.length 0 = (v, p.length + (leb v).length, 0) := by
  unfold rdNum
  rw [if_neg (by omega), drop_pre, tk_leb v hv r]
theorem rdText_whole (p t r : List Nat) (ht : t.length ≤ 200) : rdText (p ++ (leb t.length ++ t ++ r)) p.length 0 200 = (t, p.length + (leb t.length ++ t).length, 0) := by
  have e : p ++ (leb t.length ++ t ++ r) = p ++ (leb t.length ++ (t ++ r)) := by simp
  have hk : tk ((p ++ (leb t.length ++ t ++ r)).drop p.length) = (t.length, (leb t.length).length, 0) := by
    rw [e, drop_pre, tk_leb t.length (by omega)]
  have hE : rdE (p ++ (leb t.length ++ t ++ r)) p.length 200 = 0 := by
    unfold rdE
    rw [hk]
    show txE 200 t.length _ 0 = 0
    unfold txE
    rw [if_neg (by omega), if_neg (by omega), if_neg]
    simp only [List.length_append]
    omega
  unfold rdText
  rw [if_neg (by omega), if_neg (by omega), hk]
  show (List.take t.length (List.drop (p.length + (leb t.length).length) _), p.length + (leb t.length).length + t.length, 0) = _
  have hd : (p ++ (leb t.length ++ t ++ r)).drop (p.length + (leb t.length).length) = t ++ r := by
    have e2 : p ++ (leb t.length ++ t ++ r) = (p ++ leb t.length) ++ (t ++ r) := by simp
    rw [e2, ← List.length_append, drop_pre]
  rw [hd, List.take_left, List.length_append, Nat.add_assoc]
/-- Cut: it ends too early. -/
theorem rdNum_cut (p : List Nat) (v k : Nat) (hv : v < 18446744073709551616) (hk : k < (leb v).length) : rdNum (p ++ (leb v).take k) p.length 0 = (0, p.length, 4) := by
  unfold rdNum
  rw [if_neg (by omega), drop_pre, tk_short v hv k hk]; rfl
theorem rdText_cut (p t : List Nat) (k : Nat) (ht : t.length ≤ 200) (hk : k < (leb t.length ++ t).length) : rdText (p ++ (leb t.length ++ t).take k) p.length 0 200 = ([], p.length, 4) := by
  have hE : rdE (p ++ (leb t.length ++ t).take k) p.length 200 = 4 := by
    unfold rdE
    rw [drop_pre]
    by_cases h : k < (leb t.length).length
    · have e : (leb t.length ++ t).take k = (leb t.length).take k := List.take_append_of_le_length (by omega)
      rw [e, tk_short t.length (by omega) k h]
      rfl
    · have e : (leb t.length ++ t).take k = leb t.length ++ t.take (k - (leb t.length).length) := by
        rw [List.take_append, List.take_of_length_le (by omega)]
      rw [e, tk_leb t.length (by omega)]
      show txE 200 t.length _ 0 = 4
      unfold txE
      rw [List.length_append] at hk
      rw [if_neg (by omega), if_neg (by omega), if_pos]
      simp only [List.length_append, List.length_take]
      omega
  unfold rdText
  rw [if_neg (by omega), if_pos (by rw [hE]; decide), hE]
theorem cut_whole (p q r : List Nat) (n : Nat) (h : p.length + q.length ≤ n) : (p ++ (q ++ r)).take n = p ++ (q ++ r.take (n - (p.length + q.length))) := by
  rw [List.take_append, List.take_of_length_le (by omega), List.take_append, List.take_of_length_le (by omega)]
  congr 3
  omega
theorem cut_in (p q r : List Nat) (n : Nat) (h1 : p.length ≤ n) (h2 : n < p.length + q.length) : (p ++ (q ++ r)).take n = p ++ q.take (n - p.length) := by
  rw [List.take_append, List.take_of_length_le (by omega), List.take_append_of_le_length (by omega)]

/-- Where the reader of the cut bytes stands before thing i. -/
def SI (it : Nat → List Nat) (n i a f : Nat) : Prop := ((bb it i).length ≤ n ∧ a = (bb it i).length ∧ f = 0) ∨ (n < (bb it i).length ∧ f = 4 ∧ a ≤ n)
theorem SI.le {it : Nat → List Nat} {n i a f : Nat} (h : SI it n i a f) : a ≤ n := by
  rcases h with ⟨h, rfl, _⟩ | ⟨_, _, h⟩
  · exact h
  · exact h
theorem SI.num {it : Nat → List Nat} {n i m a f v : Nat} (h : SI it n i a f) (him : i < m) (hi : it i = leb v) (hv : v < 18446744073709551616) :
    ((bb it (i + 1)).length ≤ n → (rdNum ((bb it m).take n) a f).1 = v) ∧ SI it n (i + 1) (rdNum ((bb it m).take n) a f).2.1 (rdNum ((bb it m).take n) a f).2.2 := by
  obtain ⟨r, e⟩ := bb_at it him
  rw [hi] at e
  have hS := bb_lenS it i
  rw [hi] at hS
  rcases h with ⟨h, rfl, rfl⟩ | ⟨h, rfl, ha⟩
  · by_cases hw : (bb it (i + 1)).length ≤ n
    · rw [e, cut_whole _ _ _ _ (by omega), rdNum_whole _ _ v hv]
      exact ⟨fun _ => rfl, .inl ⟨hw, hS.symm, rfl⟩⟩
    · rw [e, cut_in _ _ _ _ h (by omega), rdNum_cut _ v _ hv (by omega)]
      exact ⟨fun h => absurd h hw, .inr ⟨by omega, rfl, h⟩⟩
  · have e4 : rdNum ((bb it m).take n) a 4 = (0, a, 4) := by unfold rdNum; rw [if_pos (by decide)]
    rw [e4]
    exact ⟨fun h => by omega, .inr ⟨by omega, rfl, ha⟩⟩
theorem SI.text {it : Nat → List Nat} {n i m a f : Nat} {t : List Nat} (h : SI it n i a f) (him : i < m) (hi : it i = leb t.length ++ t) (ht : t.length ≤ 200) :
    ((bb it (i + 1)).length ≤ n → (rdText ((bb it m).take n) a f 200).1 = t) ∧ SI it n (i + 1) (rdText ((bb it m).take n) a f 200).2.1 (rdText ((bb it m).take n) a f 200).2.2 := by
  obtain ⟨r, e⟩ := bb_at it him
  rw [hi] at e
  have hS := bb_lenS it i
  rw [hi] at hS
  rcases h with ⟨h, rfl, rfl⟩ | ⟨h, rfl, ha⟩
  · by_cases hw : (bb it (i + 1)).length ≤ n
    · rw [e, cut_whole _ _ _ _ (by omega), rdText_whole _ t _ ht]
      exact ⟨fun _ => rfl, .inl ⟨hw, hS.symm, rfl⟩⟩
    · rw [e, cut_in _ _ _ _ h (by omega), rdText_cut _ t _ ht (by omega)]
      exact ⟨fun h => absurd h hw, .inr ⟨by omega, rfl, h⟩⟩
  · have e4 : rdText ((bb it m).take n) a 4 200 = ([], a, 4) := by unfold rdText; rw [if_pos (by decide)]
    rw [e4]
    exact ⟨fun h => by omega, .inr ⟨by omega, rfl, ha⟩⟩
theorem SI.start (it : Nat → List Nat) (n : Nat) : SI it n 0 0 0 := .inl ⟨Nat.zero_le _, rfl, rfl⟩
theorem SI.fault {it : Nat → List Nat} {n i a f : Nat} (h : SI it n i a f) (hn : ¬ (bb it i).length ≤ n) : f = 4 := by
  rcases h with ⟨h, _⟩ | ⟨_, h, _⟩
  · exact absurd h hn
  · exact h
theorem whole_num {it : Nat → List Nat} {i m v : Nat} (him : i < m) (hi : it i = leb v) (hv : v < 18446744073709551616) : rdNum (bb it m) (bb it i).length 0 = (v, (bb it (i + 1)).length, 0) := by
  obtain ⟨r, e⟩ := bb_at it him
  rw [hi] at e
  rw [e, rdNum_whole _ _ v hv, bb_lenS, hi]
theorem whole_text {it : Nat → List Nat} {i m : Nat} {t : List Nat} (him : i < m) (hi : it i = leb t.length ++ t) (ht : t.length ≤ 200) : rdText (bb it m) (bb it i).length 0 200 = (t, (bb it (i + 1)).length, 0) := by
  obtain ⟨r, e⟩ := bb_at it him
  rw [hi] at e
  rw [e, rdText_whole _ t _ ht, bb_lenS, hi]
end Go.Proofs.Ytbepibkbghmkkaa
