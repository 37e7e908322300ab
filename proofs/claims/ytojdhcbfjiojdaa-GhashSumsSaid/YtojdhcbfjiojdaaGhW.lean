/-
  The hash of two texts as one list of blocks. Plain.
-/
import Derived.Test.YtojdhcbfjiojdaaGhQ
namespace Go.Proofs.Ytojdhcbfjiojdaa
open Go Go.RowKit
set_option linter.unusedVariables false
set_option linter.unusedSimpArgs false

theorem gfrom_zero (h a : Nat) (l : List Nat) : gfrom h a l 0 = a := rfl
theorem gfrom_succ (h a : Nat) (l : List Nat) (n : Nat) : gfrom h a l (n + 1) = hm (gfrom h a l n ^^^ hof (gblk l n)) h := by
  unfold gfrom; rw [List.range_succ, gpre_snoc]
theorem gfrom_congr (h a : Nat) (l l' : List Nat) (n : Nat) (e : ∀ j k, j < n → k < 16 → gblk l j k = gblk l' j k) : gfrom h a l n = gfrom h a l' n := by
  induction n with
  | zero => rw [gfrom_zero, gfrom_zero]
  | succ n ih => rw [gfrom_succ, gfrom_succ, ih fun j k hj hk => e j k (by omega) hk, hof_congr fun k hk => e n k (by omega) hk]
theorem gfrom_gsum (h : Nat) (l : List Nat) (n : Nat) : gfrom h 0 l n = gsum h l n := by
  induction n with
  | zero => rw [gfrom_zero, gsum]
  | succ n ih => rw [gfrom_succ, gsum, ih]
theorem gfrom_app (h a : Nat) (l l' : List Nat) (n m : Nat) (hl : l.length = 16 * n) : gfrom h a (l ++ l') (n + m) = gfrom h (gfrom h a l n) l' m := by
  induction m with
  | zero =>
    rw [gfrom_zero, Nat.add_zero]
    refine gfrom_congr h a _ _ n fun j k hj hk => ?_
    unfold gblk
    rw [List.getD_eq_getElem?_getD, List.getD_eq_getElem?_getD, List.getElem?_append_left (by omega)]
  | succ m ih =>
    have hb : hof (gblk (l ++ l') (n + m)) = hof (gblk l' m) := hof_congr fun k hk => by
      unfold gblk
      rw [List.getD_eq_getElem?_getD, List.getD_eq_getElem?_getD, List.getElem?_append_right (by omega), show 16 * (n + m) + k - l.length = 16 * m + k from by omega]
    rw [← Nat.add_assoc, gfrom_succ, gfrom_succ, ih, hb]
theorem gblk_full (l : List Nat) (j k : Nat) : gblk (fullN l) j k = gblk l j k := by
  unfold gblk fullN
  rw [List.getD_eq_getElem?_getD, List.getD_eq_getElem?_getD]
  by_cases h : 16 * j + k < l.length
  · rw [List.getElem?_append_left h]
  · rw [List.getElem?_append_right (by omega), List.getElem?_eq_none (l := l) (by omega)]
    cases hx : (List.replicate (lackN l.length) 0)[16 * j + k - l.length]? with
    | none => rfl
    | some x =>
      have := List.mem_of_getElem? hx
      rw [List.mem_replicate] at this
      rw [this.2]; rfl
theorem gfrom_full (h a : Nat) (l : List Nat) (n : Nat) : gfrom h a (fullN l) n = gfrom h a l n := gfrom_congr h a _ _ n fun j k _ _ => gblk_full l j k
theorem full_blocks (l : List Nat) : (fullN l).length = 16 * ((l.length + 15) / 16) := by rw [fullN_len]; unfold lackN; omega
/-- A number's eight bytes. -/
def beN (n : Nat) : List Nat := (be n 8).map (·.toNat)
theorem beN_len (n : Nat) : (beN n).length = 8 := by simp [beN, be_len]
theorem vb_be (n : Nat) : vb (be n 8) = vn (beN n) := by simp [vb, vn, beN]
theorem beN_at (n i : Nat) (hi : i < 8) : (beN n).getD i 0 = n / 256 ^ (7 - i) % 256 := by
  unfold beN
  rw [be_map, List.map_map, List.getD_eq_getElem?_getD, List.getElem?_map, List.getElem?_range hi]
  simp only [Option.map_some, Option.getD_some, Function.comp, UInt8.toNat_ofNat']
theorem gblk_lens (n m : Nat) (hn : n ≤ 140737488351360) (hm : m ≤ 140737488351360) (k : Nat) (hk : k < 16) : gblk (beN (8 * n) ++ beN (8 * m)) 0 k = hby (gLen n m) k := by
  unfold gblk
  rw [Nat.mul_zero, Nat.zero_add, List.getD_eq_getElem?_getD]
  by_cases h : k < 8
  · rw [List.getElem?_append_left (by rw [beN_len]; exact h), ← List.getD_eq_getElem?_getD, beN_at _ _ h]
    have e := hby_hi (gLen n m) k h
    rw [gLen_hi n m hm, UInt8.toNat_ofNat', show 8 - 1 - k = 7 - k from by omega] at e
    exact e
  · obtain ⟨j, rfl⟩ : ∃ j, k = 8 + j := ⟨k - 8, by omega⟩
    rw [List.getElem?_append_right (by rw [beN_len]; omega), beN_len, show 8 + j - 8 = j from by omega, ← List.getD_eq_getElem?_getD, beN_at _ _ (by omega)]
    have e := hby_lo (gLen n m) j (by omega)
    rw [gLen_lo n m hm, UInt8.toNat_ofNat', show 8 - 1 - j = 7 - j from by omega] at e
    exact e
/-- All blocks of the document's Sum. -/
def gAll (a t : List Nat) : List Nat := ((fullN a ++ fullN t) ++ beN (8 * a.length)) ++ beN (8 * t.length)
def gN (n m : Nat) : Nat := (n + 15) / 16 + (m + 15) / 16 + 1
theorem gAll_len (a t : List Nat) : (gAll a t).length = 16 * gN a.length t.length := by
  unfold gAll gN
  rw [List.length_append, List.length_append, List.length_append, full_blocks, full_blocks, beN_len, beN_len]; omega
theorem gAll_lt (a t : List Nat) (ha : ∀ x ∈ a, x < 256) (ht : ∀ x ∈ t, x < 256) : ∀ x ∈ gAll a t, x < 256 := by
  intro x hx
  have hb : ∀ n, x ∈ beN n → x < 256 := fun n h => by
    unfold beN at h
    obtain ⟨b, _, rfl⟩ := List.mem_map.mp h
    exact b.toNat_lt
  have hf : ∀ l : List Nat, (∀ x ∈ l, x < 256) → x ∈ fullN l → x < 256 := fun l hl h => by
    unfold fullN at h
    rcases List.mem_append.mp h with h | h
    · exact hl x h
    · rw [List.mem_replicate] at h; omega
  unfold gAll at hx
  simp only [List.mem_append] at hx
  rcases hx with ((h | h) | h) | h
  · exact hf a ha h
  · exact hf t ht h
  · exact hb _ h
  · exact hb _ h
theorem gAll_sum (k : Nat) (a t : List Nat) (ha : a.length ≤ 140737488351360) (ht : t.length ≤ 140737488351360) : gfrom k 0 (gAll a t) (gN a.length t.length) = gS k a t := by
  have e : gAll a t = fullN a ++ (fullN t ++ (beN (8 * a.length) ++ beN (8 * t.length))) := by simp [gAll]
  unfold gN
  have hb : hof (gblk (beN (8 * a.length) ++ beN (8 * t.length)) 0) = gLen a.length t.length := by
    rw [hof_congr (gblk_lens _ _ ha ht), hby_hof _ (gLen_lt _ _ ha ht)]
  rw [e, Nat.add_assoc, gfrom_app k 0 _ _ _ _ (full_blocks a), gfrom_app k _ _ _ _ _ (full_blocks t), gfrom_full, gfrom_full, gfrom_succ, gfrom_zero, gS, hb]
end Go.Proofs.Ytojdhcbfjiojdaa
