/-
  A text's blocks enciphered one by one: what has come out behind some chunks. No function of any package.
-/
import Derived.Test.YtfgigoheaoanpaaPie
import Derived.Test.YtfgigoheaoanpaaByt
import Derived.Test.YtfgigoheaoanpaaOctA
namespace Go.Proofs.Ytfgigoheaoanpaa
open Go Go.RowKit
set_option linter.unusedVariables false
set_option linter.unusedSimpArgs false

/-- A text's chunk. -/
def chk (l : List Nat) (x : Nat) : List Nat := (l.drop (16 * x)).take 16
theorem chk_len (l : List Nat) (x : Nat) : (chk l x).length = min 16 (l.length - 16 * x) := by simp [chk]
theorem chk_get (l : List Nat) (x i : Nat) (hi : i < (chk l x).length) : (chk l x)[i] = l.getD (16 * x + i) 0 := by
  have h := hi
  rw [chk_len] at h
  have h2 : 16 * x + i < l.length := by omega
  simp [chk, h2]
/-- Chunk x under the stream's block j. -/
def bkX (E : (Nat → Nat) → Nat → Nat) (s : Nat → Nat) (l : List Nat) (j x : Nat) : List Nat := (List.range (chk l x).length).map fun i => l.getD (16 * x + i) 0 ^^^ E (cB s (j + 1)) i
theorem bkX_len (E : (Nat → Nat) → Nat → Nat) (s : Nat → Nat) (l : List Nat) (j x : Nat) : (bkX E s l j x).length = (chk l x).length := by simp [bkX]
/-- What has come out behind some chunks. -/
def outP (E : (Nat → Nat) → Nat → Nat) (s : Nat → Nat) (l : List Nat) (pre : List Nat) : List Nat := pre.zipIdx.flatMap fun p => bkX E s l p.2 p.1
theorem outP_nil (E : (Nat → Nat) → Nat → Nat) (s : Nat → Nat) (l : List Nat) : outP E s l [] = [] := rfl
theorem outP_snoc (E : (Nat → Nat) → Nat → Nat) (s : Nat → Nat) (l pre : List Nat) (x : Nat) : outP E s l (pre ++ [x]) = outP E s l pre ++ bkX E s l pre.length x := by
  unfold outP
  rw [List.zipIdx_append, List.flatMap_append]
  simp
theorem outP_len (E : (Nat → Nat) → Nat → Nat) (s : Nat → Nat) (l pre : List Nat) : (outP E s l pre).length ≤ 16 * pre.length := by
  have h : ∀ n, ((pre.zipIdx n).flatMap fun p => bkX E s l p.2 p.1).length ≤ 16 * pre.length := by
    induction pre with
    | nil => intro n; simp
    | cons x p ih =>
      intro n
      have := ih (n + 1)
      rw [List.zipIdx_cons, List.flatMap_cons, List.length_append, bkX_len, chk_len, List.length_cons]
      omega
  exact h 0
theorem crL_add (E : (Nat → Nat) → Nat → Nat) (s : Nat → Nat) (l : List Nat) (a b : Nat) : crL E s l (a + b) = crL E s l a ++ (List.range b).map fun i => l.getD (a + i) 0 ^^^ ksB E s (a + i) := by
  unfold crL
  rw [List.range_add, List.map_append, List.map_map]
  rfl
theorem outP_range (E : (Nat → Nat) → Nat → Nat) (s : Nat → Nat) (l : List Nat) (k : Nat) : outP E s l (List.range k) = crL E s l (min (16 * k) l.length) := by
  induction k with
  | zero => simp [outP_nil, crL]
  | succ k ih =>
    rw [List.range_succ, outP_snoc, ih, List.length_range]
    by_cases h : 16 * k < l.length
    · have hm : min (16 * k) l.length = 16 * k := by omega
      have hc := chk_len l k
      have e : min (16 * (k + 1)) l.length = 16 * k + (chk l k).length := by omega
      have hb : bkX E s l k k = (List.range (chk l k).length).map fun i => l.getD (16 * k + i) 0 ^^^ ksB E s (16 * k + i) := by
        unfold bkX ksB
        apply List.map_congr_left
        intro i hi
        have hi' : i < (chk l k).length := List.mem_range.mp hi
        have h1 : (16 * k + i) / 16 = k := by omega
        have h2 : (16 * k + i) % 16 = i := by omega
        rw [h1, h2]
      rw [hm, e, hb]
      exact (crL_add E s l (16 * k) (chk l k).length).symm
    · have hc := chk_len l k
      have h0 : (chk l k).length = 0 := by omega
      have e1 : min (16 * (k + 1)) l.length = l.length := by omega
      have e2 : min (16 * k) l.length = l.length := by omega
      have e3 : bkX E s l k k = [] := by unfold bkX; rw [h0]; rfl
      rw [e1, e2, e3, List.append_nil]
theorem outP_all (E : (Nat → Nat) → Nat → Nat) (s : Nat → Nat) (l : List Nat) : outP E s l (List.range ((l.length + 15) / 16)) = crL E s l l.length := by
  rw [outP_range]
  congr 1
  omega
theorem bkX_vb (E : (Nat → Nat) → Nat → Nat) (s : Nat → Nat) (l : List Nat) (hl : ∀ x ∈ l, x < 256) (j x : Nat) (hE : B16 (E (cB s (j + 1)))) : vb (orX (u8s (chk l x)) (byF (E (cB s (j + 1))) 0 (chk l x).length)) = vn (bkX E s l j x) := by
  have hlen : (orX (u8s (chk l x)) (byF (E (cB s (j + 1))) 0 (chk l x).length)).length = (chk l x).length := by simp [orX, u8s_len, byF_len]
  apply List.ext_getElem
  · simp only [vb, vn, List.length_map, hlen, bkX_len]
  · intro i h1 h2
    have hi : i < (chk l x).length := by simpa only [vb, List.length_map, hlen] using h1
    have h16 : i < 16 := by rw [chk_len] at hi; omega
    have hb := hE i h16
    have ha : l.getD (16 * x + i) 0 < 256 := by
      rw [← chk_get l x i hi]
      exact hl _ (List.mem_of_mem_drop (List.mem_of_mem_take (List.getElem_mem hi)))
    simp only [vb, vn, List.getElem_map, orX, List.getElem_zipWith, u8s, byF, bkX, List.getElem_range, chk_get l x i hi, Nat.zero_add]
    congr 2
    rw [UInt8.toNat_xor, UInt8.toNat_ofNat', UInt8.toNat_ofNat', Nat.mod_eq_of_lt ha, Nat.mod_eq_of_lt hb]
end Go.Proofs.Ytfgigoheaoanpaa
