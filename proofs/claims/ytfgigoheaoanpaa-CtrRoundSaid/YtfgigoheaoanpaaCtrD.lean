/-
  The document's Crypt under keys of both lengths; counter blocks and streams, plain (layer 5).
-/
import Derived.Test.YtfgigoheaoanpaaCtrB
import Derived.Test.YtfgigoheaoanpaaAesM
import Derived.Test.YtfgigoheaoanpaaAesK
import Derived.Test.YtfgigoheaoanpaaAesN
namespace Go.Proofs.Ytfgigoheaoanpaa
open Go Go.RowKit
set_option linter.unusedVariables false
set_option linter.unusedSimpArgs false

/-- A block enciphered under a key. -/
def encK (kl : List Nat) (b : Nat → Nat) : Nat → Nat := enc (kF kl) (kl.length / 4 + 6) b
theorem encK_lt (kl : List Nat) (h : ∀ x ∈ kl, x < 256) (b : Nat → Nat) (hb : B16 b) : B16 (encK kl b) := enc_lt (kF kl) _ b hb (kF_bk kl h _)
theorem rencK_any (K : Option Addr) (kl : List Nat) (nk ck : Nat) (hn : kl.length = nk) (hv : ∀ x ∈ kl, x < 256) (hk : nk = 16 ∨ nk = 32) (b : Nat → Nat) (w : World) (hb : B16 b) (h : Rd w w.heap.size K (vn kl)) :
    Calls Try.prog 26 #[.slice K nk ck, .agg (aN 16 b)] w fun e w' => e = .returned (.agg (aN 16 (encK kl b))) ∧ Below w.heap.size w w' := by
  unfold encK
  rw [hn]
  rcases hk with rfl | rfl
  · exact renc16_any K kl ck b hn hv hb w h
  · exact renc32_any K kl ck b hn hv hb w h
theorem rcryptK_any (K : Option Addr) (kl : List Nat) (nk ck : Nat) (hkn : kl.length = nk) (hkv : ∀ x ∈ kl, x < 256) (hk16 : nk = 16 ∨ nk = 32)
    (A : Option Addr) (nl : List Nat) (cn : Nat) (hnl : nl.length = 12) (hnv : ∀ x ∈ nl, x < 256) (B : Option Addr) (l : List Nat) (n ct : Nat) (hn : l.length = n) (hl : ∀ x ∈ l, x < 256) (hle : n ≤ 100000) (w : World)
    (hk : Rd w w.heap.size K (vn kl)) (h1 : Rd w w.heap.size A (vn nl)) (h2 : Rd w w.heap.size B (vn l)) :
    Calls Try.prog 16 #[.slice K nk ck, .slice A 12 cn, .slice B n ct] w fun e w' => ∃ v, e = .returned v ∧ w'.ownsRow w.heap.size 5 1 v n (vn (crL (encK kl) (stF nl) l n)) ∧ Below w.heap.size w w' :=
  rcrypt_any (encK kl) (encK_lt kl hkv) K kl nk ck (fun b W hb hr => rencK_any K kl nk ck hkn hkv hk16 b W hb hr) A nl cn hnl hnv B l n ct hn hl hle w hk h1 h2

theorem ctN_next (f : Nat → Nat) : ctN (nxF f) = (ctN f + 1) % 4294967296 := by
  have h : ∀ i, ¬ i < 12 → nxF f i = (ctN f + 1) % 4294967296 / 256 ^ (15 - i) % 256 := fun i hi => by unfold nxF; rw [if_neg hi]
  have e : ctN (nxF f) = ((nxF f 12 * 256 + nxF f 13) * 256 + nxF f 14) * 256 + nxF f 15 := rfl
  rw [e, h 12 (by omega), h 13 (by omega), h 14 (by omega), h 15 (by omega)]
  have hm : (ctN f + 1) % 4294967296 < 4294967296 := Nat.mod_lt _ (by decide)
  generalize (ctN f + 1) % 4294967296 = m at *
  omega
theorem nxF_first (f : Nat → Nat) (i : Nat) (hi : i < 12) : nxF f i = f i := by unfold nxF; rw [if_pos hi]
theorem ctN_congr {f g : Nat → Nat} (h : E16 f g) : ctN f = ctN g := by
  unfold ctN; rw [h 12 (by omega), h 13 (by omega), h 14 (by omega), h 15 (by omega)]
theorem ctN_bytes (f g : Nat → Nat) (hf : B16 f) (hg : B16 g) (h : ctN f = ctN g) (i : Nat) (hi : 12 ≤ i) (hi2 : i < 16) : f i = g i := by
  have f1 := hf 12 (by omega); have f2 := hf 13 (by omega); have f3 := hf 14 (by omega); have f4 := hf 15 (by omega)
  have g1 := hg 12 (by omega); have g2 := hg 13 (by omega); have g3 := hg 14 (by omega); have g4 := hg 15 (by omega)
  unfold ctN at h
  have hc : i = 12 ∨ i = 13 ∨ i = 14 ∨ i = 15 := by omega
  rcases hc with rfl | rfl | rfl | rfl <;> omega
theorem nxF_ne (f : Nat → Nat) (hf : B16 f) : sameB (nxF f) f = false := by
  rw [Bool.eq_false_iff]
  intro h
  have e := ctN_congr (sameB_iff.mp h)
  rw [ctN_next] at e
  have := ctN_lt f hf
  omega
theorem nxF_inj (f g : Nat → Nat) (hf : B16 f) (hg : B16 g) : sameB (nxF f) (nxF g) = sameB f g := by
  rw [Bool.eq_iff_iff, sameB_iff, sameB_iff]
  constructor
  · intro h i hi
    by_cases h12 : i < 12
    · have := h i hi
      rwa [nxF_first f i h12, nxF_first g i h12] at this
    · refine ctN_bytes f g hf hg ?_ i (by omega) hi
      have e := ctN_congr h
      rw [ctN_next, ctN_next] at e
      have := ctN_lt f hf
      have := ctN_lt g hg
      omega
  · intro h i hi
    by_cases h12 : i < 12
    · rw [nxF_first f i h12, nxF_first g i h12, h i hi]
    · unfold nxF
      rw [if_neg h12, if_neg h12, ctN_congr h]
theorem crL_lt (E : (Nat → Nat) → Nat → Nat) (hE : ∀ b, B16 b → B16 (E b)) (s : Nat → Nat) (hs : B16 s) (l : List Nat) (hl : ∀ x ∈ l, x < 256) (n : Nat) : ∀ x ∈ crL E s l n, x < 256 := by
  intro x hx
  unfold crL at hx
  obtain ⟨i, _, rfl⟩ := List.mem_map.mp hx
  refine Nat.xor_lt_two_pow (n := 8) ?_ (hE _ (cB_lt s hs _) _ (Nat.mod_lt _ (by omega)))
  rw [List.getD_eq_getElem?_getD]
  cases h : l[i]? with
  | none => simp
  | some y => simpa using hl y (List.mem_of_getElem? h)
theorem crL_at (E : (Nat → Nat) → Nat → Nat) (s : Nat → Nat) (l : List Nat) (n i : Nat) (hi : i < n) : (crL E s l n).getD i 0 = l.getD i 0 ^^^ ksB E s i := by
  unfold crL
  rw [List.getD_eq_getElem?_getD, List.getElem?_map, List.getElem?_range hi]
  rfl
theorem crL_back (E : (Nat → Nat) → Nat → Nat) (s : Nat → Nat) (l : List Nat) (n : Nat) (hn : l.length = n) : crL E s (crL E s l n) n = l := by
  apply List.ext_getElem
  · rw [crL_len, hn]
  · intro i h1 h2
    have hi : i < n := by rw [crL_len] at h1; exact h1
    have e := crL_at E s (crL E s l n) n i hi
    rw [crL_at E s l n i hi, Nat.xor_assoc, Nat.xor_self, Nat.xor_zero] at e
    rw [List.getD_eq_getElem?_getD, List.getD_eq_getElem?_getD, List.getElem?_eq_getElem h1, List.getElem?_eq_getElem h2] at e
    exact e
theorem crL_take (E : (Nat → Nat) → Nat → Nat) (s : Nat → Nat) (l : List Nat) (n k : Nat) (hk : k ≤ n) : crL E s (l.take k) k = (crL E s l n).take k := by
  unfold crL
  rw [← List.map_take, List.take_range, Nat.min_eq_left hk]
  apply List.map_congr_left
  intro i hi
  have := List.mem_range.mp hi
  rw [List.getD_eq_getElem?_getD, List.getD_eq_getElem?_getD, List.getElem?_take, if_pos this]
end Go.Proofs.Ytfgigoheaoanpaa
