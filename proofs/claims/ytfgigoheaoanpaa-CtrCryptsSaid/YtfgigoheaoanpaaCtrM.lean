/-
  Crypt on bytes: what it answers, there and back, and its beginnings; its contracts once more (layer 5).
-/
import Derived.Test.YtfgigoheaoanpaaCtrL
namespace Go.Proofs.Ytfgigoheaoanpaa
open Go Go.RowKit
set_option linter.unusedVariables false
set_option linter.unusedSimpArgs false

theorem nm_u8s (l : List Nat) (h : ∀ x ∈ l, x < 256) : (u8s l).map UInt8.toNat = l := by
  unfold u8s
  rw [List.map_map]
  conv => rhs; rw [← List.map_id l]
  apply List.map_congr_left
  intro x hx
  simp only [Function.comp, UInt8.toNat_ofNat', id]
  exact Nat.mod_eq_of_lt (h x hx)
/-- A text, enciphered. -/
def cryb (kl nl l : List UInt8) : List UInt8 := u8s (crL (encK (kl.map UInt8.toNat)) (stF (nl.map UInt8.toNat)) (l.map UInt8.toNat) l.length)
theorem cry_lt (kl nl l : List UInt8) (n : Nat) : ∀ x ∈ crL (encK (kl.map UInt8.toNat)) (stF (nl.map UInt8.toNat)) (l.map UInt8.toNat) n, x < 256 :=
  crL_lt _ (encK_lt _ (vb_lt kl)) _ (stF_lt _ (vb_lt nl)) _ (vb_lt l) n
theorem cryb_vb (kl nl l : List UInt8) : vb (cryb kl nl l) = vn (crL (encK (kl.map UInt8.toNat)) (stF (nl.map UInt8.toNat)) (l.map UInt8.toNat) l.length) := u8s_vb _ (cry_lt kl nl l _)
theorem cryb_len (kl nl l : List UInt8) : (cryb kl nl l).length = l.length := by unfold cryb; rw [u8s_len, crL_len]
theorem cryb_back (kl nl l : List UInt8) : cryb kl nl (cryb kl nl l) = l := by
  have e : (cryb kl nl l).map UInt8.toNat = crL (encK (kl.map UInt8.toNat)) (stF (nl.map UInt8.toNat)) (l.map UInt8.toNat) l.length := nm_u8s _ (cry_lt kl nl l _)
  show u8s (crL _ _ ((cryb kl nl l).map UInt8.toNat) (cryb kl nl l).length) = l
  rw [cryb_len, e, crL_back _ _ _ _ (by simp), u8s_nm]
theorem cryb_take (kl nl l : List UInt8) (k : Nat) (hk : k ≤ l.length) : cryb kl nl (l.take k) = (cryb kl nl l).take k := by
  unfold cryb u8s
  rw [← List.map_take, ← crL_take _ _ _ _ _ hk, List.map_take, List.length_take, Nat.min_eq_left hk]
/-- The code's. -/
theorem ccryptb_any (K : Option Addr) (kl : List UInt8) (nk ck : Nat) (hkn : kl.length = nk) (hk16 : nk = 16 ∨ nk = 32) (hkc : nk ≤ ck)
    (A : Option Addr) (nl : List UInt8) (cn : Nat) (hnl : nl.length = 12) (hnc : 12 ≤ cn) (B : Option Addr) (l : List UInt8) (n ct : Nat) (hn : l.length = n) (hlc : n ≤ ct) (hle : n ≤ 65536) (w : World)
    (hk : Rd w w.heap.size K (vb kl)) (h1 : Rd w w.heap.size A (vb nl)) (h2 : Rd w w.heap.size B (vb l)) :
    Calls Try.prog 13 #[.slice K nk ck, .slice A 12 cn, .slice B n ct] w fun e w' => ∃ C c, e = .returned (.tuple #[.slice C n c, .int .i64 0]) ∧ n ≤ c ∧ Rd w' w'.heap.size C (vb (cryb kl nl l)) ∧ Below w.heap.size w w' := by
  refine (ccrypt_any K (kl.map UInt8.toNat) nk ck (by simpa using hkn) (vb_lt kl) hk16 hkc A (nl.map UInt8.toNat) cn (by simpa using hnl) (vb_lt nl) hnc B (l.map UInt8.toNat) n ct (by simpa using hn) (vb_lt l) hlc hle w
    (by rw [← vb_vn]; exact hk) (by rw [← vb_vn]; exact h1) (by rw [← vb_vn]; exact h2)).mono ?_
  rintro e w' ⟨v, rfl, ho, hb⟩
  obtain ⟨C, c, rfl, _, hr⟩ := Rd.of_own ho
  exact ⟨C, c, rfl, own_cap ho, by rw [cryb_vb, hn]; exact hr, hb⟩
theorem ccryptb_no (K A B : Option Addr) (kl nl l : List UInt8) (nk nn n ck cn ct : Nat) (hkn : kl.length = nk) (hnn : nl.length = nn) (hn : l.length = n) (hkc : nk ≤ ck) (hnc : nn ≤ cn) (hlc : n ≤ ct) (hlk : nk ≤ 140737488351360) (hln : nn ≤ 140737488351360) (hll : n ≤ 140737488351360)
    (hno : opE nk nn n ≠ 0) (w : World) (hk : Rd w w.heap.size K (vb kl)) (h1 : Rd w w.heap.size A (vb nl)) (h2 : Rd w w.heap.size B (vb l)) :
    Calls Try.prog 13 #[.slice K nk ck, .slice A nn cn, .slice B n ct] w fun e w' => e = .returned (.tuple #[.slice none 0 0, .int .i64 (opE nk nn n : Int)]) ∧ Below w.heap.size w w' :=
  ccrypt_no K A B (kl.map UInt8.toNat) (nl.map UInt8.toNat) (l.map UInt8.toNat) nk nn n ck cn ct (by simpa using hkn) (by simpa using hnn) (by simpa using hn) (vb_lt kl) (vb_lt nl) (vb_lt l) hkc hnc hlc hlk hln hll hno w (by rw [← vb_vn]; exact hk) (by rw [← vb_vn]; exact h1) (by rw [← vb_vn]; exact h2)
/-- The document's. -/
theorem rcryptb_any (K : Option Addr) (kl : List UInt8) (nk ck : Nat) (hkn : kl.length = nk) (hk16 : nk = 16 ∨ nk = 32)
    (A : Option Addr) (nl : List UInt8) (cn : Nat) (hnl : nl.length = 12) (B : Option Addr) (l : List UInt8) (n ct : Nat) (hn : l.length = n) (hle : n ≤ 100000) (w : World)
    (hk : Rd w w.heap.size K (vb kl)) (h1 : Rd w w.heap.size A (vb nl)) (h2 : Rd w w.heap.size B (vb l)) :
    Calls Try.prog 16 #[.slice K nk ck, .slice A 12 cn, .slice B n ct] w fun e w' => ∃ C c, e = .returned (.slice C n c) ∧ Rd w' w'.heap.size C (vb (cryb kl nl l)) ∧ Below w.heap.size w w' := by
  refine (rcryptK_any K (kl.map UInt8.toNat) nk ck (by simpa using hkn) (vb_lt kl) hk16 A (nl.map UInt8.toNat) cn (by simpa using hnl) (vb_lt nl) B (l.map UInt8.toNat) n ct (by simpa using hn) (vb_lt l) hle w
    (by rw [← vb_vn]; exact hk) (by rw [← vb_vn]; exact h1) (by rw [← vb_vn]; exact h2)).mono ?_
  rintro e w' ⟨v, rfl, ho, hb⟩
  obtain ⟨C, c, rfl, _, hr⟩ := Rd.of_own ho
  exact ⟨C, c, rfl, by rw [cryb_vb, hn]; exact hr, hb⟩
theorem same_self (A B : Option Addr) (a : List UInt8) (n ca cb : Nat) (hn : a.length = n) (w : World) {BA BB : Nat} (h : Rd w BA A (vb a)) (h' : Rd w BB B (vb a)) :
    Calls Try.prog 14 #[.slice A n ca, .slice B n cb] w fun e w' => e = .returned (.bool true) ∧ w' = w := by
  refine (rsamev_any A B a a n n ca cb hn hn w h h').mono ?_
  rintro e w' ⟨rfl, rfl⟩
  exact ⟨by simp, rfl⟩
theorem opE_ok (nk nn n : Nat) (h : opE nk nn n = 0) : (nk = 16 ∨ nk = 32) ∧ nn = 12 ∧ n ≤ 65536 := by
  unfold opE at h
  split at h
  · rename_i h1
    split at h
    · omega
    · exact ⟨h1.1, h1.2, by omega⟩
  · omega
theorem opE_no (nk nn n : Nat) (hn : n ≤ 65536) (h : opE nk nn n ≠ 0) : (nk ≠ 16 ∧ nk ≠ 32) ∨ (nk = 16 ∧ nn ≠ 12) ∨ (nk = 32 ∧ nn ≠ 12) := by
  unfold opE at h
  split at h
  · split at h
    · omega
    · omega
  · omega
end Go.Proofs.Ytfgigoheaoanpaa
