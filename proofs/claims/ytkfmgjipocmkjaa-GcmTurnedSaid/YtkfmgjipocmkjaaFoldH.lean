/-
  Several texts in one:
  What the code's Crypt refuses.
  The code's counter blocks and Crypt: where their contracts lie (cnext_any, cfirst_any, cfirst_no, ccrypt_any, ccrypt_no).
  The laws' pieces of layer 5: rows, strings, known. (Printed by wip/gen/ctrlaws.py.)
  Crypt on bytes: what it answers, there and back, and its beginnings; its contracts once more (layer 5).
  Sealed texts on bytes: what Seal and Open answer, for whatever they are given; the document's contracts so.
  The code's tagger: what a key and a nonce bring to their tags (layer 6).
  The code's tag of a tagger, of the bytes beside and the enciphered ones (layer 6).
  The code's Seal and Open: what they answer, whatever they are given (layer 6).
-/
import Derived.Test.YtkfmgjipocmkjaaCtrT
import Derived.Test.YtkfmgjipocmkjaaFoldG
import Derived.Test.YtkfmgjipocmkjaaFoldF
import Derived.Test.YtkfmgjipocmkjaaFoldA
import Derived.Test.YtkfmgjipocmkjaaCtrK
import Derived.Test.YtkfmgjipocmkjaaAesN
import Derived.WalkLawsBesides
import Derived.Test.YtkfmgjipocmkjaaGcB
import Derived.Test.YtkfmgjipocmkjaaGhR
import Derived.Test.YtkfmgjipocmkjaaGhQ
import Derived.Deep.MidRow
namespace Go.Proofs.Ytkfmgjipocmkjaa
open Go Go.RowKit
set_option linter.unusedVariables false
set_option linter.unusedSimpArgs false

set_option maxRecDepth 100000 in
set_option maxHeartbeats 4000000 in
theorem ccrypt_no (K A B : Option Addr) (kl nl l : List Nat) (nk nn n ck cn ct : Nat) (hkn : kl.length = nk) (hnn : nl.length = nn) (hn : l.length = n) (hkv : ∀ x ∈ kl, x < 256) (hnv : ∀ x ∈ nl, x < 256) (hlv : ∀ x ∈ l, x < 256) (hkc : nk ≤ ck) (hnc : nn ≤ cn) (hlc : n ≤ ct) (hlk : nk ≤ 140737488351360) (hln : nn ≤ 140737488351360) (hll : n ≤ 140737488351360)
    (hno : opE nk nn n ≠ 0) (w : World) (hk : Rd w w.heap.size K (vn kl)) (h1 : Rd w w.heap.size A (vn nl)) (h2 : Rd w w.heap.size B (vn l)) :
    Calls Try.prog 18 #[.slice K nk ck, .slice A nn cn, .slice B n ct] w fun e w' => e = .returned (.tuple #[.slice none 0 0, .int .i64 (opE nk nn n : Int)]) ∧ Below w.heap.size w w' := by
  by_cases hk16 : nk = 16 ∨ nk = 32
  · have hnew := newK_any K kl nk ck hkn hkv hk16 hkc w hk
    by_cases h12 : nn = 12
    · subst h12
      have hbig : 65536 < n := by
        unfold opE at hno
        rw [if_pos ⟨hk16, rfl⟩] at hno
        by_cases h : 65536 < n
        · exact h
        · rw [if_neg h] at hno; exact absurd rfl hno
      have eE : opE nk 12 n = 3 := by unfold opE; rw [if_pos ⟨hk16, rfl⟩, if_pos hbig]
      rw [eE]
      have hf : ∀ w1 : World, Below w.heap.size w w1 → Calls Try.prog 25 #[.slice A 12 cn] w1 fun e w' => e = .returned (.tuple #[.agg (aN 16 (stF nl)), .int .i64 0]) ∧ Below w1.heap.size w1 w' := fun w1 hb => cfirst_any A nl cn hnn hnv hnc w1 (h1.go hb)
      generalize stF nl = s at *
      have HFI := Lib.hid hf; clear hf
      have hi : (65536 : Int) < (n : Int) := by omega
      clear eE hno hk16 hkn hnn hn hkv hnv hlv hkc hnc hlc hlk hln hll hk h1 h2 hbig
      go_enter Try.func18, Try.ntmps18
      go_wp2_with fail
      refine hnew.mono ?_
      rintro e w1 ⟨c, rfl, _, hb1⟩
      clear hnew
      go_wp2_with fail
      refine (HFI.out w1 hb1).mono ?_
      rintro e w2 ⟨rfl, hb2⟩
      have dS := new_dS w2
      go_upto_region 5 with (refine wpList_store_row rfl 35 (.tmp 10) (.tmp 28) rfl w2.heap.size (aN 16 s) rfl rfl 35 _ dS (by rw [aN_size]; exact blk_size) (by simp only [aN_size]) (aN_one _ _) ?_)
      obtain ⟨_, hbN⟩ := new_row w2 s
      have HB := Lib.hid ((hb1.trans (hb2.mono hb1.size)).trans (hbN.mono (Nat.le_trans hb1.size hb2.size)))
      clear hb1 hb2 hbN dS
      generalize (w2.alloc (.cells #[.int .u8 0, .int .u8 0, .int .u8 0, .int .u8 0, .int .u8 0, .int .u8 0, .int .u8 0, .int .u8 0, .int .u8 0, .int .u8 0, .int .u8 0, .int .u8 0, .int .u8 0, .int .u8 0, .int .u8 0, .int .u8 0] 35)).setRow w2.heap.size (aN 16 s) = w3 at *
      go_wp2_with fail
      go_ret2
      exact ⟨rfl, HB.out⟩
    · have eE : opE nk nn n = 2 := by unfold opE; rw [if_neg (fun h => h12 h.2)]
      rw [eE]
      have hf := fun w1 : World => cfirst_no A nn cn h12 hln w1
      have HFI := Lib.hid hf; clear hf
      clear eE hno hk16 hkn hnn hn hkv hnv hlv hkc hnc hlc hlk hln hll hk h1 h2 h12
      go_enter Try.func18, Try.ntmps18
      go_wp2_with fail
      refine hnew.mono ?_
      rintro e w1 ⟨c, rfl, _, hb1⟩
      clear hnew
      go_wp2_with fail
      refine (HFI.out w1).mono ?_
      rintro e w2 ⟨rfl, hb2⟩
      have dS := new_dS w2
      go_upto_region 5 with (refine wpList_store_row rfl 35 (.tmp 10) (.tmp 28) rfl w2.heap.size (aN 16 fun _ => 0) rfl rfl 35 _ dS (by rw [aN_size]; exact blk_size) (by simp only [aN_size]) (aN_one _ _) ?_)
      obtain ⟨_, hbN⟩ := new_row w2 fun _ => 0
      have HB := Lib.hid ((hb1.trans (hb2.mono hb1.size)).trans (hbN.mono (Nat.le_trans hb1.size hb2.size)))
      clear hb1 hb2 hbN dS
      generalize (w2.alloc (.cells #[.int .u8 0, .int .u8 0, .int .u8 0, .int .u8 0, .int .u8 0, .int .u8 0, .int .u8 0, .int .u8 0, .int .u8 0, .int .u8 0, .int .u8 0, .int .u8 0, .int .u8 0, .int .u8 0, .int .u8 0, .int .u8 0] 35)).setRow w2.heap.size (aN 16 fun _ => 0) = w3 at *
      go_wp2_with fail
      go_ret2
      exact ⟨rfl, HB.out⟩
  · have eE : opE nk nn n = 2 := by unfold opE; rw [if_neg (fun h => hk16 h.1)]
    rw [eE]
    have hnew := Lib.hid (new_none K nk ck (fun h => hk16 (.inl h)) (fun h => hk16 (.inr h)) w)
    clear eE hno hk16 hkn hnn hn hkv hnv hlv hkc hnc hlc hlk hln hll hk h1 h2
    go_enter Try.func18, Try.ntmps18
    go_wp2_with fail
    refine hnew.out.mono ?_
    rintro e w1 ⟨rfl, rfl⟩
    go_wp2_with fail
    go_ret2
    exact ⟨rfl, Below.refl _ _⟩
end Go.Proofs.Ytkfmgjipocmkjaa

namespace Go.Proofs.Ytkfmgjipocmkjaa
open Go Go.RowKit
set_option linter.unusedVariables false
set_option linter.unusedSimpArgs false

def outL : List UInt8 := [3, 136, 218, 206, 96, 182, 163, 146, 243, 40, 194, 185, 113, 178, 254, 120]
theorem outL_eq : u8s (crL (encK (List.replicate 16 0)) (stF (List.replicate 12 0)) (List.replicate 16 0) 16) = outL := by
  have e : crL (encK (List.replicate 16 0)) (stF (List.replicate 12 0)) (List.replicate 16 0) 16 = (List.range 16).map outZ := crL_Z
  rw [e]
  decide

theorem ccrypt_z (b0 b1 b2 : Nat) (w : World) (h0 : Rd w w.heap.size (some ⟨b0, 0, none⟩) (vn (List.replicate 16 0))) (h1 : Rd w w.heap.size (some ⟨b1, 0, none⟩) (vn (List.replicate 12 0))) (h2 : Rd w w.heap.size (some ⟨b2, 0, none⟩) (vn (List.replicate 16 0))) :
    Calls Try.prog 18 #[.slice (some ⟨b0, 0, none⟩) 16 16, .slice (some ⟨b1, 0, none⟩) 12 12, .slice (some ⟨b2, 0, none⟩) 16 16] w fun e w' => ∃ A c, e = .returned (.tuple #[.slice A 16 c, .int .i64 0]) ∧ Rd w' w'.heap.size A (vb outL) ∧ Below w.heap.size w w' := by
  have hz : ∀ n, ∀ x ∈ List.replicate n (0 : Nat), x < 256 := fun n x hx => by rw [List.mem_replicate] at hx; omega
  refine (ccrypt_any _ (List.replicate 16 0) 16 16 (by simp) (hz 16) (.inl rfl) (by omega) _ (List.replicate 12 0) 12 (by simp) (hz 12) (by omega) _ (List.replicate 16 0) 16 16 (by simp) (hz 16) (by omega) (by omega) w h0 h1 h2).mono ?_
  rintro e w' ⟨v, rfl, ho, hb⟩
  obtain ⟨A, c, rfl, _, hr⟩ := Rd.of_own ho
  refine ⟨A, c, rfl, ?_, hb⟩
  rw [← outL_eq, u8s_vb _ (crL_lt (encK _) (encK_lt _ (hz 16)) _ (stF_lt _ (hz 12)) _ (hz 16) 16)]
  exact hr

end Go.Proofs.Ytkfmgjipocmkjaa
namespace Go.Proofs.Ytkfmgjipocmkjaa
open Go Go.RowKit
set_option linter.unusedVariables false
set_option linter.unusedSimpArgs false

theorem nm_u8s (l : List Nat) (h : ∀ x ∈ l, x < 256) : (u8s l).map UInt8.toNat = l := by
  unfold u8s
  rw [List.map_map]
  conv => rhs; rw [← List.map_id l]
  apply List.map_congr_left
  intro x hx
  simp only [Function.comp, UInt8.toNat_ofNat', id]
  exact Nat.mod_eq_of_lt (h x hx)
/-- A text, enciphered. -/
def cryb (kl nl l : List UInt8) : List UInt8 := u8s (crL (encK (kl.map UInt8.toNat)) (stF (nl.map UInt8.toNat)) (l.map UInt8.toNat) l.length)
theorem cry_lt (kl nl l : List UInt8) (n : Nat) : ∀ x ∈ crL (encK (kl.map UInt8.toNat)) (stF (nl.map UInt8.toNat)) (l.map UInt8.toNat) n, x < 256 :=
  crL_lt _ (encK_lt _ (vb_lt kl)) _ (stF_lt _ (vb_lt nl)) _ (vb_lt l) n
theorem cryb_vb (kl nl l : List UInt8) : vb (cryb kl nl l) = vn (crL (encK (kl.map UInt8.toNat)) (stF (nl.map UInt8.toNat)) (l.map UInt8.toNat) l.length) := u8s_vb _ (cry_lt kl nl l _)
theorem cryb_len (kl nl l : List UInt8) : (cryb kl nl l).length = l.length := by unfold cryb; rw [u8s_len, crL_len]
theorem cryb_back (kl nl l : List UInt8) : cryb kl nl (cryb kl nl l) = l := by
  have e : (cryb kl nl l).map UInt8.toNat = crL (encK (kl.map UInt8.toNat)) (stF (nl.map UInt8.toNat)) (l.map UInt8.toNat) l.length := nm_u8s _ (cry_lt kl nl l _)
  show u8s (crL _ _ ((cryb kl nl l).map UInt8.toNat) (cryb kl nl l).length) = l
  rw [cryb_len, e, crL_back _ _ _ _ (by simp), u8s_nm]
theorem cryb_take (kl nl l : List UInt8) (k : Nat) (hk : k ≤ l.length) : cryb kl nl (l.take k) = (cryb kl nl l).take k := by
  unfold cryb u8s
  rw [← List.map_take, ← crL_take _ _ _ _ _ hk, List.map_take, List.length_take, Nat.min_eq_left hk]
/-- The code's. -/
theorem ccryptb_any (K : Option Addr) (kl : List UInt8) (nk ck : Nat) (hkn : kl.length = nk) (hk16 : nk = 16 ∨ nk = 32) (hkc : nk ≤ ck)
    (A : Option Addr) (nl : List UInt8) (cn : Nat) (hnl : nl.length = 12) (hnc : 12 ≤ cn) (B : Option Addr) (l : List UInt8) (n ct : Nat) (hn : l.length = n) (hlc : n ≤ ct) (hle : n ≤ 65536) (w : World)
    (hk : Rd w w.heap.size K (vb kl)) (h1 : Rd w w.heap.size A (vb nl)) (h2 : Rd w w.heap.size B (vb l)) :
    Calls Try.prog 18 #[.slice K nk ck, .slice A 12 cn, .slice B n ct] w fun e w' => ∃ C c, e = .returned (.tuple #[.slice C n c, .int .i64 0]) ∧ n ≤ c ∧ Rd w' w'.heap.size C (vb (cryb kl nl l)) ∧ Below w.heap.size w w' := by
  refine (ccrypt_any K (kl.map UInt8.toNat) nk ck (by simpa using hkn) (vb_lt kl) hk16 hkc A (nl.map UInt8.toNat) cn (by simpa using hnl) (vb_lt nl) hnc B (l.map UInt8.toNat) n ct (by simpa using hn) (vb_lt l) hlc hle w
    (by rw [← vb_vn]; exact hk) (by rw [← vb_vn]; exact h1) (by rw [← vb_vn]; exact h2)).mono ?_
  rintro e w' ⟨v, rfl, ho, hb⟩
  obtain ⟨C, c, rfl, _, hr⟩ := Rd.of_own ho
  exact ⟨C, c, rfl, own_cap ho, by rw [cryb_vb, hn]; exact hr, hb⟩
theorem ccryptb_no (K A B : Option Addr) (kl nl l : List UInt8) (nk nn n ck cn ct : Nat) (hkn : kl.length = nk) (hnn : nl.length = nn) (hn : l.length = n) (hkc : nk ≤ ck) (hnc : nn ≤ cn) (hlc : n ≤ ct) (hlk : nk ≤ 140737488351360) (hln : nn ≤ 140737488351360) (hll : n ≤ 140737488351360)
    (hno : opE nk nn n ≠ 0) (w : World) (hk : Rd w w.heap.size K (vb kl)) (h1 : Rd w w.heap.size A (vb nl)) (h2 : Rd w w.heap.size B (vb l)) :
    Calls Try.prog 18 #[.slice K nk ck, .slice A nn cn, .slice B n ct] w fun e w' => e = .returned (.tuple #[.slice none 0 0, .int .i64 (opE nk nn n : Int)]) ∧ Below w.heap.size w w' :=
  ccrypt_no K A B (kl.map UInt8.toNat) (nl.map UInt8.toNat) (l.map UInt8.toNat) nk nn n ck cn ct (by simpa using hkn) (by simpa using hnn) (by simpa using hn) (vb_lt kl) (vb_lt nl) (vb_lt l) hkc hnc hlc hlk hln hll hno w (by rw [← vb_vn]; exact hk) (by rw [← vb_vn]; exact h1) (by rw [← vb_vn]; exact h2)
/-- The document's. -/
theorem rcryptb_any (K : Option Addr) (kl : List UInt8) (nk ck : Nat) (hkn : kl.length = nk) (hk16 : nk = 16 ∨ nk = 32)
    (A : Option Addr) (nl : List UInt8) (cn : Nat) (hnl : nl.length = 12) (B : Option Addr) (l : List UInt8) (n ct : Nat) (hn : l.length = n) (hle : n ≤ 100000) (w : World)
    (hk : Rd w w.heap.size K (vb kl)) (h1 : Rd w w.heap.size A (vb nl)) (h2 : Rd w w.heap.size B (vb l)) :
    Calls Try.prog 20 #[.slice K nk ck, .slice A 12 cn, .slice B n ct] w fun e w' => ∃ C c, e = .returned (.slice C n c) ∧ Rd w' w'.heap.size C (vb (cryb kl nl l)) ∧ Below w.heap.size w w' := by
  refine (rcryptK_any K (kl.map UInt8.toNat) nk ck (by simpa using hkn) (vb_lt kl) hk16 A (nl.map UInt8.toNat) cn (by simpa using hnl) (vb_lt nl) B (l.map UInt8.toNat) n ct (by simpa using hn) (vb_lt l) hle w
    (by rw [← vb_vn]; exact hk) (by rw [← vb_vn]; exact h1) (by rw [← vb_vn]; exact h2)).mono ?_
  rintro e w' ⟨v, rfl, ho, hb⟩
  obtain ⟨C, c, rfl, _, hr⟩ := Rd.of_own ho
  exact ⟨C, c, rfl, by rw [cryb_vb, hn]; exact hr, hb⟩
theorem same_self (A B : Option Addr) (a : List UInt8) (n ca cb : Nat) (hn : a.length = n) (w : World) {BA BB : Nat} (h : Rd w BA A (vb a)) (h' : Rd w BB B (vb a)) :
    Calls Try.prog 13 #[.slice A n ca, .slice B n cb] w fun e w' => e = .returned (.bool true) ∧ w' = w := by
  refine (rsamev_any A B a a n n ca cb hn hn w h h').mono ?_
  rintro e w' ⟨rfl, rfl⟩
  exact ⟨by simp, rfl⟩
theorem opE_ok (nk nn n : Nat) (h : opE nk nn n = 0) : (nk = 16 ∨ nk = 32) ∧ nn = 12 ∧ n ≤ 65536 := by
  unfold opE at h
  split at h
  · rename_i h1
    split at h
    · omega
    · exact ⟨h1.1, h1.2, by omega⟩
  · omega
theorem opE_no (nk nn n : Nat) (hn : n ≤ 65536) (h : opE nk nn n ≠ 0) : (nk ≠ 16 ∧ nk ≠ 32) ∨ (nk = 16 ∧ nn ≠ 12) ∨ (nk = 32 ∧ nn ≠ 12) := by
  unfold opE at h
  split at h
  · split at h
    · omega
    · omega
  · omega
end Go.Proofs.Ytkfmgjipocmkjaa
namespace Go.Proofs.Ytkfmgjipocmkjaa
open Go Go.RowKit
set_option linter.unusedVariables false
set_option linter.unusedSimpArgs false

theorem byF_vl (f : Nat → Nat) (hf : B16 f) : vb (byF f 0 16) = vl 16 f := by
  apply List.ext_getElem?
  intro i
  by_cases h : i < 16
  · rw [byF_at f 0 16 i h (by rw [Nat.zero_add]; exact hf i h), vl_get 16 f i h, Nat.zero_add]
  · rw [List.getElem?_eq_none (by simp [vb, byF_len]; omega), List.getElem?_eq_none (by rw [vl_len]; omega)]
/-- The tag. -/
def tagF (kl nl al bl : List Nat) (i : Nat) : Nat := hby (gS (hof (encK kl fun _ => 0)) al bl) i ^^^ encK kl (stF nl) i
theorem tagF_lt (kl nl al bl : List Nat) (hk : ∀ x ∈ kl, x < 256) (hn : ∀ x ∈ nl, x < 256) : B16 (tagF kl nl al bl) := fun i hi =>
  Nat.xor_lt_two_pow (n := 8) (hby_lt _ _) (encK_lt kl hk _ (stF_lt nl hn) i hi)
def tagb (kl nl al bl : List UInt8) : List UInt8 := byF (tagF (kl.map UInt8.toNat) (nl.map UInt8.toNat) (al.map UInt8.toNat) (bl.map UInt8.toNat)) 0 16
theorem tagb_len (kl nl al bl : List UInt8) : (tagb kl nl al bl).length = 16 := byF_len _ _ _
theorem tagb_vb (kl nl al bl : List UInt8) : vb (tagb kl nl al bl) = vl 16 (tagF (kl.map UInt8.toNat) (nl.map UInt8.toNat) (al.map UInt8.toNat) (bl.map UInt8.toNat)) := byF_vl _ (tagF_lt _ _ _ _ (vb_lt kl) (vb_lt nl))
/-- A text, sealed. -/
def sealb (kl nl al tl : List UInt8) : List UInt8 := cryb kl nl tl ++ tagb kl nl al (cryb kl nl tl)
theorem sealb_len (kl nl al tl : List UInt8) : (sealb kl nl al tl).length = tl.length + 16 := by rw [sealb, List.length_append, cryb_len, tagb_len]
/-- What Seal answers. -/
def selR (kl nl al tl : List UInt8) : Nat := selE kl.length nl.length al.length tl.length
def selB (kl nl al tl : List UInt8) : List UInt8 := if selR kl nl al tl = 0 then sealb kl nl al tl else []
/-- What Open answers. -/
def opnR (kl nl al sl : List UInt8) : Nat :=
  if opnE kl.length nl.length al.length sl.length = 0 then (if tagb kl nl al (sl.take (sl.length - 16)) = sl.drop (sl.length - 16) then 0 else 60) else opnE kl.length nl.length al.length sl.length
def opnB (kl nl al sl : List UInt8) : List UInt8 := if opnR kl nl al sl = 0 then cryb kl nl (sl.take (sl.length - 16)) else []
theorem selE_ok {nk nn na nt : Nat} (h : selE nk nn na nt = 0) : (nk = 16 ∨ nk = 32) ∧ nn = 12 ∧ na ≤ 65536 ∧ nt ≤ 65536 := by
  unfold selE at h
  split at h
  · rename_i h1
    split at h
    · omega
    · exact ⟨h1.1, h1.2, by omega, by omega⟩
  · omega
theorem selE_zero {nk nn na nt : Nat} (hk : nk = 16 ∨ nk = 32) (hn : nn = 12) (ha : na ≤ 65536) (ht : nt ≤ 65536) : selE nk nn na nt = 0 := by
  unfold selE
  rw [if_pos ⟨hk, hn⟩, if_neg (by omega)]
theorem opnE_ok {nk nn na ns : Nat} (h : opnE nk nn na ns = 0) : (nk = 16 ∨ nk = 32) ∧ nn = 12 ∧ na ≤ 65536 ∧ ns ≤ 65552 ∧ 16 ≤ ns := by
  unfold opnE at h
  split at h
  · rename_i h1
    split at h
    · omega
    · split at h
      · omega
      · exact ⟨h1.1, h1.2, by omega, by omega, by omega⟩
  · omega
theorem opnE_zero {nk nn na ns : Nat} (hk : nk = 16 ∨ nk = 32) (hn : nn = 12) (ha : na ≤ 65536) (hs : ns ≤ 65552) (hs2 : 16 ≤ ns) : opnE nk nn na ns = 0 := by
  unfold opnE
  rw [if_pos ⟨hk, hn⟩, if_neg (by omega), if_neg (by omega)]
/-- What was sealed is opened. -/
theorem opnR_seal (kl nl al tl : List UInt8) (h : selR kl nl al tl = 0) : opnR kl nl al (sealb kl nl al tl) = 0 := by
  obtain ⟨h1, h2, h3, h4⟩ := selE_ok h
  unfold opnR
  rw [if_pos (opnE_zero h1 h2 h3 (by rw [sealb_len]; omega) (by rw [sealb_len]; omega)), sealb_len, Nat.add_sub_cancel, if_pos]
  unfold sealb
  rw [List.take_left' (cryb_len kl nl tl), List.drop_left' (cryb_len kl nl tl)]
theorem opnB_seal (kl nl al tl : List UInt8) (h : selR kl nl al tl = 0) : opnB kl nl al (sealb kl nl al tl) = tl := by
  unfold opnB
  rw [if_pos (opnR_seal kl nl al tl h), sealb_len, Nat.add_sub_cancel]
  unfold sealb
  rw [List.take_left' (cryb_len kl nl tl), cryb_back]
/-- The errors that there are. -/
theorem selR_le (kl nl al tl : List UInt8) : selR kl nl al tl ≤ 3 := by
  unfold selR selE
  split
  · split <;> omega
  · omega
theorem opnE_le (nk nn na ns : Nat) : opnE nk nn na ns ≤ 4 := by
  unfold opnE
  split
  · split
    · omega
    · split <;> omega
  · omega
theorem opnR_le (kl nl al sl : List UInt8) : opnR kl nl al sl ≤ 60 := by
  have := opnE_le kl.length nl.length al.length sl.length
  unfold opnR
  split
  · split <;> omega
  · omega
/-- A call's answer: bytes that can be read, and an error. -/
def Ans (w : World) (B : List UInt8) (R : Nat) (e : Ending) (w' : World) : Prop :=
  ∃ C c, e = .returned (.tuple #[.slice C B.length c, .int .i64 (R : Int)]) ∧ B.length ≤ c ∧ Rd w' w'.heap.size C (vb B) ∧ Below w.heap.size w w'

/-- The same, the bytes in memory of their own. -/
def AnsO (w : World) (B : List UInt8) (R : Nat) (e : Ending) (w' : World) : Prop :=
  ∃ v, e = .returned (.tuple #[v, .int .i64 (R : Int)]) ∧ w'.ownsRow w.heap.size 5 1 v B.length (vb B) ∧ Below w.heap.size w w'
theorem AnsO.ans {w : World} {B : List UInt8} {R : Nat} : ∀ (e : Ending) (w' : World), AnsO w B R e w' → Ans w B R e w' := fun e w' ⟨v, he, ho, hb⟩ => by
  obtain ⟨C, c, rfl, _, hr⟩ := Rd.of_own ho
  exact ⟨C, c, he, own_cap ho, hr, hb⟩

theorem rtagK_any (K : Option Addr) (kl : List UInt8) (nk ck : Nat) (hkn : kl.length = nk) (hk16 : nk = 16 ∨ nk = 32) (N : Option Addr) (nl : List UInt8) (cn : Nat) (hnl : nl.length = 12)
    (A B : Option Addr) (al bl : List UInt8) (na nb ca cb : Nat) (hna : al.length = na) (hnb : bl.length = nb) (hla : na ≤ 100000) (hlb : nb ≤ 100000) (w : World)
    (hk : Rd w w.heap.size K (vb kl)) (h1 : Rd w w.heap.size N (vb nl)) (h2 : Rd w w.heap.size A (vb al)) (h3 : Rd w w.heap.size B (vb bl)) :
    Calls Try.prog 21 #[.slice K nk ck, .slice N 12 cn, .slice A na ca, .slice B nb cb] w fun e w' => ∃ v, e = .returned v ∧ w'.ownsRow w.heap.size 5 1 v 16 (vb (tagb kl nl al bl)) ∧ Below w.heap.size w w' := by
  rw [tagb_vb]
  rw [vb_vn] at hk h1 h2 h3
  have hz : B16 (encK (kl.map UInt8.toNat) fun _ => 0) := encK_lt _ (vb_lt kl) _ (fun _ _ => by decide)
  exact rtag_any (encK (kl.map UInt8.toNat)) (encK_lt _ (vb_lt kl)) K (kl.map UInt8.toNat) nk ck (fun b W hb hr => rencK_any K _ nk ck (by simpa using hkn) (vb_lt kl) hk16 b W hb hr)
    N (nl.map UInt8.toNat) cn (by simpa using hnl) (vb_lt nl) A B (al.map UInt8.toNat) (bl.map UInt8.toNat) na nb ca cb _ (fun i _ => hby_lt _ i)
    (fun W ha hb => rsum_any _ hz A B _ _ na nb ca cb (by simpa using hna) (by simpa using hnb) (vb_lt al) (vb_lt bl) hla hlb W ha hb) w hk h1 h2 h3

theorem rseal_all (K N A B : Option Addr) (kl nl al tl : List UInt8) (nk nn na nt ck cn ca ct : Nat) (hk : kl.length = nk) (hn : nl.length = nn) (ha : al.length = na) (ht : tl.length = nt) (w : World)
    (r1 : Rd w w.heap.size K (vb kl)) (r2 : Rd w w.heap.size N (vb nl)) (r3 : Rd w w.heap.size A (vb al)) (r4 : Rd w w.heap.size B (vb tl)) :
    Calls Try.prog 12 #[.slice K nk ck, .slice N nn cn, .slice A na ca, .slice B nt ct] w (Ans w (selB kl nl al tl) (selR kl nl al tl)) := by
  unfold selB
  by_cases h : selR kl nl al tl = 0
  · rw [if_pos h]
    have h' := h
    unfold selR at h'
    obtain ⟨h1, h2, h3, h4⟩ := selE_ok h'
    obtain rfl : nn = 12 := by omega
    rw [hk] at h1
    have hC := rcryptK_any K (kl.map UInt8.toNat) nk ck (by simpa using hk) (vb_lt kl) h1 N (nl.map UInt8.toNat) cn (by simpa using hn) (vb_lt nl) B (tl.map UInt8.toNat) nt ct (by simpa using ht) (vb_lt tl) (by omega) w (by rw [← vb_vn]; exact r1) (by rw [← vb_vn]; exact r2) (by rw [← vb_vn]; exact r4)
    rw [show vn (crL (encK (kl.map UInt8.toNat)) (stF (nl.map UInt8.toNat)) (tl.map UInt8.toNat) nt) = vb (cryb kl nl tl) from by rw [cryb_vb, ht]] at hC
    refine (rseal_any K N A B nk na nt ck cn ca ct h1 (by omega) (by omega) (vb (cryb kl nl tl)) (vb (tagb kl nl al (cryb kl nl tl))) (by simp [vb, cryb_len, ht]) (by simp [vb, tagb_len]) (vb_onec _) w hC
      (fun W C c hb hr => rtagK_any K kl nk ck hk h1 N nl cn hn A C al (cryb kl nl tl) na nt ca c ha (by rw [cryb_len, ht]) (by omega) (by omega) W (r1.go hb) (r2.go hb) (r3.go hb) hr)).mono ?_
    rintro e w' ⟨v, rfl, ho, hb⟩
    obtain ⟨C, c, rfl, _, hr⟩ := Rd.of_own ho
    refine ⟨C, c, ?_, ?_, ?_, hb⟩
    · rw [sealb_len, ht, h]; rfl
    · rw [sealb_len, ht]; exact own_cap ho
    · rw [sealb, show vb (cryb kl nl tl ++ tagb kl nl al (cryb kl nl tl)) = vb (cryb kl nl tl) ++ vb (tagb kl nl al (cryb kl nl tl)) from by simp [vb]]; exact hr
  · rw [if_neg h]
    have h' := h
    unfold selR at h'
    rw [hk, hn, ha, ht] at h'
    refine (rseal_no K N A B nk nn na nt ck cn ca ct h' w).mono ?_
    rintro e w' ⟨rfl, rfl⟩
    exact ⟨none, 0, by rw [show selR kl nl al tl = selE nk nn na nt from by unfold selR; rw [hk, hn, ha, ht]]; rfl, Nat.le_refl _, Rd.nil _ _ _, Below.refl _ _⟩

theorem ropen_all (K N A B : Option Addr) (kl nl al sl : List UInt8) (nk nn na ns ck cn ca cs : Nat) (hk : kl.length = nk) (hn : nl.length = nn) (ha : al.length = na) (hs : sl.length = ns) (hcs : ns ≤ cs) (w : World)
    (r1 : Rd w w.heap.size K (vb kl)) (r2 : Rd w w.heap.size N (vb nl)) (r3 : Rd w w.heap.size A (vb al)) (r4 : Rd w w.heap.size B (vb sl)) :
    Calls Try.prog 15 #[.slice K nk ck, .slice N nn cn, .slice A na ca, .slice B ns cs] w (Ans w (opnB kl nl al sl) (opnR kl nl al sl)) := by
  by_cases h : opnE nk nn na ns = 0
  · obtain ⟨h1, h2, h3, h4, h5⟩ := opnE_ok h
    obtain rfl : nn = 12 := by omega
    obtain ⟨m, hm⟩ : ∃ m, ns = m + 16 := ⟨ns - 16, by omega⟩
    have hm2 : sl.length - 16 = m := by omega
    have eR : opnR kl nl al sl = if tagb kl nl al (sl.take m) = sl.drop m then 0 else 60 := by
      unfold opnR
      rw [hk, hn, ha, hs, if_pos h, show ns - 16 = m from by omega]
    have rp : ∀ W : World, Below w.heap.size w W → Rd W W.heap.size B (vb (sl.take m)) := fun W hb => by
      have := (r4.go hb)
      rw [show vb (sl.take m) = (vb sl).take m from by simp [vb]]
      intro h0
      have h00 : 0 < (vb sl).length := by rw [List.length_take] at h0; omega
      obtain ⟨ad, e, hbk, hc⟩ := this h00
      refine ⟨ad, e, hbk, fun j u hj => hc j u ?_⟩
      rw [List.getElem?_take] at hj
      split at hj
      · exact hj
      · cases hj
    have lt : (sl.take m).length = m := by rw [List.length_take]; omega
    refine (ropen_any K N A B nk na ns m ck cn ca cs h1 h3 h4 hm hcs sl hs (tagb kl nl al (sl.take m)) (tagb_len _ _ _ _) (vb (cryb kl nl (sl.take m))) w r4
      (fun W hb => rtagK_any K kl nk ck hk h1 N nl cn hn A B al (sl.take m) na m ca cs ha lt (by omega) (by omega) W (r1.go hb) (r2.go hb) (r3.go hb) (rp W hb))
      (fun W hb => by
        rw [show vb (cryb kl nl (sl.take m)) = vn (crL (encK (kl.map UInt8.toNat)) (stF (nl.map UInt8.toNat)) ((sl.take m).map UInt8.toNat) m) from by rw [cryb_vb, lt]]
        exact rcryptK_any K (kl.map UInt8.toNat) nk ck (by simpa using hk) (vb_lt kl) h1 N (nl.map UInt8.toNat) cn (by simpa using hn) (vb_lt nl) B ((sl.take m).map UInt8.toNat) m cs (by rw [List.length_map, lt]) (vb_lt _) (by omega) W
          (by rw [← vb_vn]; exact r1.go hb) (by rw [← vb_vn]; exact r2.go hb) (by rw [← vb_vn]; exact rp W hb))).mono ?_
    rintro e w' ⟨ho1, ho2, hb⟩
    by_cases ht : tagb kl nl al (sl.take m) = sl.drop m
    · rw [if_pos ht] at eR
      obtain ⟨v, rfl, ho⟩ := ho1 ht
      obtain ⟨C, c, rfl, _, hr⟩ := Rd.of_own ho
      have eB : opnB kl nl al sl = cryb kl nl (sl.take m) := by unfold opnB; rw [if_pos eR, hm2]
      rw [eB, eR]
      exact ⟨C, c, by rw [cryb_len, lt]; rfl, by rw [cryb_len, lt]; exact own_cap ho, hr, hb⟩
    · rw [if_neg ht] at eR
      have eB : opnB kl nl al sl = [] := by unfold opnB; rw [if_neg (by rw [eR]; decide)]
      rw [eB, eR, ho2 ht]
      exact ⟨none, 0, rfl, Nat.le_refl _, Rd.nil _ _ _, hb⟩
  · have eR : opnR kl nl al sl = opnE nk nn na ns := by
      unfold opnR
      rw [hk, hn, ha, hs, if_neg h]
    have eB : opnB kl nl al sl = [] := by unfold opnB; rw [if_neg (by rw [eR]; exact h)]
    rw [eB, eR]
    refine (ropen_no K N A B nk nn na ns ck cn ca cs h w).mono ?_
    rintro e w' ⟨rfl, rfl⟩
    exact ⟨none, 0, rfl, Nat.le_refl _, Rd.nil _ _ _, Below.refl _ _⟩
end Go.Proofs.Ytkfmgjipocmkjaa
namespace Go.Proofs.Ytkfmgjipocmkjaa
open Go Go.RowKit
set_option linter.unusedVariables false
set_option linter.unusedSimpArgs false

/-- Two blocks, one behind the other. -/
def two (h m : Nat → Nat) (i : Nat) : Nat := if i < 16 then h i else m (i - 16)
theorem zero32 : (#[.int .u8 0, .int .u8 0, .int .u8 0, .int .u8 0, .int .u8 0, .int .u8 0, .int .u8 0, .int .u8 0, .int .u8 0, .int .u8 0, .int .u8 0, .int .u8 0, .int .u8 0, .int .u8 0, .int .u8 0, .int .u8 0, .int .u8 0, .int .u8 0, .int .u8 0, .int .u8 0, .int .u8 0, .int .u8 0, .int .u8 0, .int .u8 0, .int .u8 0, .int .u8 0, .int .u8 0, .int .u8 0, .int .u8 0, .int .u8 0, .int .u8 0, .int .u8 0] : Array Value) = aN 32 fun _ => 0 := rfl
theorem tg_size : (Try.prog.info? 37).map (·.size) = some 32 := by kernel_rfl
theorem tg_built (h m : Nat → Nat) : Try.prog.built 37 [(0, .agg (aN 16 h)), (1, .agg (aN 16 m))] = some (aN 32 (two h m)) := by kernel_rfl
theorem tg_new (w : World) : (w.alloc (.cells (aN 32 fun _ => 0) 37)).heap[w.heap.size]? = some (.cells (aN 32 fun _ => 0) 37 (0, 0)) := heap_alloc_new w _
theorem wpList_build_tg {ops : Array Oper} {rest : List Oper} {o : Oper} {a : Act} {w : World} {Q : Exit → Act → World → Prop} (hg : o.guard = none) (x y : Operand) (ho : o.op = .build 37 #[(0, x), (1, y)]) (h m : Nat → Nat)
    (hx : a.eval x = .agg (aN 16 h)) (hy : a.eval y = .agg (aN 16 m)) (k : wpList Try.prog ops Q rest (a.put o.dst (.agg (aN 32 (two h m)))) w) : wpList Try.prog ops Q (o :: rest) a w := by
  have e : (Try.prog.built 37 ((#[(0, x), (1, y)] : Array (Nat × Operand)).map fun (i, z) => (i, a.eval z)).toList) = some (aN 32 (two h m)) := by
    rw [← tg_built h m]; simp [hx, hy]
  refine wpList_build hg _ _ ho (by rw [e]; rfl) ?_
  rw [e]
  exact k
theorem results_two_tg {fn : Func} {p u : Tmp} {ty : TypeId} (h : fn.results = #[.cell p ty, .tmp u]) (tmps : Array Value) (w : World) (g : Nat) (t : TypeId) (cs : Array Value) (fr : Nat × Nat) (fs : Array Field) (v : Value)
    (hp : tmps.getD p undef = .pointer (some ⟨g, 0, none⟩)) (hv : tmps.getD u undef = v) (hg : w.heap[g]? = some (.cells cs t fr))
    (hu : Try.prog.underlying ty = some (.struct fs)) (hi : (Try.prog.info? ty).map (·.size) = some cs.size) :
    (results fn tmps).run Try.prog w = .ok (.tuple #[.agg cs, v]) w := by
  rw [results_cell_tmp h]
  have hp' : tmps[p]?.getD undef = .pointer (some ⟨g, 0, none⟩) := by simpa using hp
  have hv' : tmps[u]?.getD undef = v := by simpa using hv
  simp [hp', hv', asAddr, run_loadVar_row w g t ty cs fr (.struct fs) hg hu rfl hi]

set_option maxRecDepth 100000 in
set_option maxHeartbeats 4000000 in
theorem newTagger_any (K : Option Addr) (kl : List Nat) (nk ck : Nat) (hkn : kl.length = nk) (hkv : ∀ x ∈ kl, x < 256) (hk16 : nk = 16 ∨ nk = 32) (hkc : nk ≤ ck)
    (A : Option Addr) (nl : List Nat) (cn : Nat) (hnl : nl.length = 12) (hnv : ∀ x ∈ nl, x < 256) (hnc : 12 ≤ cn) (w : World) (hk : Rd w w.heap.size K (vn kl)) (h1 : Rd w w.heap.size A (vn nl)) :
    Calls Try.prog 17 #[.slice K nk ck, .slice A 12 cn] w fun e w' => e = .returned (.tuple #[.agg (aN 32 (two (encK kl fun _ => 0) (encK kl (stF nl)))), .int .i64 0]) ∧ Below w.heap.size w w' := by
  have hr1 : 1 ≤ kl.length / 4 + 6 := by omega
  have hr2 : kl.length / 4 + 6 ≤ 14 := by omega
  have HBK : Hid (BK (kF kl) (kl.length / 4 + 6)) := Lib.hid (kF_bk kl hkv _)
  have hnew : ∀ w0 : World, Below w.heap.size w w0 → Calls Try.prog 24 #[.slice K nk ck] w0 fun e w' => ∃ c, e = .returned (.tuple #[.pointer (some ⟨c, 0, none⟩), .int .i64 0]) ∧ Ci (kl.length / 4 + 6) w' c (kF kl) ∧ Below w0.heap.size w0 w' := fun w0 hb => newK_any K kl nk ck hkn hkv hk16 hkc w0 (hk.go hb)
  have hfirst : ∀ w0 : World, Below w.heap.size w w0 → Calls Try.prog 25 #[.slice A 12 cn] w0 fun e w' => e = .returned (.tuple #[.agg (aN 16 (stF nl)), .int .i64 0]) ∧ Below w0.heap.size w0 w' := fun w0 hb => cfirst_any A nl cn hnl hnv hnc w0 (h1.go hb)
  have hst : B16 (stF nl) := stF_lt nl hnv
  show Calls Try.prog 17 #[.slice K nk ck, .slice A 12 cn] w fun e w' => e = .returned (.tuple #[.agg (aN 32 (two (enc (kF kl) (kl.length / 4 + 6) fun _ => 0) (enc (kF kl) (kl.length / 4 + 6) (stF nl)))), .int .i64 0]) ∧ Below w.heap.size w w'
  generalize stF nl = s at *
  generalize kl.length / 4 + 6 = r at *
  generalize kF kl = F at *
  have HN := Lib.hid hnew; clear hnew
  have HFI := Lib.hid hfirst; clear hfirst
  have HST := Lib.hid hst; clear hst
  clear hkn hkv hk16 hkc hnl hnv hnc hk h1
  have hz : B16 (fun _ => 0) := fun _ _ => by show (0 : Nat) < 256; decide
  have HZ := Lib.hid hz; clear hz
  obtain ⟨h0, hh0⟩ : ∃ h0, h0 = enc F r fun _ => 0 := ⟨_, rfl⟩
  obtain ⟨m0, hm0⟩ : ∃ m0, m0 = enc F r s := ⟨_, rfl⟩
  rw [← hh0, ← hm0]
  have HH0 := Lib.hid hh0; clear hh0
  have HM0 := Lib.hid hm0; clear hm0
  go_enter Try.func17, Try.ntmps17
  go_wp2_with fail
  rw [zero32]
  have D4 := tg_new w
  have hb0 : Below w.heap.size w (w.alloc (.cells (aN 32 fun _ => 0) 37)) := (Below.refl _ _).alloc (Nat.le_refl _) _
  generalize w.alloc (.cells (aN 32 fun _ => 0) 37) = w0 at *
  refine (HN.out w0 hb0).mono ?_
  rintro e w1 ⟨c, rfl, hci, hb1⟩
  have hB1 : Below w.heap.size w w1 := hb0.trans (hb1.mono hb0.size)
  replace D4 := one_call D4 hb1
  have HCI := Lib.hid hci; clear hci hb1 hb0 HN
  try clear w0
  go_wp2_with fail
  refine (HFI.out w1 hB1).mono ?_
  rintro e w2 ⟨rfl, hb2⟩
  have hB2 : Below w.heap.size w w2 := hB1.trans (hb2.mono hB1.size)
  replace D4 := one_call D4 hb2
  replace HCI := Lib.hid (HCI.out.far hb2)
  clear hb2 hB1 HFI
  try clear w1
  have dS := new_dS w2
  have hne8 : w.heap.size ≠ w2.heap.size := by have := (Array.getElem?_eq_some_iff.1 D4).1; omega
  go_upto_region 5 with (refine wpList_store_row rfl 35 (.tmp 8) (.tmp 25) rfl w2.heap.size (aN 16 s) rfl rfl 35 _ dS (by rw [aN_size]; exact blk_size) (by simp only [aN_size]) (aN_one _ _) ?_)
  obtain ⟨d8, hbN⟩ := new_row w2 s
  have hB3 := hB2.trans (hbN.mono hB2.size)
  replace D4 := one_call D4 hbN
  replace HCI := Lib.hid (HCI.out.far hbN)
  clear hbN dS hB2 hne8
  generalize (w2.alloc (.cells #[.int .u8 0, .int .u8 0, .int .u8 0, .int .u8 0, .int .u8 0, .int .u8 0, .int .u8 0, .int .u8 0, .int .u8 0, .int .u8 0, .int .u8 0, .int .u8 0, .int .u8 0, .int .u8 0, .int .u8 0, .int .u8 0] 35)).setRow w2.heap.size (aN 16 s) = w3 at *
  generalize w2.heap.size = b8 at *
  try clear w2
  go_wp2_with fail
  rw [zero16]
  have hE := encrypt_any r F (fun _ => 0) c w3 hr1 hr2 HZ.out HBK.out HCI.out
  rw [← HH0.out] at hE
  refine hE.mono ?_
  clear hE
  rintro e w4 ⟨rfl, hb4⟩
  have hB4 := hB3.trans (hb4.mono hB3.size)
  replace D4 := one_call D4 hb4
  replace d8 := d8.call hb4
  replace HCI := Lib.hid (HCI.out.far hb4)
  clear hb4 hB3
  try clear w3
  have dS := new_dS w4
  go_upto_region 8 with (refine wpList_store_row rfl 35 (.tmp 9) (.tmp 35) rfl w4.heap.size (aN 16 h0) rfl rfl 35 _ dS (by rw [aN_size]; exact blk_size) (by simp only [aN_size]) (aN_one _ _) ?_)
  obtain ⟨d9, hbN⟩ := new_row w4 h0
  have hB5 := hB4.trans (hbN.mono hB4.size)
  replace D4 := one_call D4 hbN
  replace d8 := d8.call hbN
  replace HCI := Lib.hid (HCI.out.far hbN)
  clear hbN dS hB4
  generalize (w4.alloc (.cells #[.int .u8 0, .int .u8 0, .int .u8 0, .int .u8 0, .int .u8 0, .int .u8 0, .int .u8 0, .int .u8 0, .int .u8 0, .int .u8 0, .int .u8 0, .int .u8 0, .int .u8 0, .int .u8 0, .int .u8 0, .int .u8 0] 35)).setRow w4.heap.size (aN 16 h0) = w5 at *
  generalize w4.heap.size = b9 at *
  try clear w4
  go_wp2_with (refine wpList_load_row rfl 35 (.tmp 8) rfl b8 rfl 35 (aN 16 s) (0, 0) (.array 16 5) d8 Try.underlying35 rfl (by rw [aN_size]; exact blk_size) ?_)
  have hE := encrypt_any r F s c w5 hr1 hr2 HST.out HBK.out HCI.out
  rw [← HM0.out] at hE
  refine hE.mono ?_
  clear hE
  rintro e w6 ⟨rfl, hb6⟩
  have hB6 := hB5.trans (hb6.mono hB5.size)
  replace D4 := one_call D4 hb6
  replace d9 := d9.call hb6
  clear hb6 hB5 d8 HCI
  try clear w5
  have dS := new_dS w6
  go_upto_region 9 with (refine wpList_store_row rfl 35 (.tmp 11) (.tmp 41) rfl w6.heap.size (aN 16 m0) rfl rfl 35 _ dS (by rw [aN_size]; exact blk_size) (by simp only [aN_size]) (aN_one _ _) ?_)
  obtain ⟨d11, hbN⟩ := new_row w6 m0
  have hB7 := hB6.trans (hbN.mono hB6.size)
  replace D4 := one_call D4 hbN
  replace d9 := d9.call hbN
  clear hbN dS hB6
  generalize (w6.alloc (.cells #[.int .u8 0, .int .u8 0, .int .u8 0, .int .u8 0, .int .u8 0, .int .u8 0, .int .u8 0, .int .u8 0, .int .u8 0, .int .u8 0, .int .u8 0, .int .u8 0, .int .u8 0, .int .u8 0, .int .u8 0, .int .u8 0] 35)).setRow w6.heap.size (aN 16 m0) = w7 at *
  generalize w6.heap.size = b11 at *
  try clear w6
  go_wp2_with (first
    | (refine wpList_load_row rfl 35 (.tmp 9) rfl b9 rfl 35 (aN 16 h0) (0, 0) (.array 16 5) d9 Try.underlying35 rfl (by rw [aN_size]; exact blk_size) ?_)
    | (refine wpList_load_row rfl 35 (.tmp 11) rfl b11 rfl 35 (aN 16 m0) (0, 0) (.array 16 5) d11 Try.underlying35 rfl (by rw [aN_size]; exact blk_size) ?_)
    | (refine wpList_build_tg rfl (.tmp 43) (.tmp 44) rfl h0 m0 rfl rfl ?_)
    | (refine wpList_store_row rfl 37 (.tmp 4) (.tmp 45) rfl w.heap.size (aN 32 (two h0 m0)) rfl rfl 37 _ D4 (by rw [aN_size]; exact tg_size) (by simp only [aN_size]) (aN_one _ _) ?_))
  refine bodyPost_ret (v := .tuple #[.agg (aN 32 (two h0 m0)), .int .i64 0]) (results_two_tg (p := 4) (u := 5) (ty := 37) (by kernel_rfl) _ _ w.heap.size 37 (aN 32 (two h0 m0)) (0, 0) _ (.int .i64 0) rfl rfl ?_ Try.underlying37 (by rw [aN_size]; exact tg_size)) rfl ⟨rfl, ?_⟩
  · exact setRow_heap _ _ _ _ _ _ D4
  · exact below_row hB7 _ (Nat.le_refl _) _
end Go.Proofs.Ytkfmgjipocmkjaa
namespace Go.Proofs.Ytkfmgjipocmkjaa
open Go Go.RowKit
set_option linter.unusedVariables false
set_option linter.unusedSimpArgs false

theorem orX_byF (f g : Nat → Nat) (n : Nat) : orX (byF f 0 n) (byF g 0 n) = byF (fun i => f i ^^^ g i) 0 n := by
  unfold orX byF
  apply List.ext_getElem
  · simp
  · intro i h1 h2
    simp [UInt8.ofNat_xor]
/-- A tagger in memory. -/
def Tg (w : World) (b : Nat) (h m : Nat → Nat) : Prop := w.heap[b]? = some (.cells (aN 32 (two h m)) 37 (0, 0))
theorem Tg.lt {w : World} {b : Nat} {h m : Nat → Nat} (t : Tg w b h m) : b < w.heap.size := (Array.getElem?_eq_some_iff.1 t).1
theorem Tg.cell {w : World} {b : Nat} {h m : Nat → Nat} (t : Tg w b h m) (k : Nat) (hk : k < 32) : w.cell? ⟨b, k, none⟩ = some (.int .u8 (two h m k : Int)) := by
  rw [cell_of_row _ _ _ _ _ _ t]; exact aN_get 32 (two h m) k hk
theorem Tg.call {w w' : World} {b : Nat} {h m : Nat → Nat} (t : Tg w b h m) (hb : Below w.heap.size w w') : Tg w' b h m := one_call t hb
theorem Tg.range {w : World} {b : Nat} {h m : Nat → Nat} (t : Tg w b h m) : w.rangeAt b 0 (vl 16 h) := fun j v hj => by
  have hl : j < 16 := by have := (List.getElem?_eq_some_iff.1 hj).1; rwa [vl_len] at this
  rw [vl_get 16 h j hl] at hj
  rw [Nat.zero_add, t.cell j (by omega), ← hj, two, if_pos hl]
theorem Tg.mask {w : World} {b : Nat} {h m : Nat → Nat} (t : Tg w b h m) (hm : B16 m) : Rd w w.heap.size (some ⟨b, 16, none⟩) (vb (byF m 0 16)) := by
  intro h0
  refine ⟨⟨b, 16, none⟩, rfl, t.lt, ?_⟩
  intro j u hj
  have hl : j < 16 := by have := (List.getElem?_eq_some_iff.1 hj).1; simpa [byF_len] using this
  rw [byF_at m 0 16 j hl (hm _ (by omega))] at hj
  rw [show (⟨b, 16, none⟩ : Addr).add j = ⟨b, 16 + j, none⟩ from by unfold Addr.add; split <;> simp_all, t.cell (16 + j) (by omega), ← hj, two, if_neg (by omega), Nat.add_sub_cancel_left, Nat.zero_add]

set_option maxRecDepth 100000 in
set_option maxHeartbeats 4000000 in
theorem tag_any (h m : Nat → Nat) (hh : B16 h) (hm : B16 m) (A B : Option Addr) (a t : List Nat) (n k ca ct : Nat) (hn : a.length = n) (hk : t.length = k) (ha : ∀ x ∈ a, x < 256) (ht : ∀ x ∈ t, x < 256) (hca : n ≤ ca) (hct : k ≤ ct) (hra : n ≤ 140737488351360) (hrt : k ≤ 140737488351360) (w : World) (h1 : Rd w w.heap.size A (vn a)) (h2 : Rd w w.heap.size B (vn t)) :
    Calls Try.prog 19 #[.agg (aN 32 (two h m)), .slice A n ca, .slice B k ct] w fun e w' => ∃ v, e = .returned v ∧ w'.ownsRow w.heap.size 5 1 v 16 (vb (byF (fun i => hby (gS (hof h) a t) i ^^^ m i) 0 16)) ∧ Below w.heap.size w w' := by
  have hsum : ∀ W : World, Below w.heap.size w W → Calls Try.prog 30 #[.agg (aN 16 h), .slice A n ca, .slice B k ct] W fun e w' => e = .returned (.agg (aN 16 (hby (gS (hof h) a t)))) ∧ Below W.heap.size W w' :=
    fun W hb => csum_any h hh A B a t n k ca ct hn hk ha ht hca hct hra hrt W (h1.go hb) (h2.go hb)
  have hsl : B16 (hby (gS (hof h) a t)) := fun i _ => hby_lt _ i
  rw [← orX_byF]
  generalize hby (gS (hof h) a t) = S at *
  have HS := Lib.hid hsum; clear hsum
  have HSL := Lib.hid hsl; clear hsl
  have HM := Lib.hid hm; clear hm
  clear hh hn hk ha ht hca hct hra hrt h1 h2
  have T3 : Tg (w.alloc (.cells (aN 32 (two h m)) 37)) w.heap.size h m := heap_alloc_new w _
  have hB0 : Below w.heap.size w (w.alloc (.cells (aN 32 (two h m)) 37)) := (Below.refl _ _).alloc (Nat.le_refl _) _
  go_enter Try.func19, Try.ntmps19
  go_upto_region 1 with fail
  generalize w.alloc (.cells (aN 32 (two h m)) 37) = w0 at *
  have HR := Lib.hid T3.range
  have HT := Lib.hid T3; clear T3
  go_wp2_with (refine wpList_load_mid rfl 35 (.tmp 10) rfl w.heap.size 0 rfl (vl 16 h) (.array 16 5) HR.out Try.underlying35 rfl (by rw [vl_len]; exact blk_size) ?_)
  rw [← aN_vl]
  refine (HS.out w0 hB0).mono ?_
  rintro e w1 ⟨rfl, hb1⟩
  have hB1 := hB0.trans (hb1.mono hB0.size)
  replace HT := Lib.hid (HT.out.call hb1)
  clear HR HS hB0 hb1
  try clear w0
  have dS := new_dS w1
  go_upto_region 2 with (refine wpList_store_row rfl 35 (.tmp 7) (.tmp 14) rfl w1.heap.size (aN 16 S) rfl rfl 35 _ dS (by rw [aN_size]; exact blk_size) (by simp only [aN_size]) (aN_one _ _) ?_)
  obtain ⟨d7, hbN⟩ := new_row w1 S
  have hB2 := hB1.trans (hbN.mono hB1.size)
  replace HT := Lib.hid (HT.out.call hbN)
  clear hbN dS hB1
  generalize (w1.alloc (.cells #[.int .u8 0, .int .u8 0, .int .u8 0, .int .u8 0, .int .u8 0, .int .u8 0, .int .u8 0, .int .u8 0, .int .u8 0, .int .u8 0, .int .u8 0, .int .u8 0, .int .u8 0, .int .u8 0, .int .u8 0, .int .u8 0] 35)).setRow w1.heap.size (aN 16 S) = w2 at *
  generalize w1.heap.size = b7 at *
  try clear w1
  have HX : Hid (∀ W : World, Below w2.heap.size w2 W → Calls Try.prog 29 #[.slice (some ⟨b7, 0, none⟩) 16 16, .slice (some ⟨w.heap.size, 16, none⟩) 16 16] W fun e w' => ∃ v, e = .returned (.tuple #[v, .int .i64 0]) ∧ w'.ownsRow W.heap.size 5 1 v 16 (vb (orX (byF S 0 16) (byF m 0 16))) ∧ Below W.heap.size W w') :=
    Lib.hid fun W hb => xor_any _ _ (byF S 0 16) (byF m 0 16) 16 16 16 (byF_len _ _ _) (byF_len _ _ _) W (by decide) ((d7.call hb).rd HSL.out 0 16 (by decide)) ((HT.out.call hb).mask HM.out)
  clear d7 HT HSL HM
  go_region_held3 (fun _ => True) (trivial)
    ((go_at_call 29; refine (HX.out _ (by first | exact Below.refl _ _ | exact (Below.refl _ _).drew)).mono ?_; rintro e w3 ⟨v, rfl, hown, hb3⟩))
  have hb4 : Below w2.heap.size w2 w3 := by first | exact hb3 | exact (Below.refl _ _).drew.trans hb3
  have hown4 : w3.ownsRow w2.heap.size 5 1 v 16 (vb (orX (byF S 0 16) (byF m 0 16))) := hown
  clear hown hb3 HX
  go_wp2_with fail
  go_ret
  exact ⟨v, rfl, own_lower hown4 hB2.size, hB2.trans (hb4.mono hB2.size)⟩
end Go.Proofs.Ytkfmgjipocmkjaa
namespace Go.Proofs.Ytkfmgjipocmkjaa
open Go Go.RowKit
set_option linter.unusedVariables false
set_option linter.unusedSimpArgs false

theorem tg_dS (w : World) : (w.alloc (.cells #[.int .u8 0, .int .u8 0, .int .u8 0, .int .u8 0, .int .u8 0, .int .u8 0, .int .u8 0, .int .u8 0, .int .u8 0, .int .u8 0, .int .u8 0, .int .u8 0, .int .u8 0, .int .u8 0, .int .u8 0, .int .u8 0, .int .u8 0, .int .u8 0, .int .u8 0, .int .u8 0, .int .u8 0, .int .u8 0, .int .u8 0, .int .u8 0, .int .u8 0, .int .u8 0, .int .u8 0, .int .u8 0, .int .u8 0, .int .u8 0, .int .u8 0, .int .u8 0] 37)).heap[w.heap.size]? = some (.cells (aN 32 fun _ => 0) 37 (0, 0)) := tg_new w
theorem tg_row (w : World) (f : Nat → Nat) : ((w.alloc (.cells #[.int .u8 0, .int .u8 0, .int .u8 0, .int .u8 0, .int .u8 0, .int .u8 0, .int .u8 0, .int .u8 0, .int .u8 0, .int .u8 0, .int .u8 0, .int .u8 0, .int .u8 0, .int .u8 0, .int .u8 0, .int .u8 0, .int .u8 0, .int .u8 0, .int .u8 0, .int .u8 0, .int .u8 0, .int .u8 0, .int .u8 0, .int .u8 0, .int .u8 0, .int .u8 0, .int .u8 0, .int .u8 0, .int .u8 0, .int .u8 0, .int .u8 0, .int .u8 0] 37)).setRow w.heap.size (aN 32 f)).heap[w.heap.size]? = some (.cells (aN 32 f) 37 (0, 0)) ∧ Below w.heap.size w ((w.alloc (.cells #[.int .u8 0, .int .u8 0, .int .u8 0, .int .u8 0, .int .u8 0, .int .u8 0, .int .u8 0, .int .u8 0, .int .u8 0, .int .u8 0, .int .u8 0, .int .u8 0, .int .u8 0, .int .u8 0, .int .u8 0, .int .u8 0, .int .u8 0, .int .u8 0, .int .u8 0, .int .u8 0, .int .u8 0, .int .u8 0, .int .u8 0, .int .u8 0, .int .u8 0, .int .u8 0, .int .u8 0, .int .u8 0, .int .u8 0, .int .u8 0, .int .u8 0, .int .u8 0] 37)).setRow w.heap.size (aN 32 f)) :=
  ⟨setRow_heap _ _ _ _ _ _ (tg_new w), below_row ((Below.refl _ _).alloc (Nat.le_refl _) _) _ (Nat.le_refl _) _⟩

/- What newTagger refuses. -/
set_option maxRecDepth 100000 in
theorem newTagger_key (K A : Option Addr) (nk nn ck cn : Nat) (hk : ¬ (nk = 16 ∨ nk = 32)) (w : World) :
    Calls Try.prog 17 #[.slice K nk ck, .slice A nn cn] w fun e w' => e = .returned (.tuple #[.agg (aN 32 fun _ => 0), .int .i64 2]) ∧ Below w.heap.size w w' := by
  have hnew := fun W : World => new_none K nk ck (fun h => hk (.inl h)) (fun h => hk (.inr h)) W
  have HN := Lib.hid hnew; clear hnew hk
  have D4 := tg_new w
  have hb0 : Below w.heap.size w (w.alloc (.cells (aN 32 fun _ => 0) 37)) := (Below.refl _ _).alloc (Nat.le_refl _) _
  go_enter Try.func17, Try.ntmps17
  go_wp2_with fail
  rw [zero32]
  generalize w.alloc (.cells (aN 32 fun _ => 0) 37) = w0 at *
  refine (HN.out w0).mono ?_
  rintro e w1 ⟨rfl, rfl⟩
  go_wp2_with (refine wpList_store_row rfl 37 (.tmp 4) (.tmp 20) rfl w.heap.size (aN 32 fun _ => 0) rfl rfl 37 _ D4 (by rw [aN_size]; exact tg_size) (by simp only [aN_size]) (aN_one _ _) ?_)
  refine bodyPost_ret (v := .tuple #[.agg (aN 32 fun _ => 0), .int .i64 2]) (results_two_tg (p := 4) (u := 5) (ty := 37) (by kernel_rfl) _ _ w.heap.size 37 (aN 32 fun _ => 0) (0, 0) _ (.int .i64 2) rfl rfl ?_ Try.underlying37 (by rw [aN_size]; exact tg_size)) rfl ⟨rfl, ?_⟩
  · exact setRow_heap _ _ _ _ _ _ D4
  · exact below_row hb0 _ (Nat.le_refl _) _
set_option maxRecDepth 100000 in
set_option maxHeartbeats 4000000 in
theorem newTagger_nonce (K : Option Addr) (kl : List Nat) (nk ck : Nat) (hkn : kl.length = nk) (hkv : ∀ x ∈ kl, x < 256) (hk16 : nk = 16 ∨ nk = 32) (hkc : nk ≤ ck) (A : Option Addr) (nn cn : Nat) (h12 : nn ≠ 12) (hl : nn ≤ 140737488351360) (w : World) (hk : Rd w w.heap.size K (vn kl)) :
    Calls Try.prog 17 #[.slice K nk ck, .slice A nn cn] w fun e w' => e = .returned (.tuple #[.agg (aN 32 fun _ => 0), .int .i64 2]) ∧ Below w.heap.size w w' := by
  have hnew : ∀ w0 : World, Below w.heap.size w w0 → Calls Try.prog 24 #[.slice K nk ck] w0 fun e w' => ∃ c, e = .returned (.tuple #[.pointer (some ⟨c, 0, none⟩), .int .i64 0]) ∧ Ci (kl.length / 4 + 6) w' c (kF kl) ∧ Below w0.heap.size w0 w' := fun w0 hb => newK_any K kl nk ck hkn hkv hk16 hkc w0 (hk.go hb)
  have hfirst := fun w0 : World => cfirst_no A nn cn h12 hl w0
  have HN := Lib.hid hnew; clear hnew
  have HFI := Lib.hid hfirst; clear hfirst
  clear hkn hkv hk16 hkc h12 hl hk
  have D4 := tg_new w
  have hb0 : Below w.heap.size w (w.alloc (.cells (aN 32 fun _ => 0) 37)) := (Below.refl _ _).alloc (Nat.le_refl _) _
  go_enter Try.func17, Try.ntmps17
  go_wp2_with fail
  rw [zero32]
  generalize w.alloc (.cells (aN 32 fun _ => 0) 37) = w0 at *
  refine (HN.out w0 hb0).mono ?_
  rintro e w1 ⟨c, rfl, _, hb1⟩
  have hB1 : Below w.heap.size w w1 := hb0.trans (hb1.mono hb0.size)
  replace D4 := one_call D4 hb1
  clear hb1 hb0 HN
  try clear w0
  go_wp2_with fail
  refine (HFI.out w1).mono ?_
  rintro e w2 ⟨rfl, hb2⟩
  have hB2 : Below w.heap.size w w2 := hB1.trans (hb2.mono hB1.size)
  replace D4 := one_call D4 hb2
  clear hb2 hB1 HFI
  try clear w1
  have dS := new_dS w2
  have hne8 : w.heap.size < w2.heap.size := (Array.getElem?_eq_some_iff.1 D4).1
  go_upto_region 5 with (refine wpList_store_row rfl 35 (.tmp 8) (.tmp 25) rfl w2.heap.size (aN 16 fun _ => 0) rfl rfl 35 _ dS (by rw [aN_size]; exact blk_size) (by simp only [aN_size]) (aN_one _ _) ?_)
  obtain ⟨_, hbN⟩ := new_row w2 fun _ => 0
  have hB3 := hB2.trans (hbN.mono hB2.size)
  replace D4 := one_call D4 hbN
  clear hbN dS hB2 hne8
  generalize (w2.alloc (.cells #[.int .u8 0, .int .u8 0, .int .u8 0, .int .u8 0, .int .u8 0, .int .u8 0, .int .u8 0, .int .u8 0, .int .u8 0, .int .u8 0, .int .u8 0, .int .u8 0, .int .u8 0, .int .u8 0, .int .u8 0, .int .u8 0] 35)).setRow w2.heap.size (aN 16 fun _ => 0) = w3 at *
  go_wp2_with (refine wpList_store_row rfl 37 (.tmp 4) (.tmp 29) rfl w.heap.size (aN 32 fun _ => 0) rfl rfl 37 _ D4 (by rw [aN_size]; exact tg_size) (by simp only [aN_size]) (aN_one _ _) ?_)
  refine bodyPost_ret (v := .tuple #[.agg (aN 32 fun _ => 0), .int .i64 2]) (results_two_tg (p := 4) (u := 5) (ty := 37) (by kernel_rfl) _ _ w.heap.size 37 (aN 32 fun _ => 0) (0, 0) _ (.int .i64 2) rfl rfl ?_ Try.underlying37 (by rw [aN_size]; exact tg_size)) rfl ⟨rfl, ?_⟩
  · exact setRow_heap _ _ _ _ _ _ D4
  · exact below_row hB3 _ (Nat.le_refl _) _
/-- On bytes. -/
def tgF (kl nl : List UInt8) : Nat → Nat := two (encK (kl.map UInt8.toNat) fun _ => 0) (encK (kl.map UInt8.toNat) (stF (nl.map UInt8.toNat)))
theorem newTagger_no (K A : Option Addr) (kl nl : List UInt8) (nk nn ck cn : Nat) (hkn : kl.length = nk) (hnn : nl.length = nn) (hkc : nk ≤ ck) (hnc : nn ≤ cn) (hln : nn ≤ 140737488351360) (h : ¬ ((nk = 16 ∨ nk = 32) ∧ nn = 12)) (w : World) (hk : Rd w w.heap.size K (vb kl)) :
    Calls Try.prog 17 #[.slice K nk ck, .slice A nn cn] w fun e w' => e = .returned (.tuple #[.agg (aN 32 fun _ => 0), .int .i64 2]) ∧ Below w.heap.size w w' := by
  by_cases h1 : nk = 16 ∨ nk = 32
  · exact newTagger_nonce K (kl.map UInt8.toNat) nk ck (by simpa using hkn) (vb_lt kl) h1 hkc A nn cn (fun h2 => h ⟨h1, h2⟩) hln w (by rw [← vb_vn]; exact hk)
  · exact newTagger_key K A nk nn ck cn h1 w
theorem newTagger_ok (K A : Option Addr) (kl nl : List UInt8) (nk ck cn : Nat) (hkn : kl.length = nk) (hnn : nl.length = 12) (h16 : nk = 16 ∨ nk = 32) (hkc : nk ≤ ck) (hnc : 12 ≤ cn) (w : World) (hk : Rd w w.heap.size K (vb kl)) (h1 : Rd w w.heap.size A (vb nl)) :
    Calls Try.prog 17 #[.slice K nk ck, .slice A 12 cn] w fun e w' => e = .returned (.tuple #[.agg (aN 32 (tgF kl nl)), .int .i64 0]) ∧ Below w.heap.size w w' :=
  newTagger_any K (kl.map UInt8.toNat) nk ck (by simpa using hkn) (vb_lt kl) h16 hkc A (nl.map UInt8.toNat) cn (by simpa using hnn) (vb_lt nl) hnc w (by rw [← vb_vn]; exact hk) (by rw [← vb_vn]; exact h1)
theorem tagb_any (kl nl : List UInt8) (A B : Option Addr) (al bl : List UInt8) (n k ca ct : Nat) (hn : al.length = n) (hk : bl.length = k) (hca : n ≤ ca) (hct : k ≤ ct) (hra : n ≤ 140737488351360) (hrt : k ≤ 140737488351360) (w : World) (h1 : Rd w w.heap.size A (vb al)) (h2 : Rd w w.heap.size B (vb bl)) :
    Calls Try.prog 19 #[.agg (aN 32 (tgF kl nl)), .slice A n ca, .slice B k ct] w fun e w' => ∃ v, e = .returned v ∧ w'.ownsRow w.heap.size 5 1 v 16 (vb (tagb kl nl al bl)) ∧ Below w.heap.size w w' :=
  tag_any _ _ (encK_lt _ (vb_lt kl) _ (fun _ _ => by show (0 : Nat) < 256; decide)) (encK_lt _ (vb_lt kl) _ (stF_lt _ (vb_lt nl))) A B (al.map UInt8.toNat) (bl.map UInt8.toNat) n k ca ct (by simpa using hn) (by simpa using hk) (vb_lt al) (vb_lt bl) hca hct hra hrt w (by rw [← vb_vn]; exact h1) (by rw [← vb_vn]; exact h2)
theorem ccrypto_any (K : Option Addr) (kl : List UInt8) (nk ck : Nat) (hkn : kl.length = nk) (hk16 : nk = 16 ∨ nk = 32) (hkc : nk ≤ ck)
    (A : Option Addr) (nl : List UInt8) (cn : Nat) (hnl : nl.length = 12) (hnc : 12 ≤ cn) (B : Option Addr) (l : List UInt8) (n ct : Nat) (hn : l.length = n) (hlc : n ≤ ct) (hle : n ≤ 65536) (w : World)
    (hk : Rd w w.heap.size K (vb kl)) (h1 : Rd w w.heap.size A (vb nl)) (h2 : Rd w w.heap.size B (vb l)) :
    Calls Try.prog 18 #[.slice K nk ck, .slice A 12 cn, .slice B n ct] w fun e w' => ∃ v, e = .returned (.tuple #[v, .int .i64 0]) ∧ w'.ownsRow w.heap.size 5 1 v n (vb (cryb kl nl l)) ∧ Below w.heap.size w w' := by
  rw [cryb_vb, hn]
  exact ccrypt_any K (kl.map UInt8.toNat) nk ck (by simpa using hkn) (vb_lt kl) hk16 hkc A (nl.map UInt8.toNat) cn (by simpa using hnl) (vb_lt nl) hnc B (l.map UInt8.toNat) n ct (by simpa using hn) (vb_lt l) hlc hle w
    (by rw [← vb_vn]; exact hk) (by rw [← vb_vn]; exact h1) (by rw [← vb_vn]; exact h2)

set_option maxRecDepth 100000 in
set_option maxHeartbeats 4000000 in
theorem gseal_key (K N A B : Option Addr) (nk nn na nt ck cn ca ct : Nat) (w : World)
    (hT : Calls Try.prog 17 #[.slice K nk ck, .slice N nn cn] w fun e w' => e = .returned (.tuple #[.agg (aN 32 fun _ => 0), .int .i64 2]) ∧ Below w.heap.size w w') :
    Calls Try.prog 11 #[.slice K nk ck, .slice N nn cn, .slice A na ca, .slice B nt ct] w fun e w' => e = .returned (.tuple #[.slice none 0 0, .int .i64 2]) ∧ Below w.heap.size w w' := by
  have HT := Lib.hid hT; clear hT
  go_enter Try.func11, Try.ntmps11
  go_wp2_with fail
  refine HT.out.mono ?_
  rintro e w1 ⟨rfl, hb1⟩
  have dS := tg_dS w1
  go_upto_region 2 with (refine wpList_store_row rfl 37 (.tmp 10) (.tmp 17) rfl w1.heap.size (aN 32 fun _ => 0) rfl rfl 37 _ dS (by rw [aN_size]; exact tg_size) (by simp only [aN_size]) (aN_one _ _) ?_)
  obtain ⟨_, hbN⟩ := tg_row w1 fun _ => 0
  have HB := Lib.hid (hb1.trans (hbN.mono hb1.size))
  clear hb1 hbN dS
  generalize (w1.alloc (.cells #[.int .u8 0, .int .u8 0, .int .u8 0, .int .u8 0, .int .u8 0, .int .u8 0, .int .u8 0, .int .u8 0, .int .u8 0, .int .u8 0, .int .u8 0, .int .u8 0, .int .u8 0, .int .u8 0, .int .u8 0, .int .u8 0, .int .u8 0, .int .u8 0, .int .u8 0, .int .u8 0, .int .u8 0, .int .u8 0, .int .u8 0, .int .u8 0, .int .u8 0, .int .u8 0, .int .u8 0, .int .u8 0, .int .u8 0, .int .u8 0, .int .u8 0, .int .u8 0] 37)).setRow w1.heap.size (aN 32 fun _ => 0) = w2 at *
  go_wp2_with fail
  go_ret2
  exact ⟨rfl, HB.out⟩
set_option maxRecDepth 100000 in
set_option maxHeartbeats 4000000 in
theorem gopen_key (K N A B : Option Addr) (nk nn na nt ck cn ca ct : Nat) (w : World)
    (hT : Calls Try.prog 17 #[.slice K nk ck, .slice N nn cn] w fun e w' => e = .returned (.tuple #[.agg (aN 32 fun _ => 0), .int .i64 2]) ∧ Below w.heap.size w w') :
    Calls Try.prog 14 #[.slice K nk ck, .slice N nn cn, .slice A na ca, .slice B nt ct] w fun e w' => e = .returned (.tuple #[.slice none 0 0, .int .i64 2]) ∧ Below w.heap.size w w' := by
  have HT := Lib.hid hT; clear hT
  go_enter Try.func14, Try.ntmps14
  go_wp2_with fail
  refine HT.out.mono ?_
  rintro e w1 ⟨rfl, hb1⟩
  have dS := tg_dS w1
  go_upto_region 2 with (refine wpList_store_row rfl 37 (.tmp 10) (.tmp 19) rfl w1.heap.size (aN 32 fun _ => 0) rfl rfl 37 _ dS (by rw [aN_size]; exact tg_size) (by simp only [aN_size]) (aN_one _ _) ?_)
  obtain ⟨_, hbN⟩ := tg_row w1 fun _ => 0
  have HB := Lib.hid (hb1.trans (hbN.mono hb1.size))
  clear hb1 hbN dS
  generalize (w1.alloc (.cells #[.int .u8 0, .int .u8 0, .int .u8 0, .int .u8 0, .int .u8 0, .int .u8 0, .int .u8 0, .int .u8 0, .int .u8 0, .int .u8 0, .int .u8 0, .int .u8 0, .int .u8 0, .int .u8 0, .int .u8 0, .int .u8 0, .int .u8 0, .int .u8 0, .int .u8 0, .int .u8 0, .int .u8 0, .int .u8 0, .int .u8 0, .int .u8 0, .int .u8 0, .int .u8 0, .int .u8 0, .int .u8 0, .int .u8 0, .int .u8 0, .int .u8 0, .int .u8 0] 37)).setRow w1.heap.size (aN 32 fun _ => 0) = w2 at *
  go_wp2_with fail
  go_ret2
  exact ⟨rfl, HB.out⟩
set_option maxRecDepth 100000 in
set_option maxHeartbeats 4000000 in
theorem gseal_aad (K N A B : Option Addr) (T : Nat → Nat) (nk nn na nt ck cn ca ct : Nat) (hna : 65536 < na) (w : World)
    (hT : Calls Try.prog 17 #[.slice K nk ck, .slice N nn cn] w fun e w' => e = .returned (.tuple #[.agg (aN 32 T), .int .i64 0]) ∧ Below w.heap.size w w') :
    Calls Try.prog 11 #[.slice K nk ck, .slice N nn cn, .slice A na ca, .slice B nt ct] w fun e w' => e = .returned (.tuple #[.slice none 0 0, .int .i64 3]) ∧ Below w.heap.size w w' := by
  have HT := Lib.hid hT; clear hT
  have hi : (65536 : Int) < (na : Int) := by omega
  clear hna
  go_enter Try.func11, Try.ntmps11
  go_wp2_with fail
  refine HT.out.mono ?_
  rintro e w1 ⟨rfl, hb1⟩
  have dS := tg_dS w1
  go_upto_region 2 with (refine wpList_store_row rfl 37 (.tmp 10) (.tmp 17) rfl w1.heap.size (aN 32 T) rfl rfl 37 _ dS (by rw [aN_size]; exact tg_size) (by simp only [aN_size]) (aN_one _ _) ?_)
  obtain ⟨_, hbN⟩ := tg_row w1 T
  have HB := Lib.hid (hb1.trans (hbN.mono hb1.size))
  clear hb1 hbN dS
  generalize (w1.alloc (.cells #[.int .u8 0, .int .u8 0, .int .u8 0, .int .u8 0, .int .u8 0, .int .u8 0, .int .u8 0, .int .u8 0, .int .u8 0, .int .u8 0, .int .u8 0, .int .u8 0, .int .u8 0, .int .u8 0, .int .u8 0, .int .u8 0, .int .u8 0, .int .u8 0, .int .u8 0, .int .u8 0, .int .u8 0, .int .u8 0, .int .u8 0, .int .u8 0, .int .u8 0, .int .u8 0, .int .u8 0, .int .u8 0, .int .u8 0, .int .u8 0, .int .u8 0, .int .u8 0] 37)).setRow w1.heap.size (aN 32 T) = w2 at *
  go_wp2_with fail
  go_ret2
  exact ⟨rfl, HB.out⟩
set_option maxRecDepth 100000 in
set_option maxHeartbeats 4000000 in
theorem gseal_text (K N A B : Option Addr) (T : Nat → Nat) (nk nn na nt ck cn ca ct : Nat) (hna : na ≤ 65536) (w : World)
    (hT : Calls Try.prog 17 #[.slice K nk ck, .slice N nn cn] w fun e w' => e = .returned (.tuple #[.agg (aN 32 T), .int .i64 0]) ∧ Below w.heap.size w w')
    (hC : ∀ W : World, Below w.heap.size w W → Calls Try.prog 18 #[.slice K nk ck, .slice N nn cn, .slice B nt ct] W fun e w' => e = .returned (.tuple #[.slice none 0 0, .int .i64 3]) ∧ Below W.heap.size W w') :
    Calls Try.prog 11 #[.slice K nk ck, .slice N nn cn, .slice A na ca, .slice B nt ct] w fun e w' => e = .returned (.tuple #[.slice none 0 0, .int .i64 3]) ∧ Below w.heap.size w w' := by
  have HT := Lib.hid hT; clear hT
  have HC := Lib.hid hC; clear hC
  have hi : ¬ (65536 : Int) < (na : Int) := by omega
  clear hna
  go_enter Try.func11, Try.ntmps11
  go_wp2_with fail
  refine HT.out.mono ?_
  rintro e w1 ⟨rfl, hb1⟩
  have dS := tg_dS w1
  go_upto_region 2 with (refine wpList_store_row rfl 37 (.tmp 10) (.tmp 17) rfl w1.heap.size (aN 32 T) rfl rfl 37 _ dS (by rw [aN_size]; exact tg_size) (by simp only [aN_size]) (aN_one _ _) ?_)
  obtain ⟨_, hbN⟩ := tg_row w1 T
  have HB := Lib.hid (hb1.trans (hbN.mono hb1.size))
  clear hb1 hbN dS
  generalize (w1.alloc (.cells #[.int .u8 0, .int .u8 0, .int .u8 0, .int .u8 0, .int .u8 0, .int .u8 0, .int .u8 0, .int .u8 0, .int .u8 0, .int .u8 0, .int .u8 0, .int .u8 0, .int .u8 0, .int .u8 0, .int .u8 0, .int .u8 0, .int .u8 0, .int .u8 0, .int .u8 0, .int .u8 0, .int .u8 0, .int .u8 0, .int .u8 0, .int .u8 0, .int .u8 0, .int .u8 0, .int .u8 0, .int .u8 0, .int .u8 0, .int .u8 0, .int .u8 0, .int .u8 0] 37)).setRow w1.heap.size (aN 32 T) = w2 at *
  go_wp2_with fail
  refine (HC.out w2 HB.out).mono ?_
  rintro e w3 ⟨rfl, hb3⟩
  go_wp2_with fail
  go_ret2
  exact ⟨rfl, HB.out.trans (hb3.mono HB.out.size)⟩
set_option maxRecDepth 100000 in
set_option maxHeartbeats 4000000 in
theorem gseal_ok (K N A B : Option Addr) (T : Nat → Nat) (nk nn na nt ck cn ca ct : Nat) (hna : na ≤ 65536) (hnt : nt ≤ 65536) (cl tl : List UInt8) (hcl : cl.length = nt) (htl : tl.length = 16) (w : World)
    (hT : Calls Try.prog 17 #[.slice K nk ck, .slice N nn cn] w fun e w' => e = .returned (.tuple #[.agg (aN 32 T), .int .i64 0]) ∧ Below w.heap.size w w')
    (hC : ∀ W : World, Below w.heap.size w W → Calls Try.prog 18 #[.slice K nk ck, .slice N nn cn, .slice B nt ct] W fun e w' => ∃ v, e = .returned (.tuple #[v, .int .i64 0]) ∧ w'.ownsRow W.heap.size 5 1 v nt (vb cl) ∧ Below W.heap.size W w')
    (hG : ∀ (W : World) (C : Option Addr) (c : Nat), Below w.heap.size w W → nt ≤ c → Rd W W.heap.size C (vb cl) → Calls Try.prog 19 #[.agg (aN 32 T), .slice A na ca, .slice C nt c] W fun e w' => ∃ v, e = .returned v ∧ w'.ownsRow W.heap.size 5 1 v 16 (vb tl) ∧ Below W.heap.size W w') :
    Calls Try.prog 11 #[.slice K nk ck, .slice N nn cn, .slice A na ca, .slice B nt ct] w fun e w' => ∃ v, e = .returned (.tuple #[v, .int .i64 0]) ∧ w'.ownsRow w.heap.size 5 1 v (nt + 16) (vb cl ++ vb tl) ∧ Below w.heap.size w w' := by
  obtain ⟨j0, hi, hz0, hz1, hz2⟩ := info_parts info_b
  have htl2 : (vb tl).length = 16 := by simp [vb, htl]
  have ht1 : ∀ u ∈ vb tl, u.oneCell' = true := vb_onec tl
  have HT := Lib.hid hT; clear hT
  have HC := Lib.hid hC; clear hC
  have HG := Lib.hid hG; clear hG
  have hai : ¬ (65536 : Int) < (na : Int) := by omega
  clear hcl htl
  generalize vb tl = ts at *
  generalize vb cl = cs at *
  have HT1 := Lib.hid ht1; clear ht1
  have HTL := Lib.hid htl2; clear htl2
  go_enter Try.func11, Try.ntmps11
  go_wp2_with fail
  refine HT.out.mono ?_
  rintro e w1 ⟨rfl, hb1⟩
  have dS := tg_dS w1
  go_upto_region 2 with (refine wpList_store_row rfl 37 (.tmp 10) (.tmp 17) rfl w1.heap.size (aN 32 T) rfl rfl 37 _ dS (by rw [aN_size]; exact tg_size) (by simp only [aN_size]) (aN_one _ _) ?_)
  obtain ⟨d10, hbN⟩ := tg_row w1 T
  have HB := Lib.hid (hb1.trans (hbN.mono hb1.size))
  clear hb1 hbN dS
  generalize (w1.alloc (.cells #[.int .u8 0, .int .u8 0, .int .u8 0, .int .u8 0, .int .u8 0, .int .u8 0, .int .u8 0, .int .u8 0, .int .u8 0, .int .u8 0, .int .u8 0, .int .u8 0, .int .u8 0, .int .u8 0, .int .u8 0, .int .u8 0, .int .u8 0, .int .u8 0, .int .u8 0, .int .u8 0, .int .u8 0, .int .u8 0, .int .u8 0, .int .u8 0, .int .u8 0, .int .u8 0, .int .u8 0, .int .u8 0, .int .u8 0, .int .u8 0, .int .u8 0, .int .u8 0] 37)).setRow w1.heap.size (aN 32 T) = w2 at *
  generalize w1.heap.size = b10 at *
  try clear w1
  go_wp2_with fail
  refine (HC.out w2 HB.out).mono ?_
  rintro e w3 ⟨v, rfl, hown, hb3⟩
  obtain ⟨C, c, rfl, _, hr⟩ := Rd.of_own hown
  have hcap := own_cap hown
  have hsw := HB.out.size
  have HO := Lib.hid (own_lower hown hsw); clear hown
  replace HB : Hid (Below w.heap.size w w3) := Lib.hid (HB.out.trans (hb3.mono hsw))
  replace d10 := one_call d10 hb3
  have HR := Lib.hid hr; clear hr hb3 HC
  clear hsw
  go_wp2_with (refine wpList_load_row rfl 37 (.tmp 10) rfl b10 rfl 37 (aN 32 T) (0, 0) _ d10 Try.underlying37 rfl (by rw [aN_size]; exact tg_size) ?_)
  refine (HG.out w3 C c HB.out hcap HR.out).mono ?_
  rintro e w4 ⟨t, rfl, hown4, hb4⟩
  obtain ⟨D, d, rfl, hD, hr4⟩ := Rd.of_own hown4
  obtain ⟨ad, rfl, hab, hac⟩ := hr4 (by rw [HTL.out]; decide)
  have hown := own_below HO.out hb4
  have hsz := hb4.size
  replace HB : Hid (Below w.heap.size w w4) := Lib.hid (HB.out.trans (hb4.mono HB.out.size))
  have hsz1 := HB.out.size
  clear hr4 HO HR HG HT d10
  go_wp2_with (at_builtin; go_loud (refine wpList_append_own _ rfl _ _ _ rfl w.heap.size 5 j0 (.int .u8 0) 1 1 Try.underlying22 hi hz0 hz1 hz2 rfl (by omega) (.slice C nt c) nt _ rfl hown ad 16 d ts rfl (by rw [HTL.out]) (fun j u hj => hac j u hj) HT1.out (by unfold maxLen; omega) (by omega) (by omega) ?_; intro v' w' hown' hgrow' hnil'))
  go_ret2
  exact ⟨_, rfl, hown', HB.out.grown hgrow' hsz1 (fun k hk => (hown.lt k hk).1)⟩

set_option maxRecDepth 100000 in
set_option maxHeartbeats 4000000 in
theorem gopen_len (K N A B : Option Addr) (T : Nat → Nat) (nk nn na ns ck cn ca cs r : Nat) (hr : 65536 < na ∧ r = 3 ∨ na ≤ 65536 ∧ 65552 < ns ∧ r = 3 ∨ na ≤ 65536 ∧ ns < 16 ∧ r = 4) (w : World)
    (hT : Calls Try.prog 17 #[.slice K nk ck, .slice N nn cn] w fun e w' => e = .returned (.tuple #[.agg (aN 32 T), .int .i64 0]) ∧ Below w.heap.size w w') :
    Calls Try.prog 14 #[.slice K nk ck, .slice N nn cn, .slice A na ca, .slice B ns cs] w fun e w' => e = .returned (.tuple #[.slice none 0 0, .int .i64 (r : Int)]) ∧ Below w.heap.size w w' := by
  have HT := Lib.hid hT; clear hT
  rcases hr with ⟨h1, rfl⟩ | ⟨h1, h2, rfl⟩ | ⟨h1, h2, rfl⟩
  · have hi : (65536 : Int) < (na : Int) := by omega
    clear h1
    go_enter Try.func14, Try.ntmps14
    go_wp2_with fail
    refine HT.out.mono ?_
    rintro e w1 ⟨rfl, hb1⟩
    have dS := tg_dS w1
    go_upto_region 2 with (refine wpList_store_row rfl 37 (.tmp 10) (.tmp 19) rfl w1.heap.size (aN 32 T) rfl rfl 37 _ dS (by rw [aN_size]; exact tg_size) (by simp only [aN_size]) (aN_one _ _) ?_)
    obtain ⟨_, hbN⟩ := tg_row w1 T
    have HB := Lib.hid (hb1.trans (hbN.mono hb1.size))
    clear hb1 hbN dS
    generalize (w1.alloc (.cells #[.int .u8 0, .int .u8 0, .int .u8 0, .int .u8 0, .int .u8 0, .int .u8 0, .int .u8 0, .int .u8 0, .int .u8 0, .int .u8 0, .int .u8 0, .int .u8 0, .int .u8 0, .int .u8 0, .int .u8 0, .int .u8 0, .int .u8 0, .int .u8 0, .int .u8 0, .int .u8 0, .int .u8 0, .int .u8 0, .int .u8 0, .int .u8 0, .int .u8 0, .int .u8 0, .int .u8 0, .int .u8 0, .int .u8 0, .int .u8 0, .int .u8 0, .int .u8 0] 37)).setRow w1.heap.size (aN 32 T) = w2 at *
    go_wp2_with fail
    go_ret2
    exact ⟨rfl, HB.out⟩
  · have hi : ¬ (65536 : Int) < (na : Int) := by omega
    have hj : (65552 : Int) < (ns : Int) := by omega
    clear h1 h2
    go_enter Try.func14, Try.ntmps14
    go_wp2_with fail
    refine HT.out.mono ?_
    rintro e w1 ⟨rfl, hb1⟩
    have dS := tg_dS w1
    go_upto_region 2 with (refine wpList_store_row rfl 37 (.tmp 10) (.tmp 19) rfl w1.heap.size (aN 32 T) rfl rfl 37 _ dS (by rw [aN_size]; exact tg_size) (by simp only [aN_size]) (aN_one _ _) ?_)
    obtain ⟨_, hbN⟩ := tg_row w1 T
    have HB := Lib.hid (hb1.trans (hbN.mono hb1.size))
    clear hb1 hbN dS
    generalize (w1.alloc (.cells #[.int .u8 0, .int .u8 0, .int .u8 0, .int .u8 0, .int .u8 0, .int .u8 0, .int .u8 0, .int .u8 0, .int .u8 0, .int .u8 0, .int .u8 0, .int .u8 0, .int .u8 0, .int .u8 0, .int .u8 0, .int .u8 0, .int .u8 0, .int .u8 0, .int .u8 0, .int .u8 0, .int .u8 0, .int .u8 0, .int .u8 0, .int .u8 0, .int .u8 0, .int .u8 0, .int .u8 0, .int .u8 0, .int .u8 0, .int .u8 0, .int .u8 0, .int .u8 0] 37)).setRow w1.heap.size (aN 32 T) = w2 at *
    go_wp2_with fail
    go_ret2
    exact ⟨rfl, HB.out⟩
  · have hi : ¬ (65536 : Int) < (na : Int) := by omega
    have hj : ¬ (65552 : Int) < (ns : Int) := by omega
    have hk : (ns : Int) < 16 := by omega
    clear h1 h2
    go_enter Try.func14, Try.ntmps14
    go_wp2_with fail
    refine HT.out.mono ?_
    rintro e w1 ⟨rfl, hb1⟩
    have dS := tg_dS w1
    go_upto_region 2 with (refine wpList_store_row rfl 37 (.tmp 10) (.tmp 19) rfl w1.heap.size (aN 32 T) rfl rfl 37 _ dS (by rw [aN_size]; exact tg_size) (by simp only [aN_size]) (aN_one _ _) ?_)
    obtain ⟨_, hbN⟩ := tg_row w1 T
    have HB := Lib.hid (hb1.trans (hbN.mono hb1.size))
    clear hb1 hbN dS
    generalize (w1.alloc (.cells #[.int .u8 0, .int .u8 0, .int .u8 0, .int .u8 0, .int .u8 0, .int .u8 0, .int .u8 0, .int .u8 0, .int .u8 0, .int .u8 0, .int .u8 0, .int .u8 0, .int .u8 0, .int .u8 0, .int .u8 0, .int .u8 0, .int .u8 0, .int .u8 0, .int .u8 0, .int .u8 0, .int .u8 0, .int .u8 0, .int .u8 0, .int .u8 0, .int .u8 0, .int .u8 0, .int .u8 0, .int .u8 0, .int .u8 0, .int .u8 0, .int .u8 0, .int .u8 0] 37)).setRow w1.heap.size (aN 32 T) = w2 at *
    go_wp2_with fail
    go_ret2
    exact ⟨rfl, HB.out⟩

set_option maxRecDepth 100000 in
set_option maxHeartbeats 4000000 in
theorem gopen_ok (K N A B : Option Addr) (T : Nat → Nat) (nk nn na ns m ck cn ca cs : Nat) (hna : na ≤ 65536) (hns : ns ≤ 65552) (hm : ns = m + 16) (hcs : ns ≤ cs) (sl : List UInt8) (hsl : sl.length = ns) (tb : List UInt8) (htb : tb.length = 16) (pl : List Value) (w : World)
    (hB : Rd w w.heap.size B (vb sl))
    (hT : Calls Try.prog 17 #[.slice K nk ck, .slice N nn cn] w fun e w' => e = .returned (.tuple #[.agg (aN 32 T), .int .i64 0]) ∧ Below w.heap.size w w')
    (hG : ∀ W : World, Below w.heap.size w W → Calls Try.prog 19 #[.agg (aN 32 T), .slice A na ca, .slice B m cs] W fun e w' => ∃ v, e = .returned v ∧ w'.ownsRow W.heap.size 5 1 v 16 (vb tb) ∧ Below W.heap.size W w')
    (hC : ∀ W : World, Below w.heap.size w W → Calls Try.prog 18 #[.slice K nk ck, .slice N nn cn, .slice B m cs] W fun e w' => ∃ v, e = .returned (.tuple #[v, .int .i64 0]) ∧ w'.ownsRow W.heap.size 5 1 v m pl ∧ Below W.heap.size W w') :
    Calls Try.prog 14 #[.slice K nk ck, .slice N nn cn, .slice A na ca, .slice B ns cs] w fun e w' =>
      (tb = sl.drop m → ∃ v, e = .returned (.tuple #[v, .int .i64 0]) ∧ w'.ownsRow w.heap.size 5 1 v m pl) ∧ (tb ≠ sl.drop m → e = .returned (.tuple #[.slice none 0 0, .int .i64 60])) ∧ Below w.heap.size w w' := by
  obtain ⟨j0, hi, hz0, hz1, hz2⟩ := info_parts info_b
  obtain ⟨bd, rfl, hbd, hbc⟩ := hB (by simp [vb]; omega)
  clear hbd hbc
  have HT := Lib.hid hT; clear hT
  have HG := Lib.hid hG; clear hG
  have HC := Lib.hid hC; clear hC
  have HB0 := Lib.hid hB; clear hB
  have r1 := fun w : World => run_head (P := Try.prog) 22 5 j0 Try.underlying22 hi (some bd) ns cs m (by omega) w
  have r2 := fun w : World => run_tailB (P := Try.prog) 22 5 j0 Try.underlying22 hi hz1 bd ns cs m (by omega) hcs (by omega) w
  rw [show ns - m = 16 from by omega] at r2
  have hai : ¬ (65536 : Int) < (na : Int) := by omega
  have hti : ¬ (65552 : Int) < (ns : Int) := by omega
  have hsi : ¬ (ns : Int) < 16 := by omega
  have hsub : IntKind.i64.wrap ((ns : Int) - 16) = (m : Int) := by rw [show (ns : Int) - 16 = (m : Int) from by omega]; exact IntWalk.i64_in _ (by omega)
  have hsub2 : (ns : Int) - 16 = (m : Int) := by omega
  have hdl : (sl.drop m).length = 16 := by rw [List.length_drop]; omega
  have hvd : (vb sl).drop m = vb (sl.drop m) := by simp [vb]
  have hRt := HB0.out.tail m
  rw [hvd] at hRt
  have HRT := Lib.hid hRt; clear hRt hvd
  clear hi hz0 hz1 hz2 hsl
  obtain ⟨dl, hdd⟩ : ∃ dl, dl = sl.drop m := ⟨_, rfl⟩
  rw [← hdd] at hdl HRT
  rw [← hdd]
  have HM2 := Lib.hid hm; clear hm hdd
  go_enter Try.func14, Try.ntmps14
  go_wp2_with fail
  refine HT.out.mono ?_
  rintro e w1 ⟨rfl, hb1⟩
  have dS := tg_dS w1
  go_upto_region 2 with (refine wpList_store_row rfl 37 (.tmp 10) (.tmp 19) rfl w1.heap.size (aN 32 T) rfl rfl 37 _ dS (by rw [aN_size]; exact tg_size) (by simp only [aN_size]) (aN_one _ _) ?_)
  obtain ⟨d10, hbN⟩ := tg_row w1 T
  have HB := Lib.hid (hb1.trans (hbN.mono hb1.size))
  clear hb1 hbN dS HT
  generalize (w1.alloc (.cells #[.int .u8 0, .int .u8 0, .int .u8 0, .int .u8 0, .int .u8 0, .int .u8 0, .int .u8 0, .int .u8 0, .int .u8 0, .int .u8 0, .int .u8 0, .int .u8 0, .int .u8 0, .int .u8 0, .int .u8 0, .int .u8 0, .int .u8 0, .int .u8 0, .int .u8 0, .int .u8 0, .int .u8 0, .int .u8 0, .int .u8 0, .int .u8 0, .int .u8 0, .int .u8 0, .int .u8 0, .int .u8 0, .int .u8 0, .int .u8 0, .int .u8 0, .int .u8 0] 37)).setRow w1.heap.size (aN 32 T) = w2 at *
  generalize w1.heap.size = b10 at *
  try clear w1
  have D10 := Lib.hid d10; clear d10
  go_upto_region 9 with fail
  go_quiet (fail)
  have d10 := D10.out
  go_wp2_with (refine wpList_load_row rfl 37 (.tmp 10) rfl b10 rfl 37 (aN 32 T) (0, 0) _ (by exact D10.out) Try.underlying37 rfl (by rw [aN_size]; exact tg_size) ?_)
  refine (HG.out _ (by first | exact HB.out | exact bdrewN HB.out _ | exact HB.out.drew)).mono ?_
  rintro e w4 ⟨t, rfl, hown4, hb4⟩
  obtain ⟨D, d, rfl, _, hr4⟩ := Rd.of_own hown4
  have HB4 : Hid (Below w.heap.size w w4) := Lib.hid ((bdrewN HB.out _).trans (hb4.mono HB.out.size))
  clear hown4 d10 D10 hb4
  go_wp2_with fail
  refine (same_bel (some (bd.add m)) D dl tb 16 16 (cs - m) d hdl htb w4 (by decide) (by decide) (HRT.out.go HB4.out) hr4).mono ?_
  rintro e w6 ⟨rfl, hb6⟩
  have HBB : Hid (Below w.heap.size w w6) := Lib.hid (HB4.out.trans (hb6.mono HB4.out.size))
  clear hb6 HB4 HB hr4
  by_cases hq : tb = dl
  · have hqb : (dl == tb) = true := by simp [hq]
    rw [hqb]
    clear hqb r2
    go_wp2_with fail
    refine (HC.out _ HBB.out).mono ?_
    rintro e w7 ⟨v, rfl, ho7, hb7⟩
    go_wp2_with fail
    go_ret2
    exact ⟨fun _ => ⟨_, rfl, own_lower ho7 HBB.out.size⟩, fun h => absurd hq h, HBB.out.trans (hb7.mono HBB.out.size)⟩
  · have hqb : (dl == tb) = false := by rw [beq_eq_false_iff_ne]; exact fun h => hq h.symm
    rw [hqb]
    clear hqb r2 r1
    go_wp2_with fail
    go_ret2
    exact ⟨fun h => absurd h hq, fun _ => rfl, HBB.out⟩

theorem gseal_own (K N A B : Option Addr) (kl nl al tl : List UInt8) (nk nn na nt ck cn ca ct : Nat) (hk : kl.length = nk) (hn : nl.length = nn) (ha : al.length = na) (ht : tl.length = nt) (ck1 : nk ≤ ck) (cn1 : nn ≤ cn) (ca1 : na ≤ ca) (ct1 : nt ≤ ct)
    (bk : nk ≤ 140737488351360) (bn : nn ≤ 140737488351360) (ba : na ≤ 140737488351360) (bt : nt ≤ 140737488351360) (w : World)
    (r1 : Rd w w.heap.size K (vb kl)) (r2 : Rd w w.heap.size N (vb nl)) (r3 : Rd w w.heap.size A (vb al)) (r4 : Rd w w.heap.size B (vb tl)) :
    Calls Try.prog 11 #[.slice K nk ck, .slice N nn cn, .slice A na ca, .slice B nt ct] w (AnsO w (selB kl nl al tl) (selR kl nl al tl)) := by
  by_cases h : (nk = 16 ∨ nk = 32) ∧ nn = 12
  · obtain ⟨h16, rfl⟩ := h
    have hT := newTagger_ok K N kl nl nk ck cn hk hn h16 ck1 cn1 w r1 r2
    by_cases h3 : 65536 < na ∨ 65536 < nt
    · have eR : selR kl nl al tl = 3 := by unfold selR selE; rw [hk, hn, ha, ht, if_pos ⟨h16, rfl⟩, if_pos (by omega)]
      have eB : selB kl nl al tl = [] := by unfold selB; rw [if_neg (by rw [eR]; decide)]
      rw [eR, eB]
      have : Calls Try.prog 11 #[.slice K nk ck, .slice N 12 cn, .slice A na ca, .slice B nt ct] w fun e w' => e = .returned (.tuple #[.slice none 0 0, .int .i64 3]) ∧ Below w.heap.size w w' := by
        by_cases h4 : 65536 < na
        · exact gseal_aad K N A B _ nk 12 na nt ck cn ca ct h4 w hT
        · have e3 : opE nk 12 nt = 3 := by unfold opE; rw [if_pos ⟨h16, rfl⟩, if_pos (by omega)]
          refine gseal_text K N A B _ nk 12 na nt ck cn ca ct (by omega) w hT (fun W hb => ?_)
          have := ccryptb_no K N B kl nl tl nk 12 nt ck cn ct hk hn ht ck1 cn1 ct1 bk bn bt (by rw [e3]; decide) W (r1.go hb) (r2.go hb) (r4.go hb)
          rw [e3] at this
          exact this
      refine this.mono ?_
      rintro e w' ⟨rfl, hb⟩
      exact ⟨_, rfl, ⟨rfl, .inl ⟨rfl, rfl⟩⟩, hb⟩
    · have eR : selR kl nl al tl = 0 := by unfold selR; rw [hk, hn, ha, ht]; exact selE_zero h16 rfl (by omega) (by omega)
      have eB : selB kl nl al tl = sealb kl nl al tl := by unfold selB; rw [if_pos eR]
      have hlen : (sealb kl nl al tl).length = nt + 16 := by rw [sealb_len, ht]
      rw [eR, eB]
      refine (gseal_ok K N A B _ nk 12 na nt ck cn ca ct (by omega) (by omega) (cryb kl nl tl) (tagb kl nl al (cryb kl nl tl)) (by rw [cryb_len, ht]) (tagb_len _ _ _ _) w hT
        (fun W hb => ccrypto_any K kl nk ck hk h16 ck1 N nl cn hn cn1 B tl nt ct ht ct1 (by omega) W (r1.go hb) (r2.go hb) (r4.go hb))
        (fun W C c hb hc hr => tagb_any kl nl A C al (cryb kl nl tl) na nt ca c ha (by rw [cryb_len, ht]) ca1 hc (by omega) (by omega) W (r3.go hb) hr)).mono ?_
      rintro e w' ⟨v, rfl, ho, hb⟩
      exact ⟨v, rfl, by rw [hlen, sealb, show vb (cryb kl nl tl ++ tagb kl nl al (cryb kl nl tl)) = vb (cryb kl nl tl) ++ vb (tagb kl nl al (cryb kl nl tl)) from by simp [vb]]; exact ho, hb⟩
  · have eR : selR kl nl al tl = 2 := by unfold selR selE; rw [hk, hn, ha, ht, if_neg h]
    have eB : selB kl nl al tl = [] := by unfold selB; rw [if_neg (by rw [eR]; decide)]
    rw [eR, eB]
    refine (gseal_key K N A B nk nn na nt ck cn ca ct w (newTagger_no K N kl nl nk nn ck cn hk hn ck1 cn1 bn h w r1)).mono ?_
    rintro e w' ⟨rfl, hb⟩
    exact ⟨_, rfl, ⟨rfl, .inl ⟨rfl, rfl⟩⟩, hb⟩
theorem gopen_own (K N A B : Option Addr) (kl nl al sl : List UInt8) (nk nn na ns ck cn ca cs : Nat) (hk : kl.length = nk) (hn : nl.length = nn) (ha : al.length = na) (hs : sl.length = ns) (ck1 : nk ≤ ck) (cn1 : nn ≤ cn) (ca1 : na ≤ ca) (cs1 : ns ≤ cs)
    (bk : nk ≤ 140737488351360) (bn : nn ≤ 140737488351360) (ba : na ≤ 140737488351360) (bs : ns ≤ 140737488351360) (w : World)
    (r1 : Rd w w.heap.size K (vb kl)) (r2 : Rd w w.heap.size N (vb nl)) (r3 : Rd w w.heap.size A (vb al)) (r4 : Rd w w.heap.size B (vb sl)) :
    Calls Try.prog 14 #[.slice K nk ck, .slice N nn cn, .slice A na ca, .slice B ns cs] w (AnsO w (opnB kl nl al sl) (opnR kl nl al sl)) := by
  by_cases h : (nk = 16 ∨ nk = 32) ∧ nn = 12
  · obtain ⟨h16, rfl⟩ := h
    have hT := newTagger_ok K N kl nl nk ck cn hk hn h16 ck1 cn1 w r1 r2
    by_cases h3 : 65536 < na ∨ 65552 < ns ∨ ns < 16
    · have eE : opnE nk 12 na ns = if 65536 < na ∨ 65552 < ns then 3 else 4 := by
        unfold opnE
        rw [if_pos ⟨h16, rfl⟩]
        by_cases h4 : 65536 < na ∨ 65552 < ns
        · rw [if_pos h4, if_pos h4]
        · rw [if_neg h4, if_neg h4, if_pos (by omega)]
      have hne : opnE nk 12 na ns ≠ 0 := by rw [eE]; split <;> decide
      have eR : opnR kl nl al sl = opnE nk 12 na ns := by unfold opnR; rw [hk, hn, ha, hs, if_neg hne]
      have eB : opnB kl nl al sl = [] := by unfold opnB; rw [if_neg (by rw [eR]; exact hne)]
      rw [eR, eB]
      refine (gopen_len K N A B _ nk 12 na ns ck cn ca cs (opnE nk 12 na ns) (by rw [eE]; split <;> omega) w hT).mono ?_
      rintro e w' ⟨rfl, hb⟩
      exact ⟨_, rfl, ⟨rfl, .inl ⟨rfl, rfl⟩⟩, hb⟩
    · obtain ⟨m, hm⟩ : ∃ m, ns = m + 16 := ⟨ns - 16, by omega⟩
      have hm2 : sl.length - 16 = m := by omega
      have eR : opnR kl nl al sl = if tagb kl nl al (sl.take m) = sl.drop m then 0 else 60 := by
        unfold opnR
        rw [hk, hn, ha, hs, if_pos (opnE_zero h16 rfl (by omega) (by omega) (by omega)), show ns - 16 = m from by omega]
      have rp : ∀ W : World, Below w.heap.size w W → Rd W W.heap.size B (vb (sl.take m)) := fun W hb => by
        have := (r4.go hb)
        rw [show vb (sl.take m) = (vb sl).take m from by simp [vb]]
        exact this.take m
      have lt : (sl.take m).length = m := by rw [List.length_take]; omega
      refine (gopen_ok K N A B _ nk 12 na ns m ck cn ca cs (by omega) (by omega) hm cs1 sl hs (tagb kl nl al (sl.take m)) (tagb_len _ _ _ _) (vb (cryb kl nl (sl.take m))) w r4 hT
        (fun W hb => tagb_any kl nl A B al (sl.take m) na m ca cs ha lt ca1 (by omega) (by omega) (by omega) W (r3.go hb) (rp W hb))
        (fun W hb => ccrypto_any K kl nk ck hk h16 ck1 N nl cn hn cn1 B (sl.take m) m cs lt (by omega) (by omega) W (r1.go hb) (r2.go hb) (rp W hb))).mono ?_
      rintro e w' ⟨ho1, ho2, hb⟩
      by_cases ht : tagb kl nl al (sl.take m) = sl.drop m
      · rw [if_pos ht] at eR
        obtain ⟨v, rfl, ho⟩ := ho1 ht
        have eB : opnB kl nl al sl = cryb kl nl (sl.take m) := by unfold opnB; rw [if_pos eR, hm2]
        rw [eB, eR]
        exact ⟨v, rfl, by rw [cryb_len, lt]; exact ho, hb⟩
      · rw [if_neg ht] at eR
        have eB : opnB kl nl al sl = [] := by unfold opnB; rw [if_neg (by rw [eR]; decide)]
        rw [eB, eR, ho2 ht]
        exact ⟨_, rfl, ⟨rfl, .inl ⟨rfl, rfl⟩⟩, hb⟩
  · have eE : opnE nk nn na ns = 2 := by unfold opnE; rw [if_neg h]
    have eR : opnR kl nl al sl = 2 := by unfold opnR; rw [hk, hn, ha, hs, eE, if_neg (by decide)]
    have eB : opnB kl nl al sl = [] := by unfold opnB; rw [if_neg (by rw [eR]; decide)]
    rw [eR, eB]
    refine (gopen_key K N A B nk nn na ns ck cn ca cs w (newTagger_no K N kl nl nk nn ck cn hk hn ck1 cn1 bn h w r1)).mono ?_
    rintro e w' ⟨rfl, hb⟩
    exact ⟨_, rfl, ⟨rfl, .inl ⟨rfl, rfl⟩⟩, hb⟩
theorem gseal_all (K N A B : Option Addr) (kl nl al tl : List UInt8) (nk nn na nt ck cn ca ct : Nat) (hk : kl.length = nk) (hn : nl.length = nn) (ha : al.length = na) (ht : tl.length = nt) (ck1 : nk ≤ ck) (cn1 : nn ≤ cn) (ca1 : na ≤ ca) (ct1 : nt ≤ ct)
    (bk : nk ≤ 140737488351360) (bn : nn ≤ 140737488351360) (ba : na ≤ 140737488351360) (bt : nt ≤ 140737488351360) (w : World)
    (r1 : Rd w w.heap.size K (vb kl)) (r2 : Rd w w.heap.size N (vb nl)) (r3 : Rd w w.heap.size A (vb al)) (r4 : Rd w w.heap.size B (vb tl)) :
    Calls Try.prog 11 #[.slice K nk ck, .slice N nn cn, .slice A na ca, .slice B nt ct] w (Ans w (selB kl nl al tl) (selR kl nl al tl)) :=
  (gseal_own K N A B kl nl al tl nk nn na nt ck cn ca ct hk hn ha ht ck1 cn1 ca1 ct1 bk bn ba bt w r1 r2 r3 r4).mono AnsO.ans
theorem gopen_all (K N A B : Option Addr) (kl nl al sl : List UInt8) (nk nn na ns ck cn ca cs : Nat) (hk : kl.length = nk) (hn : nl.length = nn) (ha : al.length = na) (hs : sl.length = ns) (ck1 : nk ≤ ck) (cn1 : nn ≤ cn) (ca1 : na ≤ ca) (cs1 : ns ≤ cs)
    (bk : nk ≤ 140737488351360) (bn : nn ≤ 140737488351360) (ba : na ≤ 140737488351360) (bs : ns ≤ 140737488351360) (w : World)
    (r1 : Rd w w.heap.size K (vb kl)) (r2 : Rd w w.heap.size N (vb nl)) (r3 : Rd w w.heap.size A (vb al)) (r4 : Rd w w.heap.size B (vb sl)) :
    Calls Try.prog 14 #[.slice K nk ck, .slice N nn cn, .slice A na ca, .slice B ns cs] w (Ans w (opnB kl nl al sl) (opnR kl nl al sl)) :=
  (gopen_own K N A B kl nl al sl nk nn na ns ck cn ca cs hk hn ha hs ck1 cn1 ca1 cs1 bk bn ba bs w r1 r2 r3 r4).mono AnsO.ans
end Go.Proofs.Ytkfmgjipocmkjaa
