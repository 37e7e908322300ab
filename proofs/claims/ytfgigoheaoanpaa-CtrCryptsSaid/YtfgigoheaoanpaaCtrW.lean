/-
  What the code's Crypt refuses.
-/
import Derived.Test.YtfgigoheaoanpaaCtrT
import Derived.Test.YtfgigoheaoanpaaCtrV
namespace Go.Proofs.Ytfgigoheaoanpaa
open Go Go.RowKit
set_option linter.unusedVariables false
set_option linter.unusedSimpArgs false

set_option maxRecDepth 100000 in
set_option maxHeartbeats 4000000 in
theorem ccrypt_no (K A B : Option Addr) (kl nl l : List Nat) (nk nn n ck cn ct : Nat) (hkn : kl.length = nk) (hnn : nl.length = nn) (hn : l.length = n) (hkv : ∀ x ∈ kl, x < 256) (hnv : ∀ x ∈ nl, x < 256) (hlv : ∀ x ∈ l, x < 256) (hkc : nk ≤ ck) (hnc : nn ≤ cn) (hlc : n ≤ ct) (hlk : nk ≤ 140737488351360) (hln : nn ≤ 140737488351360) (hll : n ≤ 140737488351360)
    (hno : opE nk nn n ≠ 0) (w : World) (hk : Rd w w.heap.size K (vn kl)) (h1 : Rd w w.heap.size A (vn nl)) (h2 : Rd w w.heap.size B (vn l)) :
    Calls Try.prog 13 #[.slice K nk ck, .slice A nn cn, .slice B n ct] w fun e w' => e = .returned (.tuple #[.slice none 0 0, .int .i64 (opE nk nn n : Int)]) ∧ Below w.heap.size w w' := by
  by_cases hk16 : nk = 16 ∨ nk = 32
  · have hnew := newK_any K kl nk ck hkn hkv hk16 hkc w hk
    by_cases h12 : nn = 12
    · subst h12
      have hbig : 65536 < n := by
        unfold opE at hno
        rw [if_pos ⟨hk16, rfl⟩] at hno
        by_cases h : 65536 < n
        · exact h
        · rw [if_neg h] at hno; exact absurd rfl hno
      have eE : opE nk 12 n = 3 := by unfold opE; rw [if_pos ⟨hk16, rfl⟩, if_pos hbig]
      rw [eE]
      have hf : ∀ w1 : World, Below w.heap.size w w1 → Calls Try.prog 7 #[.slice A 12 cn] w1 fun e w' => e = .returned (.tuple #[.agg (aN 16 (stF nl)), .int .i64 0]) ∧ Below w1.heap.size w1 w' := fun w1 hb => cfirst_any A nl cn hnn hnv hnc w1 (h1.go hb)
      generalize stF nl = s at *
      have HFI := Lib.hid hf; clear hf
      have hi : (65536 : Int) < (n : Int) := by omega
      clear eE hno hk16 hkn hnn hn hkv hnv hlv hkc hnc hlc hlk hln hll hk h1 h2 hbig
      go_enter Try.func13, Try.ntmps13
      go_wp2_with fail
      refine hnew.mono ?_
      rintro e w1 ⟨c, rfl, _, hb1⟩
      clear hnew
      go_wp2_with fail
      refine (HFI.out w1 hb1).mono ?_
      rintro e w2 ⟨rfl, hb2⟩
      have dS := new_dS w2
      go_upto_region 5 with (refine wpList_store_row rfl 23 (.tmp 10) (.tmp 28) rfl w2.heap.size (aN 16 s) rfl rfl 23 _ dS (by rw [aN_size]; exact blk_size) (by simp only [aN_size]) (aN_one _ _) ?_)
      obtain ⟨_, hbN⟩ := new_row w2 s
      have HB := Lib.hid ((hb1.trans (hb2.mono hb1.size)).trans (hbN.mono (Nat.le_trans hb1.size hb2.size)))
      clear hb1 hb2 hbN dS
      generalize (w2.alloc (.cells #[.int .u8 0, .int .u8 0, .int .u8 0, .int .u8 0, .int .u8 0, .int .u8 0, .int .u8 0, .int .u8 0, .int .u8 0, .int .u8 0, .int .u8 0, .int .u8 0, .int .u8 0, .int .u8 0, .int .u8 0, .int .u8 0] 23)).setRow w2.heap.size (aN 16 s) = w3 at *
      go_wp2_with fail
      go_ret2
      exact ⟨rfl, HB.out⟩
    · have eE : opE nk nn n = 2 := by unfold opE; rw [if_neg (fun h => h12 h.2)]
      rw [eE]
      have hf := fun w1 : World => cfirst_no A nn cn h12 hln w1
      have HFI := Lib.hid hf; clear hf
      clear eE hno hk16 hkn hnn hn hkv hnv hlv hkc hnc hlc hlk hln hll hk h1 h2 h12
      go_enter Try.func13, Try.ntmps13
      go_wp2_with fail
      refine hnew.mono ?_
      rintro e w1 ⟨c, rfl, _, hb1⟩
      clear hnew
      go_wp2_with fail
      refine (HFI.out w1).mono ?_
      rintro e w2 ⟨rfl, hb2⟩
      have dS := new_dS w2
      go_upto_region 5 with (refine wpList_store_row rfl 23 (.tmp 10) (.tmp 28) rfl w2.heap.size (aN 16 fun _ => 0) rfl rfl 23 _ dS (by rw [aN_size]; exact blk_size) (by simp only [aN_size]) (aN_one _ _) ?_)
      obtain ⟨_, hbN⟩ := new_row w2 fun _ => 0
      have HB := Lib.hid ((hb1.trans (hb2.mono hb1.size)).trans (hbN.mono (Nat.le_trans hb1.size hb2.size)))
      clear hb1 hb2 hbN dS
      generalize (w2.alloc (.cells #[.int .u8 0, .int .u8 0, .int .u8 0, .int .u8 0, .int .u8 0, .int .u8 0, .int .u8 0, .int .u8 0, .int .u8 0, .int .u8 0, .int .u8 0, .int .u8 0, .int .u8 0, .int .u8 0, .int .u8 0, .int .u8 0] 23)).setRow w2.heap.size (aN 16 fun _ => 0) = w3 at *
      go_wp2_with fail
      go_ret2
      exact ⟨rfl, HB.out⟩
  · have eE : opE nk nn n = 2 := by unfold opE; rw [if_neg (fun h => hk16 h.1)]
    rw [eE]
    have hnew := Lib.hid (new_none K nk ck (fun h => hk16 (.inl h)) (fun h => hk16 (.inr h)) w)
    clear eE hno hk16 hkn hnn hn hkv hnv hlv hkc hnc hlc hlk hln hll hk h1 h2
    go_enter Try.func13, Try.ntmps13
    go_wp2_with fail
    refine hnew.out.mono ?_
    rintro e w1 ⟨rfl, rfl⟩
    go_wp2_with fail
    go_ret2
    exact ⟨rfl, Below.refl _ _⟩
end Go.Proofs.Ytfgigoheaoanpaa
