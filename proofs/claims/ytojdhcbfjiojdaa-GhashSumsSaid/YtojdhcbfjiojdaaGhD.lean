/-
  Texts filled up, as the document does it (layer 4).
-/
import Derived.Test.YtojdhcbfjiojdaaGhC
import Derived.Test.YtojdhcbfjiojdaaRefA
namespace Go.Proofs.Ytojdhcbfjiojdaa
open Go Go.RowKit
set_option linter.unusedVariables false
set_option linter.unusedSimpArgs false

/-- How many noughts fill n bytes up. -/
def lackN (n : Nat) : Nat := (16 - n % 16) % 16
def fullN (l : List Nat) : List Nat := l ++ List.replicate (lackN l.length) 0
theorem fullN_len (l : List Nat) : (fullN l).length = l.length + lackN l.length := by simp [fullN]
theorem fullN_mod (l : List Nat) : (fullN l).length % 16 = 0 := by rw [fullN_len]; unfold lackN; omega
def slen : Value → Nat
  | .slice _ n _ => n
  | _ => 0
theorem nums_one (l : List Nat) : ∀ v ∈ vn l, v.oneCell' = true := by
  intro v hv
  simp only [vn, List.mem_map] at hv
  obtain ⟨b, _, rfl⟩ := hv
  rfl
theorem rep_snoc (k : Nat) : List.replicate (k + 1) 0 = List.replicate k 0 ++ [(0 : Nat)] := by rw [List.replicate_succ']

set_option maxRecDepth 100000 in
set_option maxHeartbeats 1000000 in
theorem gfull_any (A : Option Addr) (l : List Nat) (n cap : Nat) (hn : l.length = n) (hle : n ≤ 1000000) (w : World) (h : Rd w w.heap.size A (vn l)) :
    Calls Try.prog 23 #[.slice A n cap] w fun e w' => ∃ v, e = .returned v ∧ w'.ownsRow w.heap.size 5 1 v (n + lackN n) (vn (fullN l)) ∧ Below w.heap.size w w' := by
  obtain ⟨i0, hi0, hz0, hz1, hz2⟩ := info_parts info_b
  have HI0 := Lib.hid hi0; clear hi0
  have HC := Lib.hid (copyv_any A (vn l) n cap (by rw [vn_len]; exact hn) (nums_one l) w (by omega) h)
  have HN := Lib.hid hn; clear hn h
  have hK : lackN n < 16 := by unfold lackN; omega
  obtain ⟨K, hKe⟩ : ∃ K, K = lackN n := ⟨_, rfl⟩
  rw [← hKe] at hK
  have HK := Lib.hid hKe
  rw [← hKe]
  clear hKe
  go_enter Try.func23, Try.ntmps23
  go_wp2_with fail
  refine HC.out.mono ?_
  rintro e w1 ⟨v, rfl, hown, hb1⟩
  clear HC
  go_wp2_with fail
  go_loopw [3] (fun v wr => ∃ k c : Nat, ∃ A' : Option Addr, k ≤ K ∧ v = .slice A' (n + k) c ∧ Hid (wr.ownsRow w.heap.size 5 1 (.slice A' (n + k) c) (n + k) (vn (l ++ List.replicate k 0))) ∧ Hid (Below w.heap.size w wr)) (fun v _ => n + K - slen v)
  case atStart =>
    obtain ⟨A', c, rfl, _, _⟩ := Rd.of_own hown
    exact ⟨0, c, A', by omega, rfl, Lib.hid (by simpa using hown), Lib.hid hb1⟩
  case round =>
    clear hown hb1
    obtain ⟨k, c, A', hk, rfl, HT, HB⟩ := hrel
    obtain ⟨L, hL⟩ : ∃ L, L = n + k := ⟨_, rfl⟩
    have hmod : L % 16 = 0 ↔ ¬ k < K := by have := HK.out; unfold lackN at this; omega
    rw [← hL] at HT
    rw [← hL]
    have hL1 : (L : Int) ≤ 1000100 := by omega
    have hL0 : (0 : Int) ≤ (L : Int) := by omega
    have hLn : L ≤ 1000100 := by omega
    have HLL := Lib.hid hL; clear hL
    by_cases hlt : k < K
    · have e1 : ((L : Int) % 16 != 0) = true := by
        have : ¬ L % 16 = 0 := fun h => hmod.mp h hlt
        simp; omega
      have HM := Lib.hid hmod; clear hmod
      have hi0 := HI0.out
      have hT := HT.out
      have hsz := HB.out.size
      go_wp2_with (at_builtin; go_loud (refine wpList_append_lies _ rfl (.tmp 10) (.tmp 11) _ rfl w.heap.size 5 i0 _ 1 1 Try.underlying26 hi0 hz0 hz1 hz2 rfl (by omega) (.slice A' L c) L _ rfl (hT.alloc _) ⟨_, 0, none⟩ 1 1 [.int .u8 0] rfl rfl (World.news_of_block (cs := #[.int .u8 0]) (t := 5) (fr := (0, 0)) (heap_alloc_new _ _)) (by simp [Value.oneCell']) (by omega) (by unfold maxLen; omega) (by omega) (by simp; omega) (wr.heap.size + 1) (by simp) ?_; intro gg cap2 w2 hown2 hgrow hat hlt2))
      have HOW : Hid (w2.ownsRow w.heap.size 5 1 (.slice (some ⟨gg, 0, none⟩) (n + (k + 1)) cap2) (n + (k + 1)) (vn (l ++ List.replicate (k + 1) 0))) := Lib.hid (by
        have hL := HLL.out
        rw [show n + (k + 1) = L + 1 from by omega, rep_snoc, ← List.append_assoc]
        simpa [vn] using hown2)
      have HB2 : Hid (Below w.heap.size w w2) := Lib.hid ((HB.out.alloc hsz _).grown hgrow (by simp; omega) (fun k hk => (hT.lt k hk).1))
      rw [show L + 1 = n + (k + 1) from by have := HLL.out; omega]
      go_roundw
      case rel => exact ⟨k + 1, cap2, some ⟨gg, 0, none⟩, by omega, rfl, HOW, HB2⟩
      case measure => have := HLL.out; simp [slen]; omega
    · have e1 : ((L : Int) % 16 != 0) = false := by
        have : L % 16 = 0 := hmod.mpr hlt
        simp; omega
      have HM := Lib.hid hmod; clear hmod
      have hLK : L = n + K := by have := HLL.out; omega
      have HOW : Hid (wr.ownsRow w.heap.size 5 1 (.slice A' L c) (n + K) (vn (fullN l))) := Lib.hid (by
        have e := HT.out
        rw [hLK] at e
        have hkK : k = K := by omega
        rw [hkK] at e
        unfold fullN
        rw [HN.out, ← HK.out, hLK]
        exact e)
      clear hLK
      go_wp2_with fail
      go_ret
      exact ⟨_, rfl, HOW.out, HB.out⟩
end Go.Proofs.Ytojdhcbfjiojdaa
