/-
  The code's bytes of a number and of a text, and a copy of bytes (layer 7).
-/
import Derived.Test.YtbepibkbghmkkaaPkN
import Derived.Test.YtbepibkbghmkkaaApp
import Derived.Lib.SliceRun
namespace Go.Proofs.Ytbepibkbghmkkaa
open Go Go.RowKit
set_option linter.unusedVariables false
set_option linter.unusedSimpArgs false

/-- bytes.Clone. -/
theorem cclone_none (cap : Nat) (w : World) :
    Calls Try.prog 26 #[.slice none 0 cap] w fun e w' => e = .returned (.slice none 0 0) ∧ w' = w := by
  have hnil := fun W : World => Lib.run_eql_slice_nil W 24 5 none 0 cap 0 0 Try.underlying24
  go_enter Try.func26, Try.ntmps26
  go_wp2_with fail
  go_ret
  exact ⟨rfl, rfl⟩
theorem own_empty (w : World) : (w.alloc (.cells #[] 5)).ownsRow w.heap.size 5 1 (.slice (some ⟨w.heap.size, 0, none⟩) 0 0) 0 [] :=
  own_of_blk (n := 0) (cap := 0) (heap_alloc_new w (.cells #[] 5)) (Nat.le_refl _) (Nat.le_refl _) (by unfold maxLen; omega) rfl
set_option maxRecDepth 100000 in
set_option maxHeartbeats 4000000 in
theorem cclone_some (ad : Addr) (l : List Nat) (n cap : Nat) (hn : l.length = n) (hle : n ≤ 140737488351000) (w : World) (h : Rd w w.heap.size (some ad) (vn l)) :
    Calls Try.prog 26 #[.slice (some ad) n cap] w fun e w' => ∃ v, e = .returned v ∧ w'.ownsRow w.heap.size 5 1 v n (vn l) ∧ Below w.heap.size w w' := by
  obtain ⟨j0, hi, hz0, hz1, hz2⟩ := info_parts info_b
  have HN := Lib.hid hn; clear hn
  have hb1 : Below w.heap.size w (w.alloc (.cells #[] 5)) := (Below.refl _ _).alloc (Nat.le_refl _) _
  have H1 := Lib.hid (h.go hb1); clear h
  have HO := Lib.hid (own_empty w)
  have HB := Lib.hid hb1; clear hb1
  have hnil := fun W : World => Lib.run_eql_slice_nil W 24 5 (some ad) n cap 0 0 Try.underlying24
  go_enter Try.func26, Try.ntmps26
  have sz := HB.out.size
  go_wp2_with (at_builtin; refine wpList_append_all rfl (.tmp 5) (.tmp 6) 24 rfl w.heap.size 5 j0 (.int .u8 0) 1 Try.underlying24 hi hz0 hz1 hz2 rfl (.slice (some ⟨w.heap.size, 0, none⟩) 0 0) 0 [] rfl HO.out (some ad) n cap (vn l) rfl (by rw [vn_len]; exact HN.out) H1.out (vn_oneP _) (by unfold maxLen; omega) (by omega) sz ?_; intro v3 w3 hown3 hb3 hgrow3)
  go_ret
  refine ⟨_, rfl, ?_, HB.out.trans hb3.out⟩
  simpa using hown3.out
theorem cclone_any (A : Option Addr) (l : List Nat) (n cap : Nat) (hn : l.length = n) (hle : n ≤ 140737488351000) (w : World) (h : Rd w w.heap.size A (vn l)) :
    Calls Try.prog 26 #[.slice A n cap] w fun e w' => ∃ v, e = .returned v ∧ w'.ownsRow w.heap.size 5 1 v n (vn l) ∧ Below w.heap.size w w' := by
  cases A with
  | some ad => exact cclone_some ad l n cap hn hle w h
  | none =>
    have h0 : n = 0 := by
      rcases Nat.eq_zero_or_pos n with e | e
      · exact e
      · obtain ⟨ad, e2, _⟩ := h (by rw [vn_len, hn]; exact e)
        cases e2
    subst h0
    obtain rfl : l = [] := List.eq_nil_of_length_eq_zero hn
    refine (cclone_none cap w).mono ?_
    rintro e w' ⟨rfl, rfl⟩
    exact ⟨_, rfl, World.ownsRow_nil _ _ _ _, Below.refl _ _⟩

set_option maxRecDepth 100000 in
set_option maxHeartbeats 8000000 in
theorem cpnum_any (n : Nat) (hn : n < 18446744073709551616) (w : World) :
    Calls Try.prog 10 #[.int .u64 (n : Int)] w fun e w' => ∃ v, e = .returned v ∧ w'.ownsRow w.heap.size 5 1 v (leb n).length (vn (leb n)) ∧ Below w.heap.size w w' := by
  obtain ⟨j0, hi, hz0, hz1, hz2⟩ := info_parts info_b
  have HJ := Lib.hid (And.intro hi (And.intro hz0 (And.intro hz1 hz2))); clear hi hz0 hz1 hz2
  obtain ⟨T, hT⟩ : ∃ T, T = leb n := ⟨_, rfl⟩
  have HT0 := Lib.hid (hT.trans (List.nil_append (leb n)).symm)
  have HL0 := Lib.hid (show T.length ≤ 10 by rw [hT]; exact leb_ten n hn)
  rw [← hT]
  clear hT
  go_enter Try.func10, Try.ntmps10
  go_wp2_with fail
  go_loopw [0, 3] (fun m b wr => ∃ k : Nat, ∃ L : List Nat, k < 18446744073709551616 ∧ m = .int .u64 (k : Int) ∧ Hid (T = L ++ leb k) ∧ Hid (wr.ownsRow w.heap.size 5 1 b L.length (vn L)) ∧ Hid (Below w.heap.size w wr)) (fun m _ _ => (intOf m).toNat)
  case atStart => exact ⟨n, [], hn, rfl, HT0, Lib.hid (World.ownsRow_nil _ _ _ _), Lib.hid (Below.refl _ _)⟩
  case round =>
    rename_i wr _ _
    obtain ⟨k, L, hk, rfl, HT, HO, HB⟩ := hrel
    have hi := HJ.out.1
    have hz0 := HJ.out.2.1
    have hz1 := HJ.out.2.2.1
    have hz2 := HJ.out.2.2.2
    have hown := HO.out
    have sz := HB.out.size
    have hLl : L.length ≤ 10 := by have h1 := HL0.out; rw [HT.out, List.length_append] at h1; omega
    by_cases h : k < 128
    · have h1 : ¬ (128 : Int) ≤ (k : Int) := by omega
      have h2 : IntKind.u8.wrap (k : Int) = (k : Int) := IntWalk.u8_in _ (by omega)
      have HE := Lib.hid (show T = L ++ [k] by rw [HT.out, leb_small h]); clear HT
      go_wp2_with (at_builtin; refine wpList_append_lies _ rfl (.tmp 14) (.tmp 17) 24 rfl w.heap.size 5 j0 (.int .u8 0) 1 1 Try.underlying24 hi hz0 hz1 hz2 rfl (by omega) _ L.length (vn L) rfl (hown.alloc _) ⟨wr.heap.size, 0, none⟩ 1 1 [.int .u8 (k : Int)] rfl rfl (World.news_of_block (cs := #[.int .u8 (k : Int)]) (t := 5) (fr := (0, 0)) (heap_alloc_new _ _)) (by simp [Value.oneCell']) (by omega) (by unfold maxLen; omega) (by omega) (by simp; omega) (wr.heap.size + 1) (by simp) ?_; intro g cap w3 hown3 hgrow hat hlt3)
      go_ret
      refine ⟨_, rfl, ?_, ((Below.trans HB.out ((Below.refl _ _).alloc (B := w.heap.size) sz _)).grown hgrow (by simp; omega) (fun k hk => (hown.lt k hk).1))⟩
      rw [HE.out, List.length_append, vn_appP]
      exact hown3
    · have h1 : (128 : Int) ≤ (k : Int) := by omega
      have e1 := or_128 (k % 256) (Nat.mod_lt _ (by omega))
      obtain ⟨d, hd⟩ : ∃ d, d = k % 128 + 128 := ⟨_, rfl⟩
      obtain ⟨m, hm⟩ : ∃ m, m = k / 128 := ⟨_, rfl⟩
      have e2 : bits .or .u8 ((k : Int) % 256) 128 = (d : Int) := by
        rw [show (k : Int) % 256 = ((k % 256 : Nat) : Int) from by omega, e1, hd]; omega
      have e3 : (k : Int) / 128 = (m : Int) := by omega
      have HE := Lib.hid (show T = (L ++ [d]) ++ leb m by rw [HT.out, leb_big h, hd, hm, List.append_assoc]; rfl); clear HT e1
      have HM := Lib.hid (And.intro hd hm); clear hd hm
      go_wp2_with (at_builtin; refine wpList_append_lies _ rfl (.tmp 8) (.tmp 12) 24 rfl w.heap.size 5 j0 (.int .u8 0) 1 1 Try.underlying24 hi hz0 hz1 hz2 rfl (by omega) _ L.length (vn L) rfl (hown.alloc _) ⟨wr.heap.size, 0, none⟩ 1 1 [.int .u8 (d : Int)] rfl rfl (World.news_of_block (cs := #[.int .u8 (d : Int)]) (t := 5) (fr := (0, 0)) (heap_alloc_new _ _)) (by simp [Value.oneCell']) (by omega) (by unfold maxLen; omega) (by omega) (by simp; omega) (wr.heap.size + 1) (by simp) ?_; intro g cap w3 hown3 hgrow hat hlt3)
      go_roundw
      case rel =>
        refine ⟨m, L ++ [d], by have := HM.out.2; omega, rfl, HE, Lib.hid ?_, Lib.hid (((Below.trans HB.out ((Below.refl _ _).alloc (B := w.heap.size) sz _)).grown hgrow (by simp; omega) (fun k hk => (hown.lt k hk).1)))⟩
        rw [List.length_append, vn_appP]
        exact hown3
      case measure => have := HM.out.2; simp [intOf]; omega

set_option maxRecDepth 100000 in
set_option maxHeartbeats 4000000 in
theorem cptext_any (A : Option Addr) (l : List Nat) (n cap : Nat) (hn : l.length = n) (hl : ∀ x ∈ l, x < 256) (hle : n ≤ 1000000) (hc : n ≤ cap) (w : World) (h : Rd w w.heap.size A (vn l)) :
    Calls Try.prog 14 #[.slice A n cap] w fun e w' => ∃ v, e = .returned v ∧ w'.ownsRow w.heap.size 5 1 v ((leb n).length + n) (vn (leb n ++ l)) ∧ Below w.heap.size w w' := by
  obtain ⟨j0, hi, hz0, hz1, hz2⟩ := info_parts info_b
  have HN := Lib.hid hn; clear hn hl
  have H := Lib.hid h; clear h
  have hr := cpnum_any n (by omega) w
  have hll : (leb n).length ≤ 10 := leb_ten n (by omega)
  have e8 : IntKind.u64.wrap (n : Int) = (n : Int) := IntWalk.u64_in _ (by omega)
  obtain ⟨L, hL⟩ : ∃ L, L = leb n := ⟨_, rfl⟩
  rw [← hL] at hr hll
  rw [← hL]
  clear hL
  go_enter Try.func14, Try.ntmps14
  go_wp2_with fail
  refine hr.mono ?_
  clear hr e8
  rintro e w1 ⟨v, rfl, hown0, hb1⟩
  have HR1 := Lib.hid (H.out.go hb1)
  have sz := hb1.size
  have HB := Lib.hid hb1; clear hb1
  have HO := Lib.hid hown0; clear hown0
  go_wp2_with (at_builtin; refine wpList_append_all rfl (.tmp 6) (.tmp 7) 24 rfl w.heap.size 5 j0 (.int .u8 0) 1 Try.underlying24 hi hz0 hz1 hz2 rfl v L.length (vn L) rfl HO.out A n cap (vn l) rfl (by rw [vn_len]; exact HN.out) HR1.out (vn_oneP _) (by unfold maxLen; omega) (by omega) sz ?_; intro v3 w3 hown3 hb3 hgrow3)
  go_ret
  refine ⟨_, rfl, ?_, HB.out.trans hb3.out⟩
  rw [vn_appP]
  exact hown3.out
end Go.Proofs.Ytbepibkbghmkkaa
