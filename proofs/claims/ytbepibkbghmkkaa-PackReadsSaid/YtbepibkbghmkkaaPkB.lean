/-
  The document's bytes of a number, of a text (layer 7).
-/
import Derived.Test.YtbepibkbghmkkaaRow
import Derived.Test.YtbepibkbghmkkaaPkA
import Derived.Test.YtbepibkbghmkkaaRefA
import Derived.WalkLawsBesides
namespace Go.Proofs.Ytbepibkbghmkkaa
open Go Go.RowKit
set_option linter.unusedVariables false
set_option linter.unusedSimpArgs false

theorem vn_appP (a b : List Nat) : vn (a ++ b) = vn a ++ vn b := by simp [vn]
theorem vn_oneP (l : List Nat) : ∀ v ∈ vn l, v.oneCell' = true := by
  intro v hv
  simp only [vn, List.mem_map] at hv
  obtain ⟨b, _, rfl⟩ := hv
  rfl
/-- A block of one byte, as an owned row. -/
theorem own_one (w : World) (x : Nat) : (w.alloc (.cells #[.int .u8 (x : Int)] 5)).ownsRow w.heap.size 5 1 (.slice (some ⟨w.heap.size, 0, none⟩) 1 1) 1 (vn [x]) := by
  have := own_of_blk (n := 1) (cap := 1) (heap_alloc_new w (.cells #[.int .u8 (x : Int)] 5)) (Nat.le_refl _) (Nat.le_refl _) (by unfold maxLen; omega) rfl
  exact this

set_option maxRecDepth 100000 in
set_option maxHeartbeats 4000000 in
theorem rpnum_any (n : Nat) : n < 18446744073709551616 → ∀ w : World,
    Calls Try.prog 11 #[.int .u64 (n : Int)] w fun e w' => ∃ v, e = .returned v ∧ w'.ownsRow w.heap.size 5 1 v (leb n).length (vn (leb n)) ∧ Below w.heap.size w w' := by
  induction n using Nat.strongRecOn with
  | _ n ih =>
    intro hn w
    obtain ⟨j0, hi, hz0, hz1, hz2⟩ := info_parts info_b
    by_cases h : n < 128
    · rw [leb_small h]
      have h1 : (n : Int) < 128 := by omega
      have h2 : IntKind.u8.wrap (n : Int) = (n : Int) := IntWalk.u8_in _ (by omega)
      clear ih
      go_enter Try.func11, Try.ntmps11
      go_wp2_with fail
      go_ret
      exact ⟨_, rfl, own_one w n, (Below.refl _ _).alloc (Nat.le_refl _) _⟩
    · rw [leb_big h]
      have h1 : ¬ (n : Int) < 128 := by omega
      obtain ⟨a, ha⟩ : ∃ a, a = n % 128 := ⟨_, rfl⟩
      obtain ⟨b, hb⟩ : ∃ b, b = n / 128 := ⟨_, rfl⟩
      have hr := ih b (by omega) (by omega)
      rw [← ha, ← hb]
      have hl : (leb b).length ≤ 10 := leb_ten b (by omega)
      have hp := leb_pos b
      have e1 : (n : Int).tmod 128 = (a : Int) := by rw [Int.tmod_eq_emod_of_nonneg (by omega)]; omega
      have e2 : (n : Int) % 128 = (a : Int) := by omega
      have e3 : (n : Int).tdiv 128 = (b : Int) := by rw [Int.tdiv_eq_ediv_of_nonneg (by omega)]; omega
      have e4 : (n : Int) / 128 = (b : Int) := by omega
      have a256 : a < 128 := by omega
      have e5 : IntKind.u8.wrap (a : Int) = (a : Int) := IntWalk.u8_in _ (by omega)
      obtain ⟨d, hd⟩ : ∃ d, d = a + 128 := ⟨_, rfl⟩
      have e6 : IntKind.u8.wrap ((a : Int) + 128) = (d : Int) := by rw [IntWalk.u8_in _ (by omega)]; omega
      rw [← hd]
      have e7 : IntKind.u64.wrap (a : Int) = (a : Int) := IntWalk.u64_in _ (by omega)
      have e8 : IntKind.u64.wrap (b : Int) = (b : Int) := IntWalk.u64_in _ (by omega)
      have HR := Lib.hid hr; clear hr ih ha hb hd
      have ho := own_one w d
      have hb0 : Below w.heap.size w (w.alloc (.cells #[.int .u8 ((d : Nat) : Int)] 5)) := (Below.refl _ _).alloc (Nat.le_refl _) _
      have HO := Lib.hid ho; clear ho
      have HB := Lib.hid hb0; clear hb0
      go_enter Try.func11, Try.ntmps11
      go_wp2_with fail
      generalize w.alloc (.cells #[.int .u8 ((d : Nat) : Int)] 5) = w1 at *
      have hw1 : w.heap.size ≤ w1.heap.size := HB.out.size
      refine (HR.out w1).mono ?_
      rintro e w2 ⟨v, rfl, hown, hb5⟩
      obtain ⟨A, c, rfl, _, hr⟩ := Rd.of_own hown
      obtain ⟨ad, rfl, _, hac⟩ := hr (by rw [vn_len]; omega)
      have HOW := Lib.hid (own_below HO.out hb5)
      have HB2 := Lib.hid (HB.out.trans (hb5.mono HB.out.size))
      have hsz := HB2.out.size
      clear hown hr hb5 HO HB HR
      go_wp2_with (at_builtin; refine wpList_append_lies _ rfl (.tmp 12) (.tmp 15) 24 rfl w.heap.size 5 j0 (.int .u8 0) 1 1 Try.underlying24 hi hz0 hz1 hz2 rfl (by omega) (.slice (some ⟨w.heap.size, 0, none⟩) 1 1) 1 (vn [d]) rfl HOW.out ad (leb b).length c (vn (leb b)) rfl (by rw [vn_len, Nat.mul_one]) hac (vn_oneP _) hp (by unfold maxLen; omega) (by omega) hsz w2.heap.size rfl ?_; intro g cap w3 hown3 hgrow hat hlt)
      go_ret
      refine ⟨_, rfl, ?_, HB2.out.grown hgrow hsz (fun k hk => (HOW.out.lt k hk).1)⟩
      rw [← vn_appP] at hown3
      show w3.ownsRow w.heap.size 5 1 (.slice (some ⟨g, 0, none⟩) (1 + (leb b).length) cap) ((leb b).length + 1) (vn ([d] ++ leb b))
      rw [Nat.add_comm (leb b).length 1]
      exact hown3

set_option maxRecDepth 100000 in
set_option maxHeartbeats 4000000 in
theorem rptext_any (A : Option Addr) (l : List Nat) (n cap : Nat) (hn : l.length = n) (hle : n ≤ 140737488351000) (w : World) (h : Rd w w.heap.size A (vn l)) :
    Calls Try.prog 15 #[.slice A n cap] w fun e w' => ∃ v, e = .returned v ∧ w'.ownsRow w.heap.size 5 1 v ((leb n).length + n) (vn (leb n ++ l)) ∧ Below w.heap.size w w' := by
  obtain ⟨j0, hi, hz0, hz1, hz2⟩ := info_parts info_b
  have HN := Lib.hid hn; clear hn
  have H := Lib.hid h; clear h
  have hr := rpnum_any n (by omega) w
  have HJ := Lib.hid (And.intro hi (And.intro hz0 (And.intro hz1 hz2))); clear hi hz0 hz1 hz2
  have hll : (leb n).length ≤ 10 := leb_ten n (by omega)
  have e8 : IntKind.u64.wrap (n : Int) = (n : Int) := IntWalk.u64_in _ (by omega)
  obtain ⟨L, hL⟩ : ∃ L, L = leb n := ⟨_, rfl⟩
  rw [← hL] at hr hll
  rw [← hL]
  clear hL
  go_enter Try.func15, Try.ntmps15
  go_wp2_with fail
  refine hr.mono ?_
  clear hr e8
  rintro e w1 ⟨v, rfl, hown0, hb1⟩
  have HO0 := Lib.hid hown0; clear hown0
  have HB0 := Lib.hid hb1; clear hb1
  go_wp2_with fail
  go_loopw [3, 4] (fun v i wr => ∃ k : Nat, k ≤ n ∧ i = .int .i64 (k : Int) ∧ Hid (wr.ownsRow w.heap.size 5 1 v (L.length + k) (vn (L ++ l.take k))) ∧ Hid (Below w.heap.size w wr)) (fun _ i _ => n - (intOf i).toNat)
  case atStart => exact ⟨0, by omega, rfl, Lib.hid (by simpa using HO0.out), HB0⟩
  case round =>
    rename_i wr _ _
    obtain ⟨k, hk, rfl, HO, HB⟩ := hrel
    by_cases hlt : k < n
    · have hki : (k : Int) < (n : Int) := by omega
      have hown := HO.out
      obtain ⟨ad, rfl, hbd, hck⟩ := (H.out.below HB.out).num (k := k) (by rw [HN.out]; exact hlt)
      obtain ⟨x, hx⟩ : ∃ x, x = l.getD k 0 := ⟨_, rfl⟩
      rw [← hx] at hck
      have ht : l.take (k + 1) = l.take k ++ [x] := by
        rw [List.take_add_one, hx, List.getD_eq_getElem?_getD, List.getElem?_eq_getElem (by rw [HN.out]; exact hlt)]; rfl
      have HT := Lib.hid ht; clear ht hx
      have hi := HJ.out.1
      have hz0 := HJ.out.2.1
      have hz1 := HJ.out.2.2.1
      have hz2 := HJ.out.2.2.2
      have sz := HB.out.size
      have hwr : IntKind.i64.wrap ((k : Int) + 1) = (k : Int) + 1 := IntWalk.i64_in _ (by omega)
      go_wp2_with (at_builtin; refine wpList_append_lies _ rfl (.tmp 15) (.tmp 20) 24 rfl w.heap.size 5 j0 (.int .u8 0) 1 1 Try.underlying24 hi hz0 hz1 hz2 rfl (by omega) _ (L.length + k) (vn (L ++ l.take k)) rfl (hown.alloc _) ⟨wr.heap.size, 0, none⟩ 1 1 [.int .u8 (x : Int)] rfl rfl (World.news_of_block (cs := #[.int .u8 (x : Int)]) (t := 5) (fr := (0, 0)) (heap_alloc_new _ _)) (by simp [Value.oneCell']) (by omega) (by unfold maxLen; omega) (by omega) (by simp; omega) (wr.heap.size + 1) (by simp) ?_; intro g cap w3 hown3 hgrow hat hlt3)
      go_roundw
      case rel =>
        refine ⟨k + 1, by omega, by go_num, Lib.hid ?_, Lib.hid (((Below.trans HB.out ((Below.refl _ _).alloc (B := w.heap.size) sz _)).grown hgrow (by simp; omega) (fun k hk => (hown.lt k hk).1)))⟩
        rw [HT.out, ← List.append_assoc, vn_appP (L ++ l.take k)]
        exact hown3
      case measure => simp [intOf]; omega
    · obtain rfl : k = n := by omega
      go_wp2_with fail
      go_ret
      refine ⟨_, rfl, ?_, HB.out⟩
      have := HO.out
      rwa [List.take_of_length_le (by rw [HN.out]; omega)] at this
end Go.Proofs.Ytbepibkbghmkkaa
