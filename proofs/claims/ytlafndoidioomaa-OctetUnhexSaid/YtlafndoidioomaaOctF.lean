/-
  octet: bytes as digits: Hex, and the document's Hex.
-/
import Derived.Test.YtlafndoidioomaaProg
import Derived.Test.YtlafndoidioomaaBase
import Derived.Test.YtlafndoidioomaaOctC
import Derived.KernelRfl
namespace Go.Proofs.Ytlafndoidioomaa
open Go Go.RowKit
set_option linter.unusedVariables false

/-- The sixteen digits. -/
def dgs : List UInt8 := [48, 49, 50, 51, 52, 53, 54, 55, 56, 57, 97, 98, 99, 100, 101, 102]
/-- The digit of a number below sixteen. -/
def dg (k : Nat) : UInt8 := dgs.getD k 0
/-- Two digits a byte. -/
def hx (l : List UInt8) : List UInt8 := l.flatMap fun b => [dg (b.toNat / 16), dg (b.toNat % 16)]
theorem hx_snoc (l : List UInt8) (b : UInt8) : hx (l ++ [b]) = hx l ++ [dg (b.toNat / 16), dg (b.toNat % 16)] := by simp [hx]
theorem hx_len (l : List UInt8) : (hx l).length = 2 * l.length := by
  induction l with
  | nil => rfl
  | cons b l ih => simp only [hx, List.flatMap_cons, List.length_append, List.length_cons, List.length_nil] at ih ⊢; omega

theorem and15 (b : UInt8) : bits .and .u8 (b.toNat : Int) 15 = (b.toNat : Int) % 16 := by
  have h := bits_and b 15
  rw [show ((15 : UInt8).toNat : Int) = 15 from rfl] at h
  rw [h, UInt8.toNat_and, show (15 : UInt8).toNat = 2 ^ 4 - 1 from rfl, Nat.and_two_pow_sub_one_eq_mod]
  rfl

theorem dg_at (k : Nat) (hk : k < 16) (i : Int) (hi : i.toNat = k) (h : i.toNat < (⟨#[48, 49, 50, 51, 52, 53, 54, 55, 56, 57, 97, 98, 99, 100, 101, 102]⟩ : ByteArray).size) :
    (⟨#[48, 49, 50, 51, 52, 53, 54, 55, 56, 57, 97, 98, 99, 100, 101, 102]⟩ : ByteArray)[i.toNat]'h = dg k := by
  subst hi
  have e : (⟨#[48, 49, 50, 51, 52, 53, 54, 55, 56, 57, 97, 98, 99, 100, 101, 102]⟩ : ByteArray)[i.toNat]'h = dgs[i.toNat]'(by simpa [dgs] using hk) := rfl
  rw [e, dg, List.getD_eq_getElem?_getD, List.getElem?_eq_getElem (by simpa [dgs] using hk)]
  rfl

set_option maxHeartbeats 1000000 in
theorem hex_any (A : Option Addr) (l : List UInt8) (n cap : Nat) (hn : l.length = n) (w : World) (hl : n ≤ 17592186044416) (h : Rd w w.heap.size A (vb l)) :
    Calls Try.prog 23 #[.slice A n cap] w fun e w' => e = .returned (.string ⟨(hx l).toArray⟩) ∧ Below w.heap.size w w' := by
  obtain ⟨i0, hi, hz0, hz1, hz2⟩ := info_parts info_u8
  have HN := Lib.hid hn; clear hn
  go_enter Try.func23, Try.ntmps23
  go_wp2_with (at_make; refine wpList_make_own _ rfl _ _ 23 rfl w.heap.size 5 i0 (.int .u8 0) 1 Try.underlying23 hi hz0 hz1 _ _ _ (2 * n) rfl rfl (by omega) (by rw [hz2]; omega) (by unfold maxLen; omega) (Nat.le_refl _) ?_; intro w0 hown0 hgrow0)
  have hb0 : Below w.heap.size w w0 := (Below.refl _ _).grown hgrow0 (Nat.le_refl _) (by simp)
  go_loopw [3, 12] (fun v i wr => ∃ m : Nat, m ≤ n ∧ i = .int .i64 m ∧
      wr.ownsRow w.heap.size 5 1 v (2 * m) (vb (hx (l.take m))) ∧ Below w.heap.size w wr) (fun _ i _ => n - (intOf i).toNat)
  case atStart => exact ⟨0, Nat.zero_le _, rfl, by simpa [hx] using hown0, hb0⟩
  case round =>
    rename_i wr _ _
    obtain ⟨m, hm, rfl, hown, hb⟩ := hrel
    by_cases hlt : m < n
    · have ha : m < l.length := by have := HN.out; omega
      obtain ⟨ad, rfl, hbd, hck⟩ := (h.below hb).byte ha
      have sz := hb.size
      have hbb := l[m].toNat_lt
      obtain ⟨b, hbe⟩ : ∃ b, l[m] = b := ⟨_, rfl⟩
      rw [hbe] at hck hbb
      have HB := Lib.hid hbe; clear hbe
      have i1 : (0 : Int) ≤ (b.toNat : Int) / 16 := by omega
      have i2 : (b.toNat : Int) / 16 < 16 := by omega
      have i3 : (0 : Int) ≤ (b.toNat : Int) % 16 := by omega
      have i4 : (b.toNat : Int) % 16 < 16 := by omega
      have i5 := and15 b
      go_wp2
      go_region_held3 (fun _ => True) (trivial)
        (first
          | (refine step_append_lies _ (by rfl) _ _ _ (by rfl) w.heap.size 5 i0 _ 1 1 Try.underlying23 hi hz0 hz1 hz2 rfl (by omega) u3 (2 * m) _ (by rfl) (by exact hown.alloc _) ⟨wr.heap.size, 0, none⟩ 2 2 _ (by rfl) (by rfl) (World.news_of_block (t := 5) (fr := (0, 0)) (heap_alloc_new _ _)) (by simp [Value.oneCell']) (by omega) (by unfold maxLen; omega) (by omega) (by simp; omega) (wr.heap.size + 1) (by simp) ?_; intro gg cap w1 hown1 hgrow hat hlt1))
      all_goals
        rw [dg_at (b.toNat / 16) (by omega) _ (by omega), dg_at (b.toNat % 16) (by omega) _ (by omega)] at hown1
        have hown2 : w1.ownsRow w.heap.size 5 1 (.slice (some ⟨gg, 0, none⟩) (2 * m + 2) cap) (2 * (m + 1)) (vb (hx (l.take (m + 1)))) := by
          rw [take_snoc _ _ ha, hx_snoc, HB.out, show 2 * (m + 1) = 2 * m + 2 from by omega]
          simpa [vb] using hown1
        have hb1 : Below w.heap.size w w1 := ((((hb.alloc sz _).drew).grown hgrow (by simp; omega) (fun k hk => (hown.lt k hk).1)))
        clear hown1 hgrow hat hlt1 hck i5
        go_wp2
        go_roundw
        case rel => exact ⟨m + 1, by omega, by go_num, hown2, hb1⟩
        case measure => simp [intOf]; omega
    · obtain rfl : m = n := by omega
      obtain ⟨C, c, rfl, hlen, hrd⟩ := Rd.of_own hown
      have rs := run_str (P := Try.prog) 23 9 5 Try.underlying23 Try.underlying5 Try.underlying9 (by simpa using hlen) c hrd
      have e : l.take m = l := List.take_of_length_le (by have := HN.out; omega)
      rw [e] at rs
      clear e hlen
      go_wp2
      go_ret
      exact ⟨rfl, hb⟩

/-- One digit, cut out of the sixteen. -/
theorem run_dg (k : Nat) (hk : k < 16) (i : Int) (hi : i = (k : Int)) (w : World) :
    (Instr.slice 9 (.string ⟨#[48, 49, 50, 51, 52, 53, 54, 55, 56, 57, 97, 98, 99, 100, 101, 102]⟩) (some (.int .u8 i)) (some (.int .u8 (i + 1))) none).run Try.prog w = .ok (.string ⟨#[dg k]⟩) w := by
  subst hi
  have h : k = 0 ∨ k = 1 ∨ k = 2 ∨ k = 3 ∨ k = 4 ∨ k = 5 ∨ k = 6 ∨ k = 7 ∨ k = 8 ∨ k = 9 ∨ k = 10 ∨ k = 11 ∨ k = 12 ∨ k = 13 ∨ k = 14 ∨ k = 15 := by omega
  rcases h with rfl | rfl | rfl | rfl | rfl | rfl | rfl | rfl | rfl | rfl | rfl | rfl | rfl | rfl | rfl | rfl
  all_goals (show _ = _; kernel_rfl)

set_option maxHeartbeats 1000000 in
theorem rhex_any (A : Option Addr) (l : List UInt8) (n cap : Nat) (hn : l.length = n) (w : World) (hl : n ≤ 17592186044416) (h : Rd w w.heap.size A (vb l)) :
    Calls Try.prog 24 #[.slice A n cap] w fun e w' => e = .returned (.string ⟨(hx l).toArray⟩) ∧ ∃ d, w' = w.drewN d := by
  have HN := Lib.hid hn; clear hn
  go_enter Try.func24, Try.ntmps24
  go_wp2
  go_loopw [3, 4] (fun s i wr => ∃ m : Nat, m ≤ n ∧ i = .int .i64 m ∧ s = .string ⟨(hx (l.take m)).toArray⟩ ∧ ∃ d, wr = w.drewN d) (fun _ i _ => n - (intOf i).toNat)
  case atStart => exact ⟨0, Nat.zero_le _, rfl, rfl, 0, rfl⟩
  case round =>
    obtain ⟨m, hm, rfl, rfl, d, rfl⟩ := hrel
    by_cases hlt : m < n
    · have ha : m < l.length := by have := HN.out; omega
      obtain ⟨ad, rfl, hbd, hck⟩ := h.byte ha
      have hbb := l[m].toNat_lt
      obtain ⟨b, hbe⟩ : ∃ b, l[m] = b := ⟨_, rfl⟩
      rw [hbe] at hck hbb
      have HB := Lib.hid hbe; clear hbe
      have i1 : (0 : Int) ≤ (b.toNat : Int) / 16 := by omega
      have i2 : (b.toNat : Int) / 16 < 16 := by omega
      have i3 : (0 : Int) ≤ (b.toNat : Int) % 16 := by omega
      have i4 : (b.toNat : Int) % 16 < 16 := by omega
      have q1 : IntKind.u8.wrap ((b.toNat : Int) / 16) = (b.toNat : Int) / 16 := IntWalk.u8_in _ (by omega)
      have q2 : IntKind.u8.wrap ((b.toNat : Int) / 16 + 1) = (b.toNat : Int) / 16 + 1 := IntWalk.u8_in _ (by omega)
      have q3 : IntKind.u8.wrap ((b.toNat : Int) % 16) = (b.toNat : Int) % 16 := IntWalk.u8_in _ (by omega)
      have q4 : IntKind.u8.wrap ((b.toNat : Int) % 16 + 1) = (b.toNat : Int) % 16 + 1 := IntWalk.u8_in _ (by omega)
      have q5 : (b.toNat : Int).tmod 16 = (b.toNat : Int) % 16 := Int.tmod_eq_emod_of_nonneg (by omega)
      have r1 := run_dg (b.toNat / 16) (by omega) ((b.toNat : Int) / 16) (by omega)
      have r2 := run_dg (b.toNat % 16) (by omega) ((b.toNat : Int) % 16) (by omega)
      obtain ⟨s, hs⟩ : ∃ s, hx (l.take m) = s := ⟨_, rfl⟩
      have hsl : s.length ≤ 2 * n := by rw [← hs, hx_len]; simp; omega
      rw [hs]
      have HS := Lib.hid hs; clear hs
      obtain ⟨d1, hd1⟩ : ∃ d1, dg (b.toNat / 16) = d1 := ⟨_, rfl⟩
      obtain ⟨d2, hd2⟩ : ∃ d2, dg (b.toNat % 16) = d2 := ⟨_, rfl⟩
      rw [hd1] at r1
      rw [hd2] at r2
      have HD1 := Lib.hid hd1; clear hd1
      have HD2 := Lib.hid hd2; clear hd2
      go_wp2
      go_quiet (fail)
      clear r1 r2 q1 q2 q3 q4 q5 hck
      have e : (⟨s.toArray⟩ : ByteArray) ++ ⟨#[d1]⟩ ++ ⟨#[d2]⟩ = ⟨(hx (l.take (m + 1))).toArray⟩ := by
        rw [take_snoc _ _ ha, hx_snoc, HB.out, HD1.out, HD2.out, HS.out, show (#[d1] : Array UInt8) = [d1].toArray from rfl, show (#[d2] : Array UInt8) = [d2].toArray from rfl, ByteArray.mk_append_mk, ByteArray.mk_append_mk]
        simp
      rw [e]
      clear e
      go_wp2
      go_roundw
      case rel => exact ⟨m + 1, by omega, by go_num, rfl, _, rfl⟩
      case measure => simp [intOf]; omega
    · obtain rfl : m = n := by omega
      have e : l.take m = l := List.take_of_length_le (by have := HN.out; omega)
      rw [e]
      clear e
      go_wp2
      go_ret
      exact ⟨rfl, d, rfl⟩
end Go.Proofs.Ytlafndoidioomaa
