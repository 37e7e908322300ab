/-
  octet: the document's Bits and Xor.
-/
import Derived.Test.YtlafndoidioomaaProg
import Derived.Test.YtlafndoidioomaaBase
import Derived.Test.YtlafndoidioomaaOctA
import Derived.Test.YtlafndoidioomaaOctC
import Derived.Deep.QuietTactic
import Derived.BigQuiet
import Derived.Deep.RegionHeld3
import Derived.Deep.AppendLies
namespace Go.Proofs.Ytlafndoidioomaa
open Go Go.RowKit
set_option linter.unusedVariables false

theorem bit_step (a b x : Nat) (k : Nat) (hx : x = a ^^^ b) : x / 2 ^ k = 2 * (x / 2 ^ (k + 1)) + (if a / 2 ^ k % 2 = b / 2 ^ k % 2 then 0 else 1) := by
  have h1 : x / 2 ^ (k + 1) = x / 2 ^ k / 2 := by rw [Nat.pow_succ, Nat.div_div_eq_div_mul]
  have h2 : x.testBit k = (a.testBit k ^^ b.testBit k) := by rw [hx, Nat.testBit_xor]
  simp only [Nat.testBit_eq_decide_div_mod_eq] at h2
  rw [h1]
  have ha : a / 2 ^ k % 2 = 0 ∨ a / 2 ^ k % 2 = 1 := by omega
  have hb : b / 2 ^ k % 2 = 0 ∨ b / 2 ^ k % 2 = 1 := by omega
  have hxx : x / 2 ^ k % 2 = 0 ∨ x / 2 ^ k % 2 = 1 := by omega
  generalize a / 2 ^ k % 2 = p at *
  generalize b / 2 ^ k % 2 = q at *
  generalize x / 2 ^ k = y at *
  rcases ha with rfl | rfl <;> rcases hb with rfl | rfl <;> rcases hxx with h | h <;> simp [h] at h2 ⊢ <;> omega

theorem tmod_two (a k : Nat) : ((a : Int) / 2 ^ k).tmod 2 = ((a / 2 ^ k % 2 : Nat) : Int) := by
  have h : (a : Int) / 2 ^ k = ((a / 2 ^ k : Nat) : Int) := by simp
  rw [h, Int.tmod_eq_emod_of_nonneg (Int.natCast_nonneg _)]
  rfl

set_option maxHeartbeats 1000000 in
theorem bits_any (a b : UInt8) (w : World) :
    Calls Try.prog 30 #[.int .u8 (a.toNat : Int), .int .u8 (b.toNat : Int)] w fun e w' => e = .returned (.int .u8 ((a ^^^ b).toNat : Int)) ∧ ∃ d, w' = w.drewN d := by
  have hx : (a ^^^ b).toNat = a.toNat ^^^ b.toNat := UInt8.toNat_xor a b
  obtain ⟨x, hxx⟩ : ∃ x, x = a.toNat ^^^ b.toNat := ⟨_, rfl⟩
  have hx256 : x < 256 := by rw [hxx]; exact Nat.xor_lt_two_pow (n := 8) a.toNat_lt b.toNat_lt
  rw [hx, ← hxx]
  clear hx
  have ha := a.toNat_lt
  have hb := b.toNat_lt
  generalize a.toNat = a at *
  generalize b.toNat = b at *
  have HX := Lib.hid hxx; clear hxx
  go_enter Try.func30, Try.ntmps30
  go_wp2
  go_loopw [5, 6] (fun c i wr => ∃ j : Nat, j ≤ 8 ∧ i = .int .i64 ((j : Int) - 1) ∧ c = .int .u8 ((x / 2 ^ j : Nat) : Int) ∧ ∃ d, wr = w.drewN d) (fun _ i _ => (intOf i + 1).toNat)
  case atStart => exact ⟨8, Nat.le_refl _, rfl, by rw [Nat.div_eq_of_lt (by simpa using hx256)]; rfl, 0, rfl⟩
  case round =>
    obtain ⟨j, hj, rfl, rfl, d, rfl⟩ := hrel
    by_cases hlt : 0 < j
    · obtain ⟨k, rfl⟩ : ∃ k, j = k + 1 := ⟨j - 1, by omega⟩
      rw [show (((k + 1 : Nat) : Int)) - 1 = (k : Int) from by omega]
      have hstep := bit_step a b x k HX.out
      obtain ⟨y, hy⟩ : ∃ y, x / 2 ^ (k + 1) = y := ⟨_, rfl⟩
      obtain ⟨z, hz⟩ : ∃ z, x / 2 ^ k = z := ⟨_, rfl⟩
      have hz256 : z < 256 := by rw [← hz]; exact Nat.lt_of_le_of_lt (Nat.div_le_self _ _) hx256
      rw [hy, hz] at hstep
      rw [hy]
      have hk : k ≤ 7 := by omega
      have hy2 : y ≤ 127 := by omega
      have HZ := Lib.hid hz; clear hz hy
      by_cases hab : a / 2 ^ k % 2 = b / 2 ^ k % 2
      · have hne : (((a : Int) / 2 ^ k).tmod 2 != ((b : Int) / 2 ^ k).tmod 2) = false := by
          rw [tmod_two, tmod_two, bne_eq_false_iff_eq]; exact_mod_cast hab
        rw [if_pos hab] at hstep
        clear hab
        have HS := Lib.hid hstep; clear hstep
        go_wp2
        go_quiet (fail)
        go_wp2
        go_roundw
        case rel => exact ⟨k, by omega, rfl, val_int (by have h1 := HZ.out; have h2 := HS.out; rw [h1]; omega), _, rfl⟩
        case measure => simp [intOf] <;> omega
      · have hne : (((a : Int) / 2 ^ k).tmod 2 != ((b : Int) / 2 ^ k).tmod 2) = true := by
          rw [tmod_two, tmod_two, bne_iff_ne]; intro e; exact hab (by exact_mod_cast e)
        rw [if_neg hab] at hstep
        clear hab
        have HS := Lib.hid hstep; clear hstep
        go_wp2
        go_quiet (fail)
        go_wp2
        go_roundw
        case rel => exact ⟨k, by omega, rfl, val_int (by have h1 := HZ.out; have h2 := HS.out; rw [h1]; omega), _, rfl⟩
        case measure => simp [intOf] <;> omega
    · obtain rfl : j = 0 := by omega
      go_wp2
      go_ret
      exact ⟨ret_int (by simp), d, rfl⟩

theorem orX_take_snoc (a b : List UInt8) (n k : Nat) (ha : a.length = n) (hb : b.length = n) (h : k < n) :
    orX (a.take (k + 1)) (b.take (k + 1)) = orX (a.take k) (b.take k) ++ [a[k]'(by omega) ^^^ b[k]'(by omega)] := by
  rw [take_snoc a k (by omega), take_snoc b k (by omega), orX_snoc _ _ _ _ (by simp; omega)]
theorem orX_take_len (a b : List UInt8) (n k : Nat) (ha : a.length = n) (hb : b.length = n) (h : k ≤ n) : (orX (a.take k) (b.take k)).length = k := by
  simp [orX]; omega

set_option maxHeartbeats 1000000 in
theorem rxor_any (A B : Option Addr) (a b : List UInt8) (n ca cb : Nat) (hn : a.length = n) (hm : b.length = n) (w : World) (hl : n ≤ 140737488351232)
    (h : Rd w w.heap.size A (vb a)) (h' : Rd w w.heap.size B (vb b)) :
    Calls Try.prog 22 #[.slice A n ca, .slice B n cb] w fun e w' => ∃ v, e = .returned v ∧ w'.ownsRow w.heap.size 5 1 v n (vb (orX a b)) ∧ Below w.heap.size w w' := by
  obtain ⟨i0, hi, hz0, hz1, hz2⟩ := info_parts info_u8
  have HN := Lib.hid hn; clear hn
  have HM := Lib.hid hm; clear hm
  go_enter Try.func22, Try.ntmps22
  go_wp2
  go_loopw [5, 6] (fun v i wr => ∃ m : Nat, m ≤ n ∧ i = .int .i64 m ∧
      wr.ownsRow w.heap.size 5 1 v m (vb (orX (a.take m) (b.take m))) ∧ Below w.heap.size w wr) (fun _ i _ => n - (intOf i).toNat)
  case atStart => exact ⟨0, Nat.zero_le _, rfl, World.ownsRow_nil _ _ _ _, Below.refl _ _⟩
  case round =>
    rename_i wr _ _
    obtain ⟨m, hm, rfl, hown, hb⟩ := hrel
    by_cases hlt : m < n
    · have ha : m < a.length := by have := HN.out; omega
      have hbl : m < b.length := by have := HM.out; omega
      obtain ⟨ad, rfl, hbd, hck⟩ := (h.below hb).byte ha
      obtain ⟨bd, rfl, hbd', hck'⟩ := (h'.below hb).byte hbl
      have fa := own_far hown (g := ad.block) hbd
      have fb := own_far hown (g := bd.block) hbd'
      have sz := hb.size
      go_wp2
      go_region_held3 (fun w' => w'.cell? (ad.add m) = some (.int .u8 (a[m].toNat : Int)) ∧ w'.cell? (bd.add m) = some (.int .u8 (b[m].toNat : Int)))
        (first
          | go_keep
          | (go_split_ands
             refine ⟨?_, ?_⟩
             · (rw [hgrow.cell_far _ (by rw [add_block]; simp; omega) (by rw [add_block]; exact fa)]; assumption)
             · (rw [hgrow.cell_far _ (by rw [add_block]; simp; omega) (by rw [add_block]; exact fb)]; assumption)))
        (first
          | (go_at_call 30; refine (bits_any _ _ _).mono ?_; rintro e w' ⟨rfl, d, rfl⟩)
          | (refine step_append_lies _ (by rfl) _ _ _ (by rfl) w.heap.size 5 i0 _ 1 1 Try.underlying23 hi hz0 hz1 hz2 rfl (by omega) u5 m _ (by rfl) (by exact hown.alloc _) ⟨wr.heap.size, 0, none⟩ 1 1 [.int .u8 ((a[m] ^^^ b[m]).toNat : Int)] (by rfl) (by rfl) (World.news_of_block (cs := #[.int .u8 ((a[m] ^^^ b[m]).toNat : Int)]) (t := 5) (fr := (0, 0)) (heap_alloc_new _ _)) (by simp [Value.oneCell']) (by omega) (by unfold maxLen; omega) (by omega) (by simp; omega) (wr.heap.size + 1) (by simp) ?_; intro gg cap w1 hown1 hgrow hat hlt1))
      go_wp2
      go_roundw
      case rel =>
        refine ⟨m + 1, by omega, by go_num, ?_, ?_⟩
        · rw [orX_take_snoc a b n m HN.out HM.out hlt]
          simpa [vb] using hown1
        · exact (((bdrewN hb _).alloc (by exact sz) _).grown hgrow (by simp; omega) (fun k hk => (hown.lt k hk).1))
      case measure => simp [intOf]; omega
    · obtain rfl : m = n := by omega
      go_wp2
      go_ret
      refine ⟨_, rfl, ?_, hb⟩
      have e : orX (a.take m) (b.take m) = orX a b := by
        rw [List.take_of_length_le (by have := HN.out; omega), List.take_of_length_le (by have := HM.out; omega)]
      rw [← e]
      exact hown
end Go.Proofs.Ytlafndoidioomaa
