/-
  What was mixed is unmixed to what it was, and both spread over sums of columns: GaloisColumns, for every input. (Printed by wip/gen/gcolumns.py.)
-/
import Derived.Test.YtffpicjecmfchaaLaw
import Derived.Test.YtffpicjecmfchaaGalH
import Derived.Test.YtffpicjecmfchaaGfC
import Derived.StillTailTactics
namespace Go.Proofs.Ytffpicjecmfchaa
open Go Go.RowKit Go.ChangeShapes Go.WideShapes Go.ChangeAt
set_option linter.unusedVariables false
set_option linter.unusedSimpArgs false

theorem unmix_mixed (c : Nat → Nat) (w : World) (hc : ∀ q, q < 4 → c q < 256) :
    Calls Try.prog 26 #[.agg (arr4 (mixd mixR c))] w fun e w' => e = .returned (.agg (arr4 c)) ∧ Below w.heap.size w w' := by
  have := unmix_any (mixd mixR c) w fun q _ => mixd_lt _ _ hc q
  rwa [arr4_congr _ c (unmix_mix c hc)] at this
theorem mix_unmixed (c : Nat → Nat) (w : World) (hc : ∀ q, q < 4 → c q < 256) :
    Calls Try.prog 24 #[.agg (arr4 (mixd unmixR c))] w fun e w' => e = .returned (.agg (arr4 c)) ∧ Below w.heap.size w w' := by
  have := mix_any (mixd unmixR c) w fun q _ => mixd_lt _ _ hc q
  rwa [arr4_congr _ c (mix_unmix c hc)] at this

set_option maxRecDepth 100000 in
set_option maxHeartbeats 16000000 in
theorem gcolumns_any (c d : Nat → Nat) (w : World) (hc : ∀ q, q < 4 → c q < 256) (hd : ∀ q, q < 4 → d q < 256) :
    Calls Try.prog 12 #[.agg (arr4 c), .agg (arr4 d)] w fun e w' => e = .returned (.bool true) ∧ Below w.heap.size w w' := by
  have HC := Lib.hid hc; clear hc
  have HD := Lib.hid hd; clear hd
  go_enter Try.func12, Try.ntmps12
  go_upto_region 1 with fail
  have hB : Below w.heap.size w ((w.alloc (.cells (arr4 c) 30)).alloc (.cells (arr4 d) 30)) := ((Below.refl _ _).alloc (Nat.le_refl _) _).alloc (by simp) _
  have h0 : Has ((w.alloc (.cells (arr4 c) 30)).alloc (.cells (arr4 d) 30)) w.heap.size c := Has.alloc _ Has.new
  have h1 : Has ((w.alloc (.cells (arr4 c) 30)).alloc (.cells (arr4 d) 30)) (w.heap.size + 1) d := by
    have := Has.new (w := w.alloc (.cells (arr4 c) 30)) (f := d)
    rwa [World.size_alloc] at this
  have hpos : 0 < ((w.alloc (.cells (arr4 c) 30)).alloc (.cells (arr4 d) 30)).heap.size := by simp
  have HB := Lib.hid hB; clear hB
  have H0 := Lib.hid h0; clear h0
  have H1 := Lib.hid h1; clear h1
  generalize (w.alloc (.cells (arr4 c) 30)).alloc (.cells (arr4 d) 30) = w0 at *
  go_cut [5, 6] (fun s5 s6 wx => ∃ b5 b6 : Nat, s5 = .pointer (some ⟨b5, 0, none⟩) ∧ s6 = .pointer (some ⟨b6, 0, none⟩) ∧ Hid (Has wx b5 (mixd mixR c)) ∧ Hid (Has wx b6 (mixd mixR d)) ∧ Hid (Below w0.heap.size w0 wx))
  case first =>
    go_region_held3 (fun w' => w'.cell? ⟨w.heap.size, 0, none⟩ = some (.int .u8 ((c 0 : Nat) : Int)) ∧ w'.cell? ⟨w.heap.size, 1, none⟩ = some (.int .u8 ((c 1 : Nat) : Int)) ∧ w'.cell? ⟨w.heap.size, 2, none⟩ = some (.int .u8 ((c 2 : Nat) : Int)) ∧ w'.cell? ⟨w.heap.size, 3, none⟩ = some (.int .u8 ((c 3 : Nat) : Int)) ∧ w'.cell? ⟨w.heap.size + 1, 0, none⟩ = some (.int .u8 ((d 0 : Nat) : Int)) ∧ w'.cell? ⟨w.heap.size + 1, 1, none⟩ = some (.int .u8 ((d 1 : Nat) : Int)) ∧ w'.cell? ⟨w.heap.size + 1, 2, none⟩ = some (.int .u8 ((d 2 : Nat) : Int)) ∧ w'.cell? ⟨w.heap.size + 1, 3, none⟩ = some (.int .u8 ((d 3 : Nat) : Int)) ∧ Below w0.heap.size w0 w')
      ((refine held8 H0 H1 ?_; go_split_ands; (repeat' first
        | (with_reducible exact Below.refl _ _)
        | (with_reducible assumption)
        | (with_reducible refine Below.drew ?_)
        | (with_reducible refine Below.alloc ?_ ?_ _)
        | (with_reducible refine below4 ?_ ?_ _ _ _ _)
        | go_size)))
      (first
        | (go_at_call_of 24 (Value.agg #[Value.int IntKind.u8 ((c 0 : Nat) : Int), Value.int IntKind.u8 ((c 1 : Nat) : Int), Value.int IntKind.u8 ((c 2 : Nat) : Int), Value.int IntKind.u8 ((c 3 : Nat) : Int)]); refine (mix_any c _ HC.out).mono ?_; rintro e w' ⟨rfl, hb⟩; go_split_ands; have hbB : Below w0.heap.size w0 w' := (by refine Below.trans ?_ (hb.mono ?_); assumption; exact Below.size (by assumption)); have hgo := Goes.of hb; have hbc := bcell hb; obtain ⟨hbc1, hbc2⟩ := hbc; have hbs := bsize hb; have hz := hb.size; have hzB := hbB.size; (try simp only [World.size_alloc, World.size_drew] at hz); have n34 := bnew (w0 := w0) (by assumption) hb hpos; obtain ⟨n3, n4⟩ := n34; (try simp only [World.size_alloc, World.size_drew, Nat.add_sub_cancel] at n3 n4); (try (by_cases n1 : w'.heap.size = w0.heap.size; (exfalso; omega))); (try (by_cases n2 : w0.heap.size = w'.heap.size; (exfalso; omega))); (try (by_cases l0 : ¬ w0.heap.size < w'.heap.size; (exfalso; omega))); (try (by_cases l1 : ¬ w0.heap.size + 1 < w'.heap.size; (exfalso; omega))); (try simp only [Nat.not_lt, Nat.not_le] at l0); (try simp only [Nat.not_lt, Nat.not_le] at l1))
        | (go_at_call_of 24 (Value.agg #[Value.int IntKind.u8 ((d 0 : Nat) : Int), Value.int IntKind.u8 ((d 1 : Nat) : Int), Value.int IntKind.u8 ((d 2 : Nat) : Int), Value.int IntKind.u8 ((d 3 : Nat) : Int)]); refine (mix_any d _ HD.out).mono ?_; rintro e w' ⟨rfl, hb⟩; go_split_ands; have hbB : Below w0.heap.size w0 w' := (by refine Below.trans ?_ (hb.mono ?_); assumption; exact Below.size (by assumption)); have hgo := Goes.of hb; have hbc := bcell hb; obtain ⟨hbc1, hbc2⟩ := hbc; have hbs := bsize hb; have hz := hb.size; have hzB := hbB.size; (try simp only [World.size_alloc, World.size_drew] at hz); have n34 := bnew (w0 := w0) (by assumption) hb hpos; obtain ⟨n3, n4⟩ := n34; (try simp only [World.size_alloc, World.size_drew, Nat.add_sub_cancel] at n3 n4); (try (by_cases n1 : w'.heap.size = w0.heap.size; (exfalso; omega))); (try (by_cases n2 : w0.heap.size = w'.heap.size; (exfalso; omega))); (try (by_cases l0 : ¬ w0.heap.size < w'.heap.size; (exfalso; omega))); (try (by_cases l1 : ¬ w0.heap.size + 1 < w'.heap.size; (exfalso; omega))); (try simp only [Nat.not_lt, Nat.not_le] at l0); (try simp only [Nat.not_lt, Nat.not_le] at l1)))
    all_goals
      go_wp2_with fail
      go_meet
      refine ⟨_, _, rfl, rfl, Lib.hid ?_, Lib.hid ?_, Lib.hid ?_⟩
    all_goals (repeat' first
        | (with_reducible exact Below.refl _ _)
        | (with_reducible assumption)
        | (with_reducible refine Below.drew ?_)
        | (with_reducible refine Below.alloc ?_ ?_ _)
        | (with_reducible refine below4 ?_ ?_ _ _ _ _)
        | (with_reducible refine Has.drew ?_)
        | ((with_reducible refine Has.newAt ?_); go_size; done)
        | ((with_reducible refine Has.zeroAt ?_); go_size; done)
        | (with_reducible refine Has.alloc _ ?_)
        | (with_reducible refine Has.store (z := fun _ => 0) ?_)
        | (with_reducible refine Has.other ?_ ?_ _ _ _ _)
        | (with_reducible refine Goes.to (by assumption) ?_)
        | go_size)
  obtain ⟨b5, b6, rfl, rfl, H5, H6, hw⟩ := hcut
  have H0' : Hid (Has wc (w.heap.size) (c)) := Lib.hid (H0.out.below hw.out H0.out.lt)
  have H1' : Hid (Has wc (w.heap.size + 1) (d)) := Lib.hid (H1.out.below hw.out H1.out.lt)
  have HB' : Hid (Below w.heap.size w wc) := Lib.hid (HB.out.trans (hw.out.mono HB.out.size))
  have hpos' : 0 < wc.heap.size := Nat.lt_of_lt_of_le hpos hw.out.size
  clear H0 H1 HB hpos hw
  clear w0
  have H0 := H0'; have H1 := H1'; have HB := HB'; have hpos := hpos'
  clear H0' H1' HB' hpos'
  obtain ⟨w0, rfl⟩ : ∃ w0 : World, w0 = wc := ⟨_, rfl⟩
  go_upto_region 2 with fail
  go_cut [7, 8] (fun s7 s8 wx => ∃ b7 b8 : Nat, s7 = .pointer (some ⟨b7, 0, none⟩) ∧ s8 = .pointer (some ⟨b8, 0, none⟩) ∧ Hid (Has wx b7 (mixd unmixR c)) ∧ Hid (Has wx b8 (mixd unmixR d)) ∧ Hid (Below w0.heap.size w0 wx))
  case first =>
    go_region_held3 (fun w' => w'.cell? ⟨w.heap.size, 0, none⟩ = some (.int .u8 ((c 0 : Nat) : Int)) ∧ w'.cell? ⟨w.heap.size, 1, none⟩ = some (.int .u8 ((c 1 : Nat) : Int)) ∧ w'.cell? ⟨w.heap.size, 2, none⟩ = some (.int .u8 ((c 2 : Nat) : Int)) ∧ w'.cell? ⟨w.heap.size, 3, none⟩ = some (.int .u8 ((c 3 : Nat) : Int)) ∧ w'.cell? ⟨w.heap.size + 1, 0, none⟩ = some (.int .u8 ((d 0 : Nat) : Int)) ∧ w'.cell? ⟨w.heap.size + 1, 1, none⟩ = some (.int .u8 ((d 1 : Nat) : Int)) ∧ w'.cell? ⟨w.heap.size + 1, 2, none⟩ = some (.int .u8 ((d 2 : Nat) : Int)) ∧ w'.cell? ⟨w.heap.size + 1, 3, none⟩ = some (.int .u8 ((d 3 : Nat) : Int)) ∧ Below w0.heap.size w0 w')
      ((refine held8 H0 H1 ?_; go_split_ands; (repeat' first
        | (with_reducible exact Below.refl _ _)
        | (with_reducible assumption)
        | (with_reducible refine Below.drew ?_)
        | (with_reducible refine Below.alloc ?_ ?_ _)
        | (with_reducible refine below4 ?_ ?_ _ _ _ _)
        | go_size)))
      (first
        | (go_at_call_of 26 (Value.agg #[Value.int IntKind.u8 ((c 0 : Nat) : Int), Value.int IntKind.u8 ((c 1 : Nat) : Int), Value.int IntKind.u8 ((c 2 : Nat) : Int), Value.int IntKind.u8 ((c 3 : Nat) : Int)]); refine (unmix_any c _ HC.out).mono ?_; rintro e w' ⟨rfl, hb⟩; go_split_ands; have hbB : Below w0.heap.size w0 w' := (by refine Below.trans ?_ (hb.mono ?_); assumption; exact Below.size (by assumption)); have hgo := Goes.of hb; have hbc := bcell hb; obtain ⟨hbc1, hbc2⟩ := hbc; have hbs := bsize hb; have hz := hb.size; have hzB := hbB.size; (try simp only [World.size_alloc, World.size_drew] at hz); have n34 := bnew (w0 := w0) (by assumption) hb hpos; obtain ⟨n3, n4⟩ := n34; (try simp only [World.size_alloc, World.size_drew, Nat.add_sub_cancel] at n3 n4); (try (by_cases n1 : w'.heap.size = w0.heap.size; (exfalso; omega))); (try (by_cases n2 : w0.heap.size = w'.heap.size; (exfalso; omega))); (try (by_cases l0 : ¬ w0.heap.size < w'.heap.size; (exfalso; omega))); (try (by_cases l1 : ¬ w0.heap.size + 1 < w'.heap.size; (exfalso; omega))); (try simp only [Nat.not_lt, Nat.not_le] at l0); (try simp only [Nat.not_lt, Nat.not_le] at l1))
        | (go_at_call_of 26 (Value.agg #[Value.int IntKind.u8 ((d 0 : Nat) : Int), Value.int IntKind.u8 ((d 1 : Nat) : Int), Value.int IntKind.u8 ((d 2 : Nat) : Int), Value.int IntKind.u8 ((d 3 : Nat) : Int)]); refine (unmix_any d _ HD.out).mono ?_; rintro e w' ⟨rfl, hb⟩; go_split_ands; have hbB : Below w0.heap.size w0 w' := (by refine Below.trans ?_ (hb.mono ?_); assumption; exact Below.size (by assumption)); have hgo := Goes.of hb; have hbc := bcell hb; obtain ⟨hbc1, hbc2⟩ := hbc; have hbs := bsize hb; have hz := hb.size; have hzB := hbB.size; (try simp only [World.size_alloc, World.size_drew] at hz); have n34 := bnew (w0 := w0) (by assumption) hb hpos; obtain ⟨n3, n4⟩ := n34; (try simp only [World.size_alloc, World.size_drew, Nat.add_sub_cancel] at n3 n4); (try (by_cases n1 : w'.heap.size = w0.heap.size; (exfalso; omega))); (try (by_cases n2 : w0.heap.size = w'.heap.size; (exfalso; omega))); (try (by_cases l0 : ¬ w0.heap.size < w'.heap.size; (exfalso; omega))); (try (by_cases l1 : ¬ w0.heap.size + 1 < w'.heap.size; (exfalso; omega))); (try simp only [Nat.not_lt, Nat.not_le] at l0); (try simp only [Nat.not_lt, Nat.not_le] at l1)))
    all_goals
      go_wp2_with fail
      go_meet
      refine ⟨_, _, rfl, rfl, Lib.hid ?_, Lib.hid ?_, Lib.hid ?_⟩
    all_goals (repeat' first
        | (with_reducible exact Below.refl _ _)
        | (with_reducible assumption)
        | (with_reducible refine Below.drew ?_)
        | (with_reducible refine Below.alloc ?_ ?_ _)
        | (with_reducible refine below4 ?_ ?_ _ _ _ _)
        | (with_reducible refine Has.drew ?_)
        | ((with_reducible refine Has.newAt ?_); go_size; done)
        | ((with_reducible refine Has.zeroAt ?_); go_size; done)
        | (with_reducible refine Has.alloc _ ?_)
        | (with_reducible refine Has.store (z := fun _ => 0) ?_)
        | (with_reducible refine Has.other ?_ ?_ _ _ _ _)
        | (with_reducible refine Goes.to (by assumption) ?_)
        | go_size)
  obtain ⟨b7, b8, rfl, rfl, H7, H8, hw⟩ := hcut
  have H0' : Hid (Has wc (w.heap.size) (c)) := Lib.hid (H0.out.below hw.out H0.out.lt)
  have H1' : Hid (Has wc (w.heap.size + 1) (d)) := Lib.hid (H1.out.below hw.out H1.out.lt)
  have H5' : Hid (Has wc (b5) (mixd mixR c)) := Lib.hid (H5.out.below hw.out H5.out.lt)
  have H6' : Hid (Has wc (b6) (mixd mixR d)) := Lib.hid (H6.out.below hw.out H6.out.lt)
  have HB' : Hid (Below w.heap.size w wc) := Lib.hid (HB.out.trans (hw.out.mono HB.out.size))
  have hpos' : 0 < wc.heap.size := Nat.lt_of_lt_of_le hpos hw.out.size
  clear H0 H1 H5 H6 HB hpos hw
  clear w0
  have H0 := H0'; clear H0'
  have H1 := H1'; clear H1'
  have H5 := H5'; clear H5'
  have H6 := H6'; clear H6'
  have HB := HB'; clear HB'
  have hpos := hpos'; clear hpos'
  obtain ⟨w0, rfl⟩ : ∃ w0 : World, w0 = wc := ⟨_, rfl⟩
  go_wp2_with fail
  go_loopw [22] (fun i wr => ∃ k : Nat, k ≤ 4 ∧ i = .int .i64 k ∧ Hid (Has wr (w.heap.size) (c)) ∧ Hid (Has wr (w.heap.size + 1) (d)) ∧ Hid (Has wr (b5) (mixd mixR c)) ∧ Hid (Has wr (b6) (mixd mixR d)) ∧ Hid (Has wr (b7) (mixd unmixR c)) ∧ Hid (Has wr (b8) (mixd unmixR d)) ∧ Hid (Has wr w0.heap.size (addD c d k)) ∧ Hid (Below w.heap.size w wr)) (fun i _ => 4 - (intOf i).toNat)
  case atStart =>
    refine ⟨0, by omega, rfl, Lib.hid (H0.out.alloc _), Lib.hid (H1.out.alloc _), Lib.hid (H5.out.alloc _), Lib.hid (H6.out.alloc _), Lib.hid (H7.out.alloc _), Lib.hid (H8.out.alloc _), Lib.hid ?_, Lib.hid (HB.out.alloc HB.out.size _)⟩
    exact Has.zeroAt rfl
  case round =>
    have hne0 : ¬ w.heap.size = w0.heap.size := by have := H0.out.lt; omega
    have hne1 : ¬ w.heap.size + 1 = w0.heap.size := by have := H1.out.lt; omega
    have hlts : w.heap.size ≠ w0.heap.size ∧ w.heap.size + 1 ≠ w0.heap.size ∧ b5 ≠ w0.heap.size ∧ b6 ≠ w0.heap.size ∧ b7 ≠ w0.heap.size ∧ b8 ≠ w0.heap.size := ⟨Nat.ne_of_lt H0.out.lt, Nat.ne_of_lt H1.out.lt, Nat.ne_of_lt H5.out.lt, Nat.ne_of_lt H6.out.lt, Nat.ne_of_lt H7.out.lt, Nat.ne_of_lt H8.out.lt⟩
    have HL := Lib.hid hlts; clear hlts
    have hge : w.heap.size ≤ w0.heap.size := HB.out.size
    clear H0 H1 H5 H6 H7 H8 HB
    obtain ⟨k, hk, rfl, H0, H1, H5, H6, H7, H8, H9, HB⟩ := hrel
    by_cases hlt : k < 4
    · have hk4 : (k : Int) < 4 := by omega
      have hk0 : (0 : Int) ≤ (k : Int) := by omega
      have c0 := H0.out.cell k hlt
      have c1 := H1.out.cell k hlt
      have c9 := H9.out.cell k hlt
      have f9 : wr.frozen? ⟨w0.heap.size, k, none⟩ = false := frozen_of_row _ _ _ _ _ H9.out
      have hx : bits .xor .u8 (c k : Int) (d k : Int) = ((addD c d (k + 1) k : Nat) : Int) := by
        rw [nbits_xor _ _ (HC.out k hlt) (HD.out k hlt), addD_next]
      go_wp2_with fail
      go_still_tail 9, (by kernel_rfl)
      change wpList _ _ _ _ _ wr.drew
      have c9' : wr.drew.cell? ⟨w0.heap.size, k, none⟩ = some (.int .u8 ((addD c d k k : Nat) : Int)) := c9
      have f9' : wr.drew.frozen? ⟨w0.heap.size, k, none⟩ = false := f9
      have H0' : Hid (Has wr.drew (w.heap.size) (c)) := Lib.hid H0.out
      have H1' : Hid (Has wr.drew (w.heap.size + 1) (d)) := Lib.hid H1.out
      have H5' : Hid (Has wr.drew (b5) (mixd mixR c)) := Lib.hid H5.out
      have H6' : Hid (Has wr.drew (b6) (mixd mixR d)) := Lib.hid H6.out
      have H7' : Hid (Has wr.drew (b7) (mixd unmixR c)) := Lib.hid H7.out
      have H8' : Hid (Has wr.drew (b8) (mixd unmixR d)) := Lib.hid H8.out
      have H9' : Hid (Has wr.drew (w0.heap.size) (addD c d k)) := Lib.hid H9.out
      have HB' : Hid (Below w.heap.size w wr.drew) := Lib.hid HB.out.drew
      clear H0 H1 H5 H6 H7 H8 H9 HB c0 c1 c9 f9
      generalize wr.drew = w2 at *
      go_wp2_with fail
      go_roundw
      case rel =>
        have hl := HL.out
        obtain ⟨lH0, lH1, lH5, lH6, lH7, lH8⟩ := hl
        refine ⟨k + 1, by omega, by go_num, Lib.hid ((heap_setCell_other _ _ _ _ lH0).trans H0'.out), Lib.hid ((heap_setCell_other _ _ _ _ lH1).trans H1'.out), Lib.hid ((heap_setCell_other _ _ _ _ lH5).trans H5'.out), Lib.hid ((heap_setCell_other _ _ _ _ lH6).trans H6'.out), Lib.hid ((heap_setCell_other _ _ _ _ lH7).trans H7'.out), Lib.hid ((heap_setCell_other _ _ _ _ lH8).trans H8'.out), Lib.hid ?_, Lib.hid (HB'.out.setCell (by exact hge) _)⟩
        unfold Has
        rw [heap_setCell_same _ _ _ _ _ _ H9'.out, set4 _ (addD c d (k + 1)) k _ hlt rfl fun j hj => addD_far c d k j hj]
      case measure => simp [intOf]; omega
    · obtain rfl : k = 4 := by omega
      have HE : Hid (∀ q, q < 4 → addD c d 4 q < 256) := Lib.hid fun q hq => addD_lt c d HC.out HD.out 4 q hq
      have hpos : 0 < wr.heap.size := Nat.lt_of_le_of_lt (Nat.zero_le _) H0.out.lt
      go_upto_region 9 with fail
      go_cut [11, 12] (fun s11 s12 wx => ∃ b11 b12 : Nat, s11 = .pointer (some ⟨b11, 0, none⟩) ∧ s12 = .pointer (some ⟨b12, 0, none⟩) ∧ Hid (Has wx b11 (mixd mixR (addD c d 4))) ∧ Hid (Has wx b12 (mixd unmixR (addD c d 4))) ∧ Hid (Below wr.heap.size wr wx))
      case first =>
        go_region_held3 (fun w' => w'.cell? ⟨w0.heap.size, 0, none⟩ = some (.int .u8 (((addD c d 4) 0 : Nat) : Int)) ∧ w'.cell? ⟨w0.heap.size, 1, none⟩ = some (.int .u8 (((addD c d 4) 1 : Nat) : Int)) ∧ w'.cell? ⟨w0.heap.size, 2, none⟩ = some (.int .u8 (((addD c d 4) 2 : Nat) : Int)) ∧ w'.cell? ⟨w0.heap.size, 3, none⟩ = some (.int .u8 (((addD c d 4) 3 : Nat) : Int)) ∧ w'.cell? ⟨w0.heap.size, 0, none⟩ = some (.int .u8 (((addD c d 4) 0 : Nat) : Int)) ∧ w'.cell? ⟨w0.heap.size, 1, none⟩ = some (.int .u8 (((addD c d 4) 1 : Nat) : Int)) ∧ w'.cell? ⟨w0.heap.size, 2, none⟩ = some (.int .u8 (((addD c d 4) 2 : Nat) : Int)) ∧ w'.cell? ⟨w0.heap.size, 3, none⟩ = some (.int .u8 (((addD c d 4) 3 : Nat) : Int)) ∧ Below wr.heap.size wr w')
          ((refine held8 H9 H9 ?_; go_split_ands; (repeat' first
            | (with_reducible exact Below.refl _ _)
            | (with_reducible assumption)
            | (with_reducible refine Below.drew ?_)
            | (with_reducible refine Below.alloc ?_ ?_ _)
            | (with_reducible refine below4 ?_ ?_ _ _ _ _)
            | go_size)))
          (first
            | (go_at_call 24; refine (mix_any (addD c d 4) _ HE.out).mono ?_; rintro e w' ⟨rfl, hb⟩; go_split_ands; have hbB : Below wr.heap.size wr w' := (by refine Below.trans ?_ (hb.mono ?_); assumption; exact Below.size (by assumption)); have hgo := Goes.of hb; have hbc := bcell hb; obtain ⟨hbc1, hbc2⟩ := hbc; have hbs := bsize hb; have hz := hb.size; have hzB := hbB.size; (try simp only [World.size_alloc, World.size_drew] at hz); have n34 := bnew (w0 := wr) (by assumption) hb hpos; obtain ⟨n3, n4⟩ := n34; (try simp only [World.size_alloc, World.size_drew, Nat.add_sub_cancel] at n3 n4); (try (by_cases n1 : w'.heap.size = wr.heap.size; (exfalso; omega))); (try (by_cases n2 : wr.heap.size = w'.heap.size; (exfalso; omega))); (try (by_cases l0 : ¬ wr.heap.size < w'.heap.size; (exfalso; omega))); (try (by_cases l1 : ¬ wr.heap.size + 1 < w'.heap.size; (exfalso; omega))); (try simp only [Nat.not_lt, Nat.not_le] at l0); (try simp only [Nat.not_lt, Nat.not_le] at l1))
            | (go_at_call 26; refine (unmix_any (addD c d 4) _ HE.out).mono ?_; rintro e w' ⟨rfl, hb⟩; go_split_ands; have hbB : Below wr.heap.size wr w' := (by refine Below.trans ?_ (hb.mono ?_); assumption; exact Below.size (by assumption)); have hgo := Goes.of hb; have hbc := bcell hb; obtain ⟨hbc1, hbc2⟩ := hbc; have hbs := bsize hb; have hz := hb.size; have hzB := hbB.size; (try simp only [World.size_alloc, World.size_drew] at hz); have n34 := bnew (w0 := wr) (by assumption) hb hpos; obtain ⟨n3, n4⟩ := n34; (try simp only [World.size_alloc, World.size_drew, Nat.add_sub_cancel] at n3 n4); (try (by_cases n1 : w'.heap.size = wr.heap.size; (exfalso; omega))); (try (by_cases n2 : wr.heap.size = w'.heap.size; (exfalso; omega))); (try (by_cases l0 : ¬ wr.heap.size < w'.heap.size; (exfalso; omega))); (try (by_cases l1 : ¬ wr.heap.size + 1 < w'.heap.size; (exfalso; omega))); (try simp only [Nat.not_lt, Nat.not_le] at l0); (try simp only [Nat.not_lt, Nat.not_le] at l1)))
        all_goals
          go_wp2_with fail
          go_meet
          refine ⟨_, _, rfl, rfl, Lib.hid ?_, Lib.hid ?_, Lib.hid ?_⟩
        all_goals (repeat' first
            | (with_reducible exact Below.refl _ _)
            | (with_reducible assumption)
            | (with_reducible refine Below.drew ?_)
            | (with_reducible refine Below.alloc ?_ ?_ _)
            | (with_reducible refine below4 ?_ ?_ _ _ _ _)
            | (with_reducible refine Has.drew ?_)
            | ((with_reducible refine Has.newAt ?_); go_size; done)
            | ((with_reducible refine Has.zeroAt ?_); go_size; done)
            | (with_reducible refine Has.alloc _ ?_)
            | (with_reducible refine Has.store (z := fun _ => 0) ?_)
            | (with_reducible refine Has.other ?_ ?_ _ _ _ _)
            | (with_reducible refine Goes.to (by assumption) ?_)
            | go_size)
      obtain ⟨b11, b12, rfl, rfl, H11, H12, hw⟩ := hcut
      have H0' : Hid (Has wc (w.heap.size) (c)) := Lib.hid (H0.out.below hw.out H0.out.lt)
      have H1' : Hid (Has wc (w.heap.size + 1) (d)) := Lib.hid (H1.out.below hw.out H1.out.lt)
      have H5' : Hid (Has wc (b5) (mixd mixR c)) := Lib.hid (H5.out.below hw.out H5.out.lt)
      have H6' : Hid (Has wc (b6) (mixd mixR d)) := Lib.hid (H6.out.below hw.out H6.out.lt)
      have H7' : Hid (Has wc (b7) (mixd unmixR c)) := Lib.hid (H7.out.below hw.out H7.out.lt)
      have H8' : Hid (Has wc (b8) (mixd unmixR d)) := Lib.hid (H8.out.below hw.out H8.out.lt)
      have H9' : Hid (Has wc (w0.heap.size) (addD c d 4)) := Lib.hid (H9.out.below hw.out H9.out.lt)
      have HB' : Hid (Below w.heap.size w wc) := Lib.hid (HB.out.trans (hw.out.mono HB.out.size))
      have hpos' : 0 < wc.heap.size := Nat.lt_of_lt_of_le hpos hw.out.size
      clear H0 H1 H5 H6 H7 H8 H9 HB hpos hw
      clear wr
      have H0 := H0'; clear H0'
      have H1 := H1'; clear H1'
      have H5 := H5'; clear H5'
      have H6 := H6'; clear H6'
      have H7 := H7'; clear H7'
      have H8 := H8'; clear H8'
      have H9 := H9'; clear H9'
      have HB := HB'; clear HB'
      have hpos := hpos'; clear hpos'
      obtain ⟨w3, rfl⟩ : ∃ w3 : World, w3 = wc := ⟨_, rfl⟩
      go_wp2_with fail
      go_loopw [39] (fun i wx => ∃ k : Nat, k ≤ 4 ∧ i = .int .i64 k ∧ ∃ n, wx = w3.drewN n) (fun i _ => 4 - (intOf i).toNat)
      case atStart => exact ⟨0, by omega, rfl, 0, rfl⟩
      case round =>
        obtain ⟨k, hk, rfl, n, rfl⟩ := hrel
        by_cases hlt : k < 4
        · have hk4 : (k : Int) < 4 := by omega
          have hk0 : (0 : Int) ≤ (k : Int) := by omega
          have c5 := H5.out.cell k hlt
          have c6 := H6.out.cell k hlt
          have c7 := H7.out.cell k hlt
          have c8 := H8.out.cell k hlt
          have c11 := H11.out.cell k hlt
          have c12 := H12.out.cell k hlt
          rw [mixd_sum] at c11 c12
          have hx1 := nbits_xor (mixd mixR c k) (mixd mixR d k) (mixd_lt _ _ HC.out k) (mixd_lt _ _ HD.out k)
          have hx2 := nbits_xor (mixd unmixR c k) (mixd unmixR d k) (mixd_lt _ _ HC.out k) (mixd_lt _ _ HD.out k)
          generalize mixd mixR c k ^^^ mixd mixR d k = e1 at *
          generalize mixd unmixR c k ^^^ mixd unmixR d k = e2 at *
          generalize mixd mixR c k = p1 at *
          generalize mixd mixR d k = p2 at *
          generalize mixd unmixR c k = p3 at *
          generalize mixd unmixR d k = p4 at *
          go_wp2_with fail
          go_quiet (fail)
          go_wp2_with fail
          go_roundw
          case rel => exact ⟨k + 1, by omega, by go_num, _, rfl⟩
          case measure => simp [intOf]; omega
        · obtain rfl : k = 4 := by omega
          have q1 := eq4_same c
          have g4 := guard4
          have H0' : Hid (Has (w3.drewN n) (w.heap.size) (c)) := Lib.hid H0.out
          have H5' : Hid (Has (w3.drewN n) (b5) (mixd mixR c)) := Lib.hid H5.out
          have H7' : Hid (Has (w3.drewN n) (b7) (mixd unmixR c)) := Lib.hid H7.out
          have HB' : Hid (Below w.heap.size w (w3.drewN n)) := Lib.hid (bdrewN HB.out n)
          clear H0 H1 H5 H6 H7 H8 H9 H11 H12 HB hpos
          generalize w3.drewN n = w4 at *
          go_upto_region 16 with fail
          go_region_held3 (fun w' => w'.cell? ⟨b5, 0, none⟩ = some (.int .u8 (((mixd mixR c) 0 : Nat) : Int)) ∧ w'.cell? ⟨b5, 1, none⟩ = some (.int .u8 (((mixd mixR c) 1 : Nat) : Int)) ∧ w'.cell? ⟨b5, 2, none⟩ = some (.int .u8 (((mixd mixR c) 2 : Nat) : Int)) ∧ w'.cell? ⟨b5, 3, none⟩ = some (.int .u8 (((mixd mixR c) 3 : Nat) : Int)) ∧ w'.cell? ⟨w.heap.size, 0, none⟩ = some (.int .u8 ((c 0 : Nat) : Int)) ∧ w'.cell? ⟨w.heap.size, 1, none⟩ = some (.int .u8 ((c 1 : Nat) : Int)) ∧ w'.cell? ⟨w.heap.size, 2, none⟩ = some (.int .u8 ((c 2 : Nat) : Int)) ∧ w'.cell? ⟨w.heap.size, 3, none⟩ = some (.int .u8 ((c 3 : Nat) : Int)) ∧ w'.cell? ⟨b7, 0, none⟩ = some (.int .u8 (((mixd unmixR c) 0 : Nat) : Int)) ∧ w'.cell? ⟨b7, 1, none⟩ = some (.int .u8 (((mixd unmixR c) 1 : Nat) : Int)) ∧ w'.cell? ⟨b7, 2, none⟩ = some (.int .u8 (((mixd unmixR c) 2 : Nat) : Int)) ∧ w'.cell? ⟨b7, 3, none⟩ = some (.int .u8 (((mixd unmixR c) 3 : Nat) : Int)) ∧ Below w4.heap.size w4 w')
            ((refine held12 H5' H0' H7' ?_; go_split_ands; (repeat' first
              | (with_reducible exact Below.refl _ _)
              | (with_reducible assumption)
              | (with_reducible refine Below.drew ?_)
              | go_size)))
            (first
              | (go_at_call 26; refine (unmix_mixed c _ HC.out).mono ?_; rintro e w' ⟨rfl, hb⟩; go_split_ands; have hbB : Below w4.heap.size w4 w' := (by refine Below.trans ?_ (hb.mono ?_); assumption; exact Below.size (by assumption)))
              | (go_at_call 24; refine (mix_unmixed c _ HC.out).mono ?_; rintro e w' ⟨rfl, hb⟩; go_split_ands; have hbB : Below w4.heap.size w4 w' := (by refine Below.trans ?_ (hb.mono ?_); assumption; exact Below.size (by assumption)))
              | (go_at_call 15; refine (known02_any _).mono ?_; rintro e w' ⟨rfl, rfl⟩))
          all_goals
            go_wp2_with fail
            go_split_ands
            go_ret
            exact ⟨rfl, HB'.out.trans (Below.mono (by assumption) HB'.out.size)⟩

set_option maxRecDepth 100000 in
theorem gcolumns_lifted (os : Os) (started : os.Started) (H : Type) (enc : TypeId × Value → H) :
    ReturnsInHanded {} Try.checked os 12 .any (Rows.galoisColumnsSpec.pre6 enc Try.prog Try.f12 Rows.galoisColumnsRow.domain false) (Rows.galoisColumnsSpec.post enc Try.prog Try.f12 false true false false) := by
  refine returnsInHanded_of_change_sized (C := Try.checked) Try.own started (by kernel_rfl) Try.func12
    (ChangeSpec.witness6 (enc := enc) (C := Try.checked) false ⟨#[], #[.agg #[.int .u8 0, .int .u8 0, .int .u8 0, .int .u8 0], .agg #[.int .u8 0, .int .u8 0, .int .u8 0, .int .u8 0]], []⟩ 8 (by kernel_rfl) (by kernel_rfl) (by kernel_rfl) (by kernel_rfl)) ?_
  intro W base args ds gs before hval0 hW _ hsz0 _
  have hsz : (DataW.weightsEach Try.prog (Try.f12.params.toList ++ Rows.galoisColumnsSpec.plain.varTypes Try.prog) (ds ++ gs)).all (· ≤ reachBytes) = true := hsz0
  have hval : ∀ (j : Nat) t v, Try.f12.params[j]? = some t → args[j]? = some v → Value.okWide Try.prog W .any base t v := hval0
  have hW' := hW
  obtain ⟨p, q, hA0, hV, rfl, _, _⟩ := hW
  have hA : DataW.TrodAll enc Try.prog W 0 (fun _ => true) true Try.f12.params.toList args.toList ds p := hA0
  rw [Try.params12] at hA hval hsz
  have hlt := hW'.lt
  clear hA0 hval0 hsz0
  obtain ⟨v0, vs0, d0, ds0, p0, q0, hv0, rfl, rfl, h0, r0⟩ := trodAll_cons hA
  obtain ⟨v1, vs1, d1, ds1, p1, q1, hv1, rfl, rfl, h1, r1⟩ := trodAll_cons r0
  subst hv1
  obtain ⟨rfl, rfl, rfl⟩ := trodAll_nil r1
  obtain rfl : args = #[v0, v1] := by cases args; simp_all
  obtain ⟨rfl, rfl⟩ := trodVars_none hV
  obtain ⟨f0, rfl, u0⟩ := open_arr_u8 Try.underlying30 Try.underlying5 Try.cellsU8 (by kernel_rfl) (hval 0 30 v0 rfl rfl) h0
  obtain ⟨f1, rfl, u1⟩ := open_arr_u8 Try.underlying30 Try.underlying5 Try.cellsU8 (by kernel_rfl) (hval 1 30 v1 rfl rfl) h1
  refine (gcolumns_any f0 f1 W u0 u1).mono fun e W' ⟨he, hb⟩ => ⟨_, he, ?_⟩
  exact law_post 4 Try.underlying4 (by kernel_rfl) rfl Try.laidOut (by kernel_rfl) hW' ⟨rfl, rfl, rfl⟩ hb

theorem gcolumns_holds : Rows.GaloisColumnsSaid :=
  OpenClaim.holds_of_wide 12 Try.f12 rfl rfl rfl rfl rfl rfl rfl ⟨rfl, rfl, rfl, rfl, rfl⟩ rfl rfl rfl rfl rfl (by kernel_rfl) Try.func12 (by kernel_rfl)
    (of_decide_eq_true (by kernel_rfl)) (by unfold Func.isWrapper; first | (rw [if_pos (by decide +kernel)]; kernel_rfl) | (rw [if_neg (by decide +kernel)]; exact ⟨rfl, rfl⟩))
    (fun os started H enc _ => gcolumns_lifted os started H enc)
end Go.Proofs.Ytffpicjecmfchaa
