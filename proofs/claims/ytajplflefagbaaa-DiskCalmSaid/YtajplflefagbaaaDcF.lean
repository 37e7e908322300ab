/-
  The landed code's device (layer 8): New. (Printed by wip/gen/dcnew.py.)
-/
import Derived.Test.YtajplflefagbaaaDcE
namespace Go.Proofs.Ytajplflefagbaaa
open Go Go.RowKit
set_option linter.unusedVariables false
set_option linter.unusedSimpArgs false

theorem info_bk : (Try.prog.info? 67).map (fun i => (i.zero, i.size, i.bytes)) = some (some (.agg z256), 256, 256) := by kernel_rfl
theorem z256_mem : ∀ x ∈ (Value.agg z256).cells.toList, x = .int .u8 0 := by
  intro x hx
  have hx : x ∈ fl 256 (fun _ => Value.int .u8 0) := hx
  obtain ⟨i, _, rfl⟩ := List.mem_map.1 hx
  rfl
theorem wp_make_fr {o : Oper} {a : Act} {w : World} {K : Act → World → Prop} {Q : Exit → Act → World → Prop} (l c : Operand) (ho : o.op = .makeSlice 60 l c) (n : Nat) (hl : a.eval l = .int .i64 (n : Int)) (hc : a.eval c = .int .i64 (n : Int)) (hn : n ≤ 4096)
    (h : ∀ w', Fr w' w.heap.size 67 (n * 256) (fun _ => .int .u8 0) → Below w.heap.size w w' → w'.heap.size = w.heap.size + 1 → K (a.put o.dst (.slice (some ⟨w.heap.size, 0, none⟩) n n)) w') : o.wp Try.prog a w K Q := by
  obtain ⟨j0, hi, hz0, hz1, hz2⟩ := info_parts info_bk
  obtain ⟨w', hr, h1, h2, h3⟩ := run_make_fr w 60 67 j0 (.agg z256) Try.underlying60 hi hz0 n (by rw [hz2]; omega) (by unfold maxLen; omega) (.int .u8 0) z256_mem (by rw [hz1]; show z256.size = 256; simp [fl_len]) (by rw [hz1]; decide)
  rw [hz1] at h1
  unfold Oper.wp execOp
  simp only [ho, hl, hc, Sem.run_bind, hr, Result.andThen_ok]
  exact h w' h1 h2 h3
theorem bF_zero (n : Nat) (k : Nat) (hk : k < n * 256) : Value.int .u8 0 = bF (Dev.new n).now k := by
  unfold bF
  rw [show (Dev.new n).now.getD (k / 256) [] = zeroB from getD_rep _ _ _ _ (by omega)]
  rw [show zeroB.getD (k % 256) 0 = 0 from getD_rep _ _ _ _ (by omega)]; rfl
abbrev newCells (bn bf n : Nat) : Array Value := #[.slice (some ⟨bn, 0, none⟩) n n, .slice (some ⟨bf, 0, none⟩) n n, .slice none 0 0, .int .u64 0, .int .u64 0, .bool false, .int .u64 0, .bool false]
set_option maxRecDepth 100000 in
theorem cd_fresh {w w2 : World} {bn bf n : Nat} (h8 : 8 ≤ n) (hn : n ≤ 4096) (h1 : Fr w2 bn 67 (n * 256) (fun _ => .int .u8 0)) (h2 : Fr w2 bf 67 (n * 256) (fun _ => .int .u8 0)) (hne : bn ≠ bf) (hb : Below w.heap.size w w2) (g1 : w.heap.size ≤ bn) (g2 : w.heap.size ≤ bf) :
    CD (w2.alloc (.cells (newCells bn bf n) 63)) w2.heap.size (fun b => w.heap.size ≤ b ∧ b < (w2.alloc (.cells (newCells bn bf n) 63)).heap.size) n (Dev.new n) ∧ Below w.heap.size w (w2.alloc (.cells (newCells bn bf n) 63)) := by
  have hbl : Below w2.heap.size w2 (w2.alloc (.cells (newCells bn bf n) 63)) := (Below.refl _ _).alloc (Nat.le_refl _) _
  have hs : (w2.alloc (.cells (newCells bn bf n) 63)).heap.size = w2.heap.size + 1 := World.size_alloc _ _
  have l1 := h1.lt
  have l2 := h2.lt
  have hsz := hb.size
  refine ⟨⟨⟨bn, n, bf, n, .slice none 0 0, 0, false, 0⟩, ⟨Dev.new_ok n, ⟨by omega, hn⟩, ⟨Nat.le_refl _, Nat.le_refl _⟩, by show 0 < _; decide, ⟨rfl, show (0 : Nat) < 18446744073709551616 by decide⟩, ⟨rfl, show (0 : Nat) < 18446744073709551616 by decide⟩, fun _ _ _ => rfl, heap_alloc_new _ _, ⟨⟨hsz, by omega⟩, show w.heap.size ≤ bn ∧ bn < _ from ⟨g1, by omega⟩, show w.heap.size ≤ bf ∧ bf < _ from ⟨g2, by omega⟩⟩, ⟨show bn ≠ w2.heap.size from by omega, show bf ≠ w2.heap.size from by omega, hne⟩, fun b hb => by simp [Value.ownBlock] at hb,
    (h1.call hbl).congr (fun k hk => bF_zero n k hk), (h2.call hbl).congr (fun k hk => bF_zero n k hk), World.ownsRow_nil _ _ _ _, fun b hb => hb.2⟩⟩, hb.trans (hbl.mono hsz)⟩
set_option maxRecDepth 100000 in
theorem cdnew_no (w : World) (i : Int) (hi : -9223372036854775808 ≤ i ∧ i ≤ 9223372036854775807) (h : ¬ (8 ≤ i ∧ i ≤ 4096)) :
    Calls Try.prog 11 #[.int .i64 i] w fun e w' => e = .returned (.tuple #[.pointer none, .int .i64 2]) ∧ Below w.heap.size w w' := by
  by_cases h1 : i < 8
  · go_enter Try.func11, Try.ntmps11
    go_wp2_with fail
    go_ret2
    exact ⟨rfl, Below.refl _ _⟩
  · have h2 : 4096 < i := by omega
    go_enter Try.func11, Try.ntmps11
    go_wp2_with fail
    go_ret2
    exact ⟨rfl, Below.refl _ _⟩
set_option maxRecDepth 100000 in
set_option maxHeartbeats 16000000 in
theorem cdnew_any (w : World) (n : Nat) (h8 : 8 ≤ n) (hn : n ≤ 4096) :
    Calls Try.prog 11 #[.int .i64 (n : Int)] w fun e w' => ∃ d, e = .returned (.tuple #[.pointer (some ⟨d, 0, none⟩), .int .i64 0]) ∧ CD w' d (fun b => w.heap.size ≤ b ∧ b < w'.heap.size) n (Dev.new n) ∧ Below w.heap.size w w' := by
  have h1 : ¬ (n : Int) < 8 := by omega
  have h2 : ¬ (4096 : Int) < (n : Int) := by omega
  go_enter Try.func11, Try.ntmps11
  go_upto_region 3 with fail
  refine wp_region_noPanic ?_
  refine wp_region_held_drew (S := (fun _ => True)) (by kernel_rfl) ?_ (fun hHeld => ?_)
  · trivial
  have hB0 : Below w.heap.size w w.drew := (Below.refl w.heap.size w).drew
  have hz0 : w.heap.size ≤ w.drew.heap.size := Nat.le_refl _
  generalize w.drew = m0 at *
  refine wpAnyH_take (i := 0) (v := ?_) rfl (by kernel_rfl) (by kernel_rfl) (by kernel_rfl) (fun _ _ _ h => h) (Or.inl ⟨by rfl, ?_⟩) hHeld ?_
  rotate_left
  · intro w' hSw
    (try dsimp only at hSw)
    go_simp
    try with_reducible rfl
  try simp only [Act.put, zq1, zq2, zq3, zq4, zq5, zq6]
  refine wpAnyH_take (i := 2) (v := ?_) rfl (by kernel_rfl) (by kernel_rfl) (by kernel_rfl) (fun _ _ _ h => h) (Or.inl ⟨by rfl, ?_⟩) hHeld ?_
  rotate_left
  · intro w' hSw
    (try dsimp only at hSw)
    go_simp
    try with_reducible rfl
  try simp only [Act.put, zq1, zq2, zq3, zq4, zq5, zq6]
  refine wpAnyH_ready (rs := [1, 3]) (by kernel_rfl) (by simp) ?_
  refine AllReadyH.cons rfl (fun K hK => ?_) (AllReadyH.cons rfl (fun K hK => ?_) (AllReadyH.nil))
  · try simp only [zq1, zq2, zq3]
    rw [if_pos (by rfl)]
    refine wp_make_fr _ _ rfl n rfl rfl hn ?_
    intro m1 hF1 hb1 hs1
    have hB1 : Below w.heap.size w m1 := hB0.trans (hb1.mono hB0.size)
    refine hK.out _ _ ?_ (fun hHeld => ?_)
    · trivial
    clear hK K
    try simp only [Act.put, zq1, zq2, zq3, zq4, zq5, zq6]
    have HS1 := Lib.hid hs1; clear hs1
    refine wpAnyH_ready (rs := [3]) (by kernel_rfl) (by simp) ?_
    refine AllReadyH.cons rfl (fun K hK => ?_) (AllReadyH.nil)
    try simp only [zq1, zq2, zq3]
    rw [if_pos (by rfl)]
    refine wp_make_fr _ _ rfl n rfl rfl hn ?_
    intro m2 hF2 hb2 hs2
    have hB2 : Below w.heap.size w m2 := hB1.trans (hb2.mono hB1.size)
    have hF1' := hF1.call hb2
    have hl1 := hF1.lt
    refine hK.out _ _ ?_ (fun hHeld => ?_)
    · trivial
    clear hK K
    try simp only [Act.put, zq1, zq2, zq3, zq4, zq5, zq6]
    have HS2 := Lib.hid hs2; clear hs2
    refine wpAnyH_take (i := 4) (v := ?_) rfl (by kernel_rfl) (by kernel_rfl) (by kernel_rfl) (fun _ _ _ h => h) (Or.inl ⟨by rfl, ?_⟩) hHeld ?_
    rotate_left
    · intro w' hSw
      (try dsimp only at hSw)
      go_simp
      try with_reducible rfl
    try simp only [Act.put, zq1, zq2, zq3, zq4, zq5, zq6]
    refine wpAnyH_ready (rs := [5]) (by kernel_rfl) (by simp) ?_
    refine AllReadyH.cons rfl (fun K hK => ?_) (AllReadyH.nil)
    try simp only [zq1, zq2, zq3]
    go_simp
    refine hK.out _ _ ?_ (fun hHeld => ?_)
    · trivial
    clear hK K
    try simp only [Act.put, zq1, zq2, zq3, zq4, zq5, zq6]
    refine wpAnyH_take (i := 6) (v := ?_) rfl (by kernel_rfl) (by kernel_rfl) (by kernel_rfl) (fun _ _ _ h => h) (Or.inl ⟨by rfl, ?_⟩) hHeld ?_
    rotate_left
    · intro w' hSw
      (try dsimp only at hSw)
      go_simp
      try with_reducible rfl
    try simp only [Act.put, zq1, zq2, zq3, zq4, zq5, zq6]
    refine wpAnyH_take (i := 7) (v := ?_) rfl (by kernel_rfl) (by kernel_rfl) (by kernel_rfl) (fun _ _ _ h => h) (Or.inl ⟨by rfl, ?_⟩) hHeld ?_
    rotate_left
    · intro w' hSw
      (try dsimp only at hSw)
      go_simp
      try with_reducible rfl
    try simp only [Act.put, zq1, zq2, zq3, zq4, zq5, zq6]
    refine wpAnyH_done (by kernel_rfl) ?_ _
    refine NoPanic.normal ?_
    have hfin := cd_fresh (w := w) (w2 := m2) (bn := m0.heap.size) (bf := m1.heap.size) (n := n) h8 hn hF1' hF2 (by omega) hB2 (by have := hB1.size; have := hl1; first | omega | exact Nat.le_refl _) (by have := hB1.size; first | omega | exact Nat.le_refl _)
    have HFIN := Lib.hid hfin; clear hfin
    go_wp2_with fail
    go_ret2
    exact ⟨_, rfl, HFIN.out.1, HFIN.out.2⟩
  · try simp only [zq1, zq2, zq3]
    rw [if_pos (by rfl)]
    refine wp_make_fr _ _ rfl n rfl rfl hn ?_
    intro m1 hF1 hb1 hs1
    have hB1 : Below w.heap.size w m1 := hB0.trans (hb1.mono hB0.size)
    refine hK.out _ _ ?_ (fun hHeld => ?_)
    · trivial
    clear hK K
    try simp only [Act.put, zq1, zq2, zq3, zq4, zq5, zq6]
    have HS1 := Lib.hid hs1; clear hs1
    refine wpAnyH_ready (rs := [1]) (by kernel_rfl) (by simp) ?_
    refine AllReadyH.cons rfl (fun K hK => ?_) (AllReadyH.nil)
    try simp only [zq1, zq2, zq3]
    rw [if_pos (by rfl)]
    refine wp_make_fr _ _ rfl n rfl rfl hn ?_
    intro m2 hF2 hb2 hs2
    have hB2 : Below w.heap.size w m2 := hB1.trans (hb2.mono hB1.size)
    have hF1' := hF1.call hb2
    have hl1 := hF1.lt
    refine hK.out _ _ ?_ (fun hHeld => ?_)
    · trivial
    clear hK K
    try simp only [Act.put, zq1, zq2, zq3, zq4, zq5, zq6]
    have HS2 := Lib.hid hs2; clear hs2
    refine wpAnyH_take (i := 4) (v := ?_) rfl (by kernel_rfl) (by kernel_rfl) (by kernel_rfl) (fun _ _ _ h => h) (Or.inl ⟨by rfl, ?_⟩) hHeld ?_
    rotate_left
    · intro w' hSw
      (try dsimp only at hSw)
      go_simp
      try with_reducible rfl
    try simp only [Act.put, zq1, zq2, zq3, zq4, zq5, zq6]
    refine wpAnyH_ready (rs := [5]) (by kernel_rfl) (by simp) ?_
    refine AllReadyH.cons rfl (fun K hK => ?_) (AllReadyH.nil)
    try simp only [zq1, zq2, zq3]
    go_simp
    refine hK.out _ _ ?_ (fun hHeld => ?_)
    · trivial
    clear hK K
    try simp only [Act.put, zq1, zq2, zq3, zq4, zq5, zq6]
    refine wpAnyH_take (i := 6) (v := ?_) rfl (by kernel_rfl) (by kernel_rfl) (by kernel_rfl) (fun _ _ _ h => h) (Or.inl ⟨by rfl, ?_⟩) hHeld ?_
    rotate_left
    · intro w' hSw
      (try dsimp only at hSw)
      go_simp
      try with_reducible rfl
    try simp only [Act.put, zq1, zq2, zq3, zq4, zq5, zq6]
    refine wpAnyH_take (i := 7) (v := ?_) rfl (by kernel_rfl) (by kernel_rfl) (by kernel_rfl) (fun _ _ _ h => h) (Or.inl ⟨by rfl, ?_⟩) hHeld ?_
    rotate_left
    · intro w' hSw
      (try dsimp only at hSw)
      go_simp
      try with_reducible rfl
    try simp only [Act.put, zq1, zq2, zq3, zq4, zq5, zq6]
    refine wpAnyH_done (by kernel_rfl) ?_ _
    refine NoPanic.normal ?_
    have hfin := cd_fresh (w := w) (w2 := m2) (bn := m1.heap.size) (bf := m0.heap.size) (n := n) h8 hn hF2 hF1' (by omega) hB2 (by have := hB1.size; have := hl1; first | omega | exact Nat.le_refl _) (by have := hB1.size; first | omega | exact Nat.le_refl _)
    have HFIN := Lib.hid hfin; clear hfin
    go_wp2_with fail
    go_ret2
    exact ⟨_, rfl, HFIN.out.1, HFIN.out.2⟩
end Go.Proofs.Ytajplflefagbaaa
