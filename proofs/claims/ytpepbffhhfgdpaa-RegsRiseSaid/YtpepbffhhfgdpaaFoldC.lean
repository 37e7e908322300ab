/-
  Several texts in one:
  The landed code's device (layer 8): New. (Printed by wip/gen/dcnew.py.)
  The landed code's device (layer 8): Sync. (Printed by wip/gen/dcsync.py.)
  The landed code's device (layer 8): the sectors of a write that come through. (Printed by wip/gen/dcharden.py.)
  The landed code's device (layer 8): slices.Clone of blocks and of writes that wait.
  The landed code's device (layer 8): Fork. (Printed by wip/gen/dcfork.py.)
-/
import Derived.Test.YtpepbffhhfgdpaaDcE
import Derived.Test.YtpepbffhhfgdpaaFoldB
import Derived.Deep.AppendLies
import Derived.Lib.SliceRun
namespace Go.Proofs.Ytpepbffhhfgdpaa
open Go Go.RowKit
set_option linter.unusedVariables false
set_option linter.unusedSimpArgs false

theorem info_bk : (Try.prog.info? 81).map (fun i => (i.zero, i.size, i.bytes)) = some (some (.agg z256), 256, 256) := by kernel_rfl
theorem z256_mem : ∀ x ∈ (Value.agg z256).cells.toList, x = .int .u8 0 := by
  intro x hx
  have hx : x ∈ fl 256 (fun _ => Value.int .u8 0) := hx
  obtain ⟨i, _, rfl⟩ := List.mem_map.1 hx
  rfl
theorem wp_make_fr {o : Oper} {a : Act} {w : World} {K : Act → World → Prop} {Q : Exit → Act → World → Prop} (l c : Operand) (ho : o.op = .makeSlice 66 l c) (n : Nat) (hl : a.eval l = .int .i64 (n : Int)) (hc : a.eval c = .int .i64 (n : Int)) (hn : n ≤ 4096)
    (h : ∀ w', Fr w' w.heap.size 81 (n * 256) (fun _ => .int .u8 0) → Below w.heap.size w w' → w'.heap.size = w.heap.size + 1 → K (a.put o.dst (.slice (some ⟨w.heap.size, 0, none⟩) n n)) w') : o.wp Try.prog a w K Q := by
  obtain ⟨j0, hi, hz0, hz1, hz2⟩ := info_parts info_bk
  obtain ⟨w', hr, h1, h2, h3⟩ := run_make_fr w 66 81 j0 (.agg z256) Try.underlying66 hi hz0 n (by rw [hz2]; omega) (by unfold maxLen; omega) (.int .u8 0) z256_mem (by rw [hz1]; show z256.size = 256; simp [fl_len]) (by rw [hz1]; decide)
  rw [hz1] at h1
  unfold Oper.wp execOp
  simp only [ho, hl, hc, Sem.run_bind, hr, Result.andThen_ok]
  exact h w' h1 h2 h3
theorem bF_zero (n : Nat) (k : Nat) (hk : k < n * 256) : Value.int .u8 0 = bF (Dev.new n).now k := by
  unfold bF
  rw [show (Dev.new n).now.getD (k / 256) [] = zeroB from getD_rep _ _ _ _ (by omega)]
  rw [show zeroB.getD (k % 256) 0 = 0 from getD_rep _ _ _ _ (by omega)]; rfl
abbrev newCells (bn bf n : Nat) : Array Value := #[.slice (some ⟨bn, 0, none⟩) n n, .slice (some ⟨bf, 0, none⟩) n n, .slice none 0 0, .int .u64 0, .int .u64 0, .bool false, .int .u64 0, .bool false]
set_option maxRecDepth 100000 in
theorem cd_fresh {w w2 : World} {bn bf n : Nat} (h8 : 8 ≤ n) (hn : n ≤ 4096) (h1 : Fr w2 bn 81 (n * 256) (fun _ => .int .u8 0)) (h2 : Fr w2 bf 81 (n * 256) (fun _ => .int .u8 0)) (hne : bn ≠ bf) (hb : Below w.heap.size w w2) (g1 : w.heap.size ≤ bn) (g2 : w.heap.size ≤ bf) :
    CD (w2.alloc (.cells (newCells bn bf n) 69)) w2.heap.size (fun b => w.heap.size ≤ b ∧ b < (w2.alloc (.cells (newCells bn bf n) 69)).heap.size) n (Dev.new n) ∧ Below w.heap.size w (w2.alloc (.cells (newCells bn bf n) 69)) := by
  have hbl : Below w2.heap.size w2 (w2.alloc (.cells (newCells bn bf n) 69)) := (Below.refl _ _).alloc (Nat.le_refl _) _
  have hs : (w2.alloc (.cells (newCells bn bf n) 69)).heap.size = w2.heap.size + 1 := World.size_alloc _ _
  have l1 := h1.lt
  have l2 := h2.lt
  have hsz := hb.size
  refine ⟨⟨⟨bn, n, bf, n, .slice none 0 0, 0, false, 0⟩, ⟨Dev.new_ok n, ⟨by omega, hn⟩, ⟨Nat.le_refl _, Nat.le_refl _⟩, by show 0 < _; decide, ⟨rfl, show (0 : Nat) < 18446744073709551616 by decide⟩, ⟨rfl, show (0 : Nat) < 18446744073709551616 by decide⟩, fun _ _ _ => rfl, heap_alloc_new _ _, ⟨⟨hsz, by omega⟩, show w.heap.size ≤ bn ∧ bn < _ from ⟨g1, by omega⟩, show w.heap.size ≤ bf ∧ bf < _ from ⟨g2, by omega⟩⟩, ⟨show bn ≠ w2.heap.size from by omega, show bf ≠ w2.heap.size from by omega, hne⟩, fun b hb => by simp [Value.ownBlock] at hb,
    (h1.call hbl).congr (fun k hk => bF_zero n k hk), (h2.call hbl).congr (fun k hk => bF_zero n k hk), World.ownsRow_nil _ _ _ _, fun b hb => hb.2⟩⟩, hb.trans (hbl.mono hsz)⟩
set_option maxRecDepth 100000 in
theorem cdnew_no (w : World) (i : Int) (hi : -9223372036854775808 ≤ i ∧ i ≤ 9223372036854775807) (h : ¬ (8 ≤ i ∧ i ≤ 4096)) :
    Calls Try.prog 9 #[.int .i64 i] w fun e w' => e = .returned (.tuple #[.pointer none, .int .i64 2]) ∧ Below w.heap.size w w' := by
  by_cases h1 : i < 8
  · go_enter Try.func9, Try.ntmps9
    go_wp2_with fail
    go_ret2
    exact ⟨rfl, Below.refl _ _⟩
  · have h2 : 4096 < i := by omega
    go_enter Try.func9, Try.ntmps9
    go_wp2_with fail
    go_ret2
    exact ⟨rfl, Below.refl _ _⟩
set_option maxRecDepth 100000 in
set_option maxHeartbeats 16000000 in
theorem cdnew_any (w : World) (n : Nat) (h8 : 8 ≤ n) (hn : n ≤ 4096) :
    Calls Try.prog 9 #[.int .i64 (n : Int)] w fun e w' => ∃ d, e = .returned (.tuple #[.pointer (some ⟨d, 0, none⟩), .int .i64 0]) ∧ CD w' d (fun b => w.heap.size ≤ b ∧ b < w'.heap.size) n (Dev.new n) ∧ Below w.heap.size w w' := by
  have h1 : ¬ (n : Int) < 8 := by omega
  have h2 : ¬ (4096 : Int) < (n : Int) := by omega
  go_enter Try.func9, Try.ntmps9
  go_upto_region 3 with fail
  refine wp_region_noPanic ?_
  refine wp_region_held_drew (S := (fun _ => True)) (by kernel_rfl) ?_ (fun hHeld => ?_)
  · trivial
  have hB0 : Below w.heap.size w w.drew := (Below.refl w.heap.size w).drew
  have hz0 : w.heap.size ≤ w.drew.heap.size := Nat.le_refl _
  generalize w.drew = m0 at *
  refine wpAnyH_take (i := 0) (v := ?_) rfl (by kernel_rfl) (by kernel_rfl) (by kernel_rfl) (fun _ _ _ h => h) (Or.inl ⟨by rfl, ?_⟩) hHeld ?_
  rotate_left
  · intro w' hSw
    (try dsimp only at hSw)
    go_simp
    try with_reducible rfl
  try simp only [Act.put, zq1, zq2, zq3, zq4, zq5, zq6]
  refine wpAnyH_take (i := 2) (v := ?_) rfl (by kernel_rfl) (by kernel_rfl) (by kernel_rfl) (fun _ _ _ h => h) (Or.inl ⟨by rfl, ?_⟩) hHeld ?_
  rotate_left
  · intro w' hSw
    (try dsimp only at hSw)
    go_simp
    try with_reducible rfl
  try simp only [Act.put, zq1, zq2, zq3, zq4, zq5, zq6]
  refine wpAnyH_ready (rs := [1, 3]) (by kernel_rfl) (by simp) ?_
  refine AllReadyH.cons rfl (fun K hK => ?_) (AllReadyH.cons rfl (fun K hK => ?_) (AllReadyH.nil))
  · try simp only [zq1, zq2, zq3]
    rw [if_pos (by rfl)]
    refine wp_make_fr _ _ rfl n rfl rfl hn ?_
    intro m1 hF1 hb1 hs1
    have hB1 : Below w.heap.size w m1 := hB0.trans (hb1.mono hB0.size)
    refine hK.out _ _ ?_ (fun hHeld => ?_)
    · trivial
    clear hK K
    try simp only [Act.put, zq1, zq2, zq3, zq4, zq5, zq6]
    have HS1 := Lib.hid hs1; clear hs1
    refine wpAnyH_ready (rs := [3]) (by kernel_rfl) (by simp) ?_
    refine AllReadyH.cons rfl (fun K hK => ?_) (AllReadyH.nil)
    try simp only [zq1, zq2, zq3]
    rw [if_pos (by rfl)]
    refine wp_make_fr _ _ rfl n rfl rfl hn ?_
    intro m2 hF2 hb2 hs2
    have hB2 : Below w.heap.size w m2 := hB1.trans (hb2.mono hB1.size)
    have hF1' := hF1.call hb2
    have hl1 := hF1.lt
    refine hK.out _ _ ?_ (fun hHeld => ?_)
    · trivial
    clear hK K
    try simp only [Act.put, zq1, zq2, zq3, zq4, zq5, zq6]
    have HS2 := Lib.hid hs2; clear hs2
    refine wpAnyH_take (i := 4) (v := ?_) rfl (by kernel_rfl) (by kernel_rfl) (by kernel_rfl) (fun _ _ _ h => h) (Or.inl ⟨by rfl, ?_⟩) hHeld ?_
    rotate_left
    · intro w' hSw
      (try dsimp only at hSw)
      go_simp
      try with_reducible rfl
    try simp only [Act.put, zq1, zq2, zq3, zq4, zq5, zq6]
    refine wpAnyH_ready (rs := [5]) (by kernel_rfl) (by simp) ?_
    refine AllReadyH.cons rfl (fun K hK => ?_) (AllReadyH.nil)
    try simp only [zq1, zq2, zq3]
    go_simp
    refine hK.out _ _ ?_ (fun hHeld => ?_)
    · trivial
    clear hK K
    try simp only [Act.put, zq1, zq2, zq3, zq4, zq5, zq6]
    refine wpAnyH_take (i := 6) (v := ?_) rfl (by kernel_rfl) (by kernel_rfl) (by kernel_rfl) (fun _ _ _ h => h) (Or.inl ⟨by rfl, ?_⟩) hHeld ?_
    rotate_left
    · intro w' hSw
      (try dsimp only at hSw)
      go_simp
      try with_reducible rfl
    try simp only [Act.put, zq1, zq2, zq3, zq4, zq5, zq6]
    refine wpAnyH_take (i := 7) (v := ?_) rfl (by kernel_rfl) (by kernel_rfl) (by kernel_rfl) (fun _ _ _ h => h) (Or.inl ⟨by rfl, ?_⟩) hHeld ?_
    rotate_left
    · intro w' hSw
      (try dsimp only at hSw)
      go_simp
      try with_reducible rfl
    try simp only [Act.put, zq1, zq2, zq3, zq4, zq5, zq6]
    refine wpAnyH_done (by kernel_rfl) ?_ _
    refine NoPanic.normal ?_
    have hfin := cd_fresh (w := w) (w2 := m2) (bn := m0.heap.size) (bf := m1.heap.size) (n := n) h8 hn hF1' hF2 (by omega) hB2 (by have := hB1.size; have := hl1; first | omega | exact Nat.le_refl _) (by have := hB1.size; first | omega | exact Nat.le_refl _)
    have HFIN := Lib.hid hfin; clear hfin
    go_wp2_with fail
    go_ret2
    exact ⟨_, rfl, HFIN.out.1, HFIN.out.2⟩
  · try simp only [zq1, zq2, zq3]
    rw [if_pos (by rfl)]
    refine wp_make_fr _ _ rfl n rfl rfl hn ?_
    intro m1 hF1 hb1 hs1
    have hB1 : Below w.heap.size w m1 := hB0.trans (hb1.mono hB0.size)
    refine hK.out _ _ ?_ (fun hHeld => ?_)
    · trivial
    clear hK K
    try simp only [Act.put, zq1, zq2, zq3, zq4, zq5, zq6]
    have HS1 := Lib.hid hs1; clear hs1
    refine wpAnyH_ready (rs := [1]) (by kernel_rfl) (by simp) ?_
    refine AllReadyH.cons rfl (fun K hK => ?_) (AllReadyH.nil)
    try simp only [zq1, zq2, zq3]
    rw [if_pos (by rfl)]
    refine wp_make_fr _ _ rfl n rfl rfl hn ?_
    intro m2 hF2 hb2 hs2
    have hB2 : Below w.heap.size w m2 := hB1.trans (hb2.mono hB1.size)
    have hF1' := hF1.call hb2
    have hl1 := hF1.lt
    refine hK.out _ _ ?_ (fun hHeld => ?_)
    · trivial
    clear hK K
    try simp only [Act.put, zq1, zq2, zq3, zq4, zq5, zq6]
    have HS2 := Lib.hid hs2; clear hs2
    refine wpAnyH_take (i := 4) (v := ?_) rfl (by kernel_rfl) (by kernel_rfl) (by kernel_rfl) (fun _ _ _ h => h) (Or.inl ⟨by rfl, ?_⟩) hHeld ?_
    rotate_left
    · intro w' hSw
      (try dsimp only at hSw)
      go_simp
      try with_reducible rfl
    try simp only [Act.put, zq1, zq2, zq3, zq4, zq5, zq6]
    refine wpAnyH_ready (rs := [5]) (by kernel_rfl) (by simp) ?_
    refine AllReadyH.cons rfl (fun K hK => ?_) (AllReadyH.nil)
    try simp only [zq1, zq2, zq3]
    go_simp
    refine hK.out _ _ ?_ (fun hHeld => ?_)
    · trivial
    clear hK K
    try simp only [Act.put, zq1, zq2, zq3, zq4, zq5, zq6]
    refine wpAnyH_take (i := 6) (v := ?_) rfl (by kernel_rfl) (by kernel_rfl) (by kernel_rfl) (fun _ _ _ h => h) (Or.inl ⟨by rfl, ?_⟩) hHeld ?_
    rotate_left
    · intro w' hSw
      (try dsimp only at hSw)
      go_simp
      try with_reducible rfl
    try simp only [Act.put, zq1, zq2, zq3, zq4, zq5, zq6]
    refine wpAnyH_take (i := 7) (v := ?_) rfl (by kernel_rfl) (by kernel_rfl) (by kernel_rfl) (fun _ _ _ h => h) (Or.inl ⟨by rfl, ?_⟩) hHeld ?_
    rotate_left
    · intro w' hSw
      (try dsimp only at hSw)
      go_simp
      try with_reducible rfl
    try simp only [Act.put, zq1, zq2, zq3, zq4, zq5, zq6]
    refine wpAnyH_done (by kernel_rfl) ?_ _
    refine NoPanic.normal ?_
    have hfin := cd_fresh (w := w) (w2 := m2) (bn := m1.heap.size) (bf := m0.heap.size) (n := n) h8 hn hF2 hF1' (by omega) hB2 (by have := hB1.size; have := hl1; first | omega | exact Nat.le_refl _) (by have := hB1.size; first | omega | exact Nat.le_refl _)
    have HFIN := Lib.hid hfin; clear hfin
    go_wp2_with fail
    go_ret2
    exact ⟨_, rfl, HFIN.out.1, HFIN.out.2⟩
end Go.Proofs.Ytpepbffhhfgdpaa
namespace Go.Proofs.Ytpepbffhhfgdpaa
open Go Go.RowKit
set_option linter.unusedVariables false
set_option linter.unusedSimpArgs false

theorem wr_size : (Try.prog.info? 83).map (·.size) = some 257 := by kernel_rfl
theorem zeroWr (w : World) : (zeroValue 83).run Try.prog w = .ok (.agg (wC 0 fun _ => .int .u8 0)) w := by kernel_rfl
theorem wL_arr (x : Nat × List UInt8) (h : x.2.length = 256) : (wL x).toArray.size = 257 := by simp [wL_len x h]
theorem wL_sizeA (x : Nat × List UInt8) (h : x.2.length = 256) : (Try.prog.info? 83).map (·.size) = some (wL x).toArray.size := by rw [wL_arr x h]; exact wr_size
theorem wL_sizeL (x : Nat × List UInt8) (h : x.2.length = 256) : (Try.prog.info? 83).map (·.size) = some (wL x).length := by rw [wL_len x h]; exact wr_size
theorem Fr.newA (w : World) (cs : Array Value) (t : TypeId) (m : Nat) (hm : m ≤ cs.size) : Fr (w.alloc (.cells cs t)) w.heap.size t m (fun k => (cs[k]?).getD undef) :=
  ⟨cs, heap_alloc_new w _, hm, fun k hk => by
    show _ = some ((cs[k]?).getD undef)
    rw [Array.getElem?_eq_getElem (show k < cs.size by omega)]; rfl⟩
theorem new_wr (w : World) : Fr (w.alloc (.cells (wC 0 fun _ => .int .u8 0) 83)) w.heap.size 83 257 (fun k => ((wC 0 fun _ => .int .u8 0)[k]?).getD undef) :=
  Fr.newA w _ _ 257 (Nat.le_of_eq (wC_size 0 _).symm)
theorem fl_there {w : World} {b m : Nat} {t : TypeId} {f : Nat → Value} (h : Fr w b t m f) (o : Nat) (g : Nat → Value) (ho : o + 256 ≤ m) : w.there b o (fl 256 g).toArray.size := by
  have e : (fl 256 g).toArray.size = 256 := by simp [fl_len]
  rw [e]; exact h.there o 256 ho
theorem fl_sizeB (g : Nat → Value) : (Try.prog.info? 81).map (·.size) = some (fl 256 g).toArray.size := by
  have e : (fl 256 g).toArray.size = 256 := by simp [fl_len]
  rw [e]; exact block_size
set_option maxRecDepth 100000 in
theorem new_wr_there (w : World) (x : Nat × List UInt8) (h : x.2.length = 256) : (w.alloc (.cells (wC 0 fun _ => .int .u8 0) 83)).there w.heap.size 0 (wL x).toArray.size := by rw [wL_arr x h]; exact (new_wr w).there 0 257 (Nat.le_refl _)
set_option maxRecDepth 100000 in
theorem new_wr_box (w : World) (x : Nat × List UInt8) (h : x.2.length = 256) : Fr ((w.alloc (.cells (wC 0 fun _ => .int .u8 0) 83)).setCells w.heap.size 0 (wL x)) w.heap.size 83 257 (fun k => ((wL x)[k]?).getD undef) ∧ Below w.heap.size w ((w.alloc (.cells (wC 0 fun _ => .int .u8 0) 83)).setCells w.heap.size 0 (wL x)) := by
  refine ⟨(Fr.setCells (wL x) 0 _ _ (new_wr w) (by rw [wL_len x h]; exact Nat.le_refl _)).congr fun k hk => ?_, Turn.below ((Below.refl _ _).alloc (Nat.le_refl _) _) (turn_setCells _ _ _ _) (Nat.le_refl _)⟩
  unfold layF
  rw [wL_len x h, if_pos (by omega)]; rfl
theorem rows_eq {F G : List (List UInt8)} {n : Nat} (h1 : F.length = n) (h2 : G.length = n) (h : ∀ x, x < n → F.getD x [] = G.getD x []) : F = G := by
  apply List.ext_getElem (by omega)
  intro i h3 h4
  have := h i (by omega)
  rw [List.getD_eq_getElem?_getD, List.getD_eq_getElem?_getD, List.getElem?_eq_getElem h3, List.getElem?_eq_getElem h4] at this
  exact this
/-- F is G where a write of the first j waits, F0 elsewhere. -/
def Half (W : List (Nat × List UInt8)) (G F0 F : List (List UInt8)) (n j : Nat) : Prop := F.length = n ∧ ∀ x, x < n → F.getD x [] = G.getD x [] ∨ (F.getD x [] = F0.getD x [] ∧ ∀ k, k < j → (W.getD k (0, [])).1 ≠ x)
theorem Half.zero (W : List (Nat × List UInt8)) (G F0 : List (List UInt8)) (n : Nat) (h : F0.length = n) : Half W G F0 F0 n 0 := ⟨h, fun x _ => .inr ⟨rfl, fun k hk => absurd hk (Nat.not_lt_zero _)⟩⟩
theorem Half.succ {W : List (Nat × List UInt8)} {G F0 F : List (List UInt8)} {n j i : Nat} (h : Half W G F0 F n j) (hi : (W.getD j (0, [])).1 = i) (hn : i < n) : Half W G F0 (F.set i (G.getD i [])) n (j + 1) := by
  refine ⟨by rw [List.length_set]; exact h.1, fun x hx => ?_⟩
  rw [getD_set]
  by_cases e : x = i
  · subst e; rw [if_pos ⟨rfl, by rw [h.1]; exact hn⟩]; exact .inl rfl
  · rw [if_neg (fun h => e h.1)]
    refine (h.2 x hx).imp id fun h2 => ⟨h2.1, fun k hk => ?_⟩
    by_cases e2 : k = j
    · subst e2; rw [hi]; exact fun e3 => e e3.symm
    · exact h2.2 k (by omega)
theorem Half.all {W : List (Nat × List UInt8)} {G F0 F : List (List UInt8)} {n m : Nat} (h : Half W G F0 F n m) (hG : G.length = n) (hinv : ∀ x, x < n → (∀ k, k < m → (W.getD k (0, [])).1 ≠ x) → F0.getD x [] = G.getD x []) : F = G :=
  rows_eq h.1 hG fun x hx => (h.2 x hx).elim id fun h2 => h2.1.trans (hinv x hx h2.2)
set_option maxRecDepth 100000 in
theorem CDs.noWaits {S : Cs} {w : World} {d n : Nat} {L : Nat → Prop} {D : Dev} (h : CDs S w d L n D) (e : D.now = D.firm) : CDs { S with wv := .slice none 0 0 } (w.setCell ⟨d, 2, none⟩ (.slice none 0 0)) d L n { D with waits := [] } :=
  ⟨⟨h.ok.nl, h.ok.fl, h.ok.nr, h.ok.fr, fun k hk' => absurd hk' (Nat.not_lt_zero _), h.ok.fs, h.ok.cs, h.ok.ss⟩, h.n4, h.cc, h.ss, h.rf, h.rc, fun i _ _ => by show D.now.getD i [] = D.firm.getD i []; rw [e], heap_setCell_same _ _ _ _ _ _ h.hp, h.ld, h.ne, fun b hb => by simp [Value.ownBlock] at hb,
    h.rn.turn (turn_setCell _ _ _ _) h.ne.1, h.rr.turn (turn_setCell _ _ _ _) h.ne.2.1, World.ownsRow_nil _ _ _ _, fun b hb => by rw [World.size_setCell]; exact h.lt b hb⟩
/-- One that waits can be read where it lies. -/
theorem CDs.waitAt {S : Cs} {w : World} {d n : Nat} {L : Nat → Prop} {D : Dev} (h : CDs S w d L n D) (h0 : 0 < D.waits.length) : ∃ g c, S.wv = .slice (some ⟨g, 0, none⟩) D.waits.length c ∧ D.waits.length ≤ c ∧ ∀ j, j < D.waits.length → w.rangeAt g (j * 257) (wL (D.waits.getD j (0, []))) := by
  obtain ⟨A, c, e, hc, hr⟩ := wv_form h
  obtain ⟨g, cap, e2, _, _⟩ := World.ownsRow.form h.ww h0
  rw [e] at e2
  injection e2 with e2 _ e4
  refine ⟨g, c, by rw [e, e2], hc, fun j hj k v hk => ?_⟩
  rw [← wF_at _ _ (h.ok.wl j hj).2] at hk
  obtain ⟨hk2, rfl⟩ := fl_of hk
  obtain ⟨ad, e5, _, hcs⟩ := hr (by rw [fl_len]; omega)
  rw [e2] at e5
  injection e5 with e5
  have := hcs (j * 257 + k) (wF D.waits (j * 257 + k)) (fl_get _ _ _ (by omega))
  rw [← e5, head_add] at this
  exact this
set_option maxRecDepth 100000 in
set_option maxHeartbeats 16000000 in
theorem cdsync_any (w : World) (d n : Nat) (L : Nat → Prop) (D : Dev) (h : CD w d L n D) (hm : D.load ≤ 1000000) : Calls Try.prog 39 #[.pointer (some ⟨d, 0, none⟩)] w fun e w' => e = .returned (.int .i64 (D.stepE : Int)) ∧ CD w' d (ext L w w') n D.sync ∧ Keep L w w' := by
  obtain ⟨S, h⟩ := h
  have hs := cdstep0 S w d n L D h hm
  have eW : D.sync = if D.stepE = 0 then { D.step with firm := D.step.now, waits := [] } else D.step := rfl
  rw [eW]
  have hwl : D.step.waits.length ≤ 1000000 := by rw [waits_stepE]; have := load_waits D; omega
  have hlt0 := h.lt
  have hld := h.ld
  obtain ⟨E, hE⟩ : ∃ E, E = D.stepE := ⟨_, rfl⟩
  rw [← hE] at hs
  rw [← hE]
  obtain ⟨D1, hD1⟩ : ∃ D1, D1 = D.step := ⟨_, rfl⟩
  rw [← hD1] at hs hwl
  rw [← hD1]
  have HS0 := Lib.hid hs; clear hs
  have HLT := Lib.hid hlt0; clear hlt0
  by_cases h0 : E = 0
  · rw [if_pos h0]
    subst h0
    clear hE hD1 h eW hm
    go_enter Try.func39, Try.ntmps39
    go_wp2_with fail
    refine HS0.out.mono ?_
    rintro e w2 ⟨rfl, hcd, ht2⟩
    clear HS0
    obtain ⟨bt, hbt⟩ : ∃ bt, bt = S.bf := ⟨_, rfl⟩
    obtain ⟨ct, hct⟩ : ∃ ct, ct = S.cf := ⟨_, rfl⟩
    obtain ⟨bs, hbs⟩ : ∃ bs, bs = S.bn := ⟨_, rfl⟩
    obtain ⟨cs, hcs⟩ : ∃ cs, cs = S.cn := ⟨_, rfl⟩
    obtain ⟨wv, hwv0⟩ : ∃ wv, wv = S.wv := ⟨_, rfl⟩
    obtain ⟨m, hm0⟩ : ∃ m, m = D1.waits.length := ⟨_, rfl⟩
    obtain ⟨Ws, hWs⟩ : ∃ Ws, Ws = D1.waits := ⟨_, rfl⟩
    obtain ⟨Gs, hGs⟩ : ∃ Gs, Gs = D1.now := ⟨_, rfl⟩
    obtain ⟨F0, hF0⟩ : ∃ F0, F0 = D1.firm := ⟨_, rfl⟩
    have HEQ := Lib.hid (And.intro hbt (And.intro hbs (And.intro hwv0 (And.intro hm0 (And.intro hWs (And.intro hGs hF0))))))
    have HF0 : Hid (F0.length = n) := Lib.hid (by rw [hF0]; exact hcd.ok.fl)
    have HGN : Hid (Gs.length = n) := Lib.hid (by rw [hGs]; exact hcd.ok.nl)
    have HGR : Hid (∀ i, i < n → (Gs.getD i []).length = 256) := Lib.hid (by rw [hGs]; exact hcd.ok.nr)
    have HFR : Hid (Fr w2 bt 81 (n * 256) (bF F0)) := Lib.hid (by rw [hbt, hF0]; exact hcd.rr)
    have HFS : Hid (Fr w2 bs 81 (n * 256) (bF Gs)) := Lib.hid (by rw [hbs, hGs]; exact hcd.rn)
    have HINV : Hid (∀ x, x < n → (∀ k, k < m → (Ws.getD k (0, [])).1 ≠ x) → F0.getD x [] = Gs.getD x []) := Lib.hid (by rw [hWs, hF0, hGs, hm0]; exact fun x hx h => (hcd.inv x hx h).symm)
    have HWL : Hid (∀ k, k < m → (Ws.getD k (0, [])).1 < n ∧ (Ws.getD k (0, [])).2.length = 256) := Lib.hid (by rw [hWs, hm0]; exact hcd.ok.wl)
    have HW : Hid (0 < m → ∃ g cw, wv = .slice (some ⟨g, 0, none⟩) m cw ∧ m ≤ cw ∧ ∀ j, j < m → w2.rangeAt g (j * 257) (wL (Ws.getD j (0, [])))) := Lib.hid (by rw [hm0, hwv0, hWs]; exact hcd.waitAt)
    have HGW : Hid (∀ g, wv.ownBlock = some g → g < w2.heap.size ∧ ¬ (fun b => b = bt) g) := Lib.hid (by rw [hwv0, hbt]; exact fun g hg => ⟨hcd.lt g (hcd.lw g hg).1, (hcd.lw g hg).2.2.2⟩)
    have HBS : Hid (¬ (fun b => b = bt) bs ∧ bs < w2.heap.size ∧ d < w2.heap.size ∧ ¬ (fun b => b = bt) d ∧ True) := Lib.hid (by rw [hbs, hbt]; exact ⟨hcd.ne.2.2, hcd.lt _ hcd.ld.2.1, hcd.lt _ hcd.ld.1, fun e => hcd.ne.2.1 e.symm, trivial⟩)
    have HD : Hid (w2.cell? ⟨d, 1, none⟩ = some (.slice (some ⟨bt, 0, none⟩) n ct) ∧ w2.cell? ⟨d, 0, none⟩ = some (.slice (some ⟨bs, 0, none⟩) n cs)) := Lib.hid (by rw [hbt, hct, hbs, hcs]; exact ⟨hcd.c1, hcd.c0⟩)
    obtain ⟨A0, c0, hwf, hwc, _⟩ := wv_form hcd
    rw [← hwv0, ← hm0] at hwf
    rw [← hm0] at hwc
    have d2 := hcd.c2
    rw [← hwv0, hwf] at d2
    have HWF := Lib.hid hwf; clear hwf
    have HW2 := Lib.hid (And.intro hcd ht2)
    rw [← hm0] at hwl
    clear hcd ht2 hbt hct hbs hcs hwv0 hm0 hWs hGs hF0
    go_upto_region 6 with fail
    go_wp2_with fail
    rw [← HWF.out]
    clear d2
    go_loopw [18] (fun ix wr => ∃ (j : Nat) (Fj : List (List UInt8)), j ≤ m ∧ ix = .int .i64 j ∧ Hid (Half Ws Gs F0 Fj n j) ∧ Hid (Fr wr bt 81 (n * 256) (bF Fj)) ∧ Hid (Keep (fun b => b = bt) w2 wr)) (fun ix _ => m - (intOf ix).toNat)
    case atStart => exact ⟨0, F0, Nat.zero_le _, rfl, Lib.hid (Half.zero Ws Gs F0 n HF0.out), Lib.hid HFR.out, Lib.hid (Keep.refl _ _)⟩
    case round =>
      rename World => wr
      obtain ⟨j, Fj, hj, rfl, HH, HFJ, HKJ⟩ := hrel
      by_cases hlt : j < m
      · have hji : (j : Int) < (m : Int) := by omega
        obtain ⟨g, cw, hwv, hcw, hrg⟩ := HW.out (by omega)
        obtain ⟨x, hx⟩ : ∃ x, x = Ws.getD j (0, []) := ⟨_, rfl⟩
        obtain ⟨hxi, hxl⟩ := HWL.out j hlt
        rw [← hx] at hxi hxl
        have hrg := hrg j hlt
        rw [← hx] at hrg
        obtain ⟨i, hi0⟩ : ∃ i, i = x.1 := ⟨_, rfl⟩
        rw [← hi0] at hxi
        have hgw := HGW.out g (by rw [hwv]; rfl)
        have HRG : Hid (wr.rangeAt g (j * 257) (wL x)) := Lib.hid fun q v hq => (World.cell?_of_block (w := w2) (HKJ.out.block g hgw.1 hgw.2)).trans (hrg q v hq)
        have HXL := Lib.hid hxl; clear hxl
        have HI : Hid (i < n ∧ (Ws.getD j (0, [])).1 = i ∧ i * 256 + 256 ≤ n * 256) := Lib.hid ⟨hxi, by rw [← hx, hi0], by omega⟩
        have hzw := zeroWr
        have HBX := Lib.hid (new_wr_box wr x HXL.out)
        have HWV := Lib.hid hwv
        subst hwv
        clear hrg hx
        go_wp2_with (first
          | ((with_reducible show wpList _ _ _ (⟨some 21, _, _, _, _, _⟩ :: _) _ _); refine wpList_load_mid rfl 83 (.tmp 20) rfl g (j * 257) rfl (wL x) _ HRG.out Try.underlying83 rfl (wL_sizeL x HXL.out) ?_)
          | ((with_reducible show wpList _ _ _ (⟨none, .store _ (.tmp 5) (.tmp 21), _, _, _, _⟩ :: _) _ _); refine wpList_store_mid rfl 83 (.tmp 5) (.tmp 21) rfl wr.heap.size 0 (wL x).toArray rfl rfl (new_wr_there wr x HXL.out) (wL_sizeA x HXL.out) (all_oneCell_toArray (wL_one x)) ?_))
        have hbx : Fr ((wr.alloc (.cells (wC 0 fun _ => .int .u8 0) 83)).setCells wr.heap.size 0 (wL x).toArray.toList) wr.heap.size 83 257 (fun k => ((wL x)[k]?).getD undef) ∧ Below wr.heap.size wr ((wr.alloc (.cells (wC 0 fun _ => .int .u8 0) 83)).setCells wr.heap.size 0 (wL x).toArray.toList) := HBX.out
        clear HBX hzw
        try simp only [List.toList_toArray] at hbx ⊢
        generalize (wr.alloc (.cells (wC 0 fun _ => .int .u8 0) 83)).setCells wr.heap.size 0 (wL x) = wz at *
        have HKZ : Hid (Keep (fun b => b = bt) w2 wz) := Lib.hid (HKJ.out.call hbx.2)
        have HFZ : Hid (Fr wz bt 81 (n * 256) (bF Fj)) := Lib.hid (HFJ.out.call hbx.2)
        have hbc : wz.cell? ⟨wr.heap.size, 0, none⟩ = some (.int .i64 (i : Int)) := by rw [hi0]; exact hbx.1.cellAt 0 (by decide)
        have HGL : Hid ((Gs.getD i []).length = 256) := Lib.hid (HGR.out i hxi)
        have hrs : wz.rangeAt bs (i * 256) (fl 256 fun q => bF Gs (i * 256 + q)) := ((HFS.out.keep (HKZ.out.block bs HBS.out.2.1 HBS.out.1)).range (i * 256) 256 HI.out.2.2)
        have hv : fl 256 (fun q => bF Gs (i * 256 + q)) = vb (Gs.getD i []) := bF_block _ _ HGL.out
        generalize (fun q => bF Gs (i * 256 + q)) = fk at *
        have HV := Lib.hid hv; clear hv
        have hdz : wz.heap[d]? = w2.heap[d]? := HKZ.out.block d HBS.out.2.2.1 HBS.out.2.2.2.1
        have hwb : wr.heap.size ≠ bt := fun e => by have h1 := HFJ.out.lt; omega
        have hheld : ∀ W : World, Turn bt wz W → W.cell? ⟨d, 1, none⟩ = some (.slice (some ⟨bt, 0, none⟩) n ct) ∧ W.cell? ⟨wr.heap.size, 0, none⟩ = some (.int .i64 (i : Int)) ∧ W.cell? ⟨d, 0, none⟩ = some (.slice (some ⟨bs, 0, none⟩) n cs) ∧ W.rangeAt bs (i * 256) (fl 256 fk) := fun W ht => by
          have hd2 : W.heap[d]? = w2.heap[d]? := (ht.block d HBS.out.2.2.2.1).trans hdz
          refine ⟨(World.cell?_of_block (w := w2) hd2).trans HD.out.1, (ht.cell (p := ⟨wr.heap.size, 0, none⟩) hwb).trans hbc, (World.cell?_of_block (w := w2) hd2).trans HD.out.2, fun q v hq => (ht.cell (p := ⟨bs, _, none⟩) HBS.out.1).trans (hrs q v hq)⟩
        have HS := Lib.hid hheld; clear hheld hrs hbc hbx hdz hi0
        have HTH : Hid (wz.drew.there bt (i * 256) (fl 256 fk).toArray.size) := Lib.hid (fl_there (w := wz.drew) HFZ.out _ _ HI.out.2.2)
        have HSZ : Hid ((Try.prog.info? 81).map (·.size) = some (fl 256 fk).toArray.size) := Lib.hid (fl_sizeB fk)
        have HON : Hid (∀ v ∈ fl 256 fk, v.oneCell' = true) := Lib.hid (by rw [HV.out]; exact vb_oneC _)
        have hii : (i : Int) < (n : Int) := by have := HI.out.1; omega
        clear hwb hgw hcw
        go_upto_region 9 with fail
        refine wp_region_noPanic ?_
        refine wp_region_held_drew (S := (fun w' => w'.cell? ⟨d, 1, none⟩ = some (.slice (some ⟨bt, 0, none⟩) n ct) ∧ w'.cell? ⟨wr.heap.size, 0, none⟩ = some (.int .i64 (i : Int)) ∧ w'.cell? ⟨d, 0, none⟩ = some (.slice (some ⟨bs, 0, none⟩) n cs) ∧ w'.rangeAt bs (i * 256) (fl 256 fk))) (by kernel_rfl) ?_ (fun hHeld => ?_)
        · exact HS.out _ (Turn.refl _ _).drew
        refine wpAnyH_take (i := 0) (v := ?_) rfl (by kernel_rfl) (by kernel_rfl) (by kernel_rfl) (fun _ _ _ h => h) (Or.inl ⟨by rfl, ?_⟩) hHeld ?_
        rotate_left
        · intro w' hSw
          (try dsimp only at hSw)
          go_simp
          try with_reducible rfl
        try simp only [Act.put, zq1, zq2, zq3, zq4, zq5, zq6]
        refine wpAnyH_take (i := 1) (v := ?_) rfl (by kernel_rfl) (by kernel_rfl) (by kernel_rfl) (fun _ _ _ h => h) (Or.inl ⟨by rfl, ?_⟩) hHeld ?_
        rotate_left
        · intro w' hSw
          (try dsimp only at hSw)
          go_simp
          try with_reducible rfl
        try simp only [Act.put, zq1, zq2, zq3, zq4, zq5, zq6]
        refine wpAnyH_take (i := 2) (v := ?_) rfl (by kernel_rfl) (by kernel_rfl) (by kernel_rfl) (fun _ _ _ h => h) (Or.inl ⟨by rfl, ?_⟩) hHeld ?_
        rotate_left
        · intro w' hSw
          (try dsimp only at hSw)
          go_simp
          try with_reducible rfl
        try simp only [Act.put, zq1, zq2, zq3, zq4, zq5, zq6]
        refine wpAnyH_take (i := 3) (v := ?_) rfl (by kernel_rfl) (by kernel_rfl) (by kernel_rfl) (fun _ _ _ h => h) (Or.inl ⟨by rfl, ?_⟩) hHeld ?_
        rotate_left
        · intro w' hSw
          (try dsimp only at hSw)
          go_simp
          try with_reducible rfl
        try simp only [Act.put, zq1, zq2, zq3, zq4, zq5, zq6]
        refine wpAnyH_take (i := 4) (v := ?_) rfl (by kernel_rfl) (by kernel_rfl) (by kernel_rfl) (fun _ _ _ h => h) (Or.inl ⟨by rfl, ?_⟩) hHeld ?_
        rotate_left
        · intro w' hSw
          (try dsimp only at hSw)
          go_simp
          try with_reducible rfl
        try simp only [Act.put, zq1, zq2, zq3, zq4, zq5, zq6]
        refine wpAnyH_take (i := 5) (v := ?_) rfl (by kernel_rfl) (by kernel_rfl) (by kernel_rfl) (fun _ _ _ h => h) (Or.inl ⟨by rfl, ?_⟩) hHeld ?_
        rotate_left
        · intro w' hSw
          (try dsimp only at hSw)
          go_simp
          try with_reducible rfl
        try simp only [Act.put, zq1, zq2, zq3, zq4, zq5, zq6]
        refine wpAnyH_take (i := 6) (v := ?_) rfl (by kernel_rfl) (by kernel_rfl) (by kernel_rfl) (fun _ _ _ h => h) (Or.inl ⟨by rfl, ?_⟩) hHeld ?_
        rotate_left
        · intro w' hSw
          (try dsimp only at hSw)
          go_simp
          try with_reducible rfl
        try simp only [Act.put, zq1, zq2, zq3, zq4, zq5, zq6]
        refine wpAnyH_take (i := 7) (v := ?_) rfl (by kernel_rfl) (by kernel_rfl) (by kernel_rfl) (fun _ _ _ h => h) (Or.inl ⟨by rfl, ?_⟩) hHeld ?_
        rotate_left
        · intro w' hSw
          (try dsimp only at hSw)
          go_simp
          try with_reducible rfl
        try simp only [Act.put, zq1, zq2, zq3, zq4, zq5, zq6]
        refine wpAnyH_take (i := 8) (v := ?_) rfl (by kernel_rfl) (by kernel_rfl) (by kernel_rfl) (fun _ _ _ h => h) (Or.inl ⟨by rfl, ?_⟩) hHeld ?_
        rotate_left
        · intro w' hSw
          (try dsimp only at hSw)
          go_simp
          try with_reducible rfl
        try simp only [Act.put, zq1, zq2, zq3, zq4, zq5, zq6]
        refine wpAnyH_take (i := 9) (v := ?_) rfl (by kernel_rfl) (by kernel_rfl) (by kernel_rfl) (fun _ _ _ h => h) (Or.inl ⟨by rfl, ?_⟩) hHeld ?_
        rotate_left
        · intro w' hSw
          (try dsimp only at hSw)
          go_simp
          try with_reducible rfl
        try simp only [Act.put, zq1, zq2, zq3, zq4, zq5, zq6]
        refine wpAnyH_take (i := 10) (v := ?_) rfl (by kernel_rfl) (by kernel_rfl) (by kernel_rfl) (fun _ _ _ h => h) (Or.inl ⟨by rfl, ?_⟩) hHeld ?_
        rotate_left
        · intro w' hSw
          (try dsimp only at hSw)
          go_simp
          try with_reducible rfl
        try simp only [Act.put, zq1, zq2, zq3, zq4, zq5, zq6]
        refine wpAnyH_take (i := 11) (v := ?_) rfl (by kernel_rfl) (by kernel_rfl) (by kernel_rfl) (fun _ _ _ h => h) (Or.inl ⟨by rfl, ?_⟩) hHeld ?_
        rotate_left
        · intro w' hSw
          (try dsimp only at hSw)
          go_simp
          try with_reducible rfl
        try simp only [Act.put, zq1, zq2, zq3, zq4, zq5, zq6]
        refine wpAnyH_take (i := 12) (v := ?_) rfl (by kernel_rfl) (by kernel_rfl) (by kernel_rfl) (fun _ _ _ h => h) (Or.inl ⟨by rfl, ?_⟩) hHeld ?_
        rotate_left
        · intro w' hSw
          (try dsimp only at hSw)
          go_simp
          try with_reducible rfl
        try simp only [Act.put, zq1, zq2, zq3, zq4, zq5, zq6]
        refine wpAnyH_take (i := 13) rfl (by kernel_rfl) (by kernel_rfl) (by kernel_rfl) (fun _ _ _ h => h) (yieldsIf_load_mid (by rfl) 81 (.tmp 34) rfl (bs) (i * 256) rfl (fl 256 fk) (.array 256 5) (fun _ h => h.2.2.2) Try.underlying81 rfl (by rw [fl_len]; exact block_size)) hHeld ?_
        try simp only [Act.put, zq1, zq2, zq3, zq4, zq5, zq6]
        refine wpAnyH_take (i := 14) (v := ?_) rfl (by kernel_rfl) (by kernel_rfl) (by kernel_rfl) (fun _ _ _ h => h) (Or.inl ⟨by rfl, ?_⟩) hHeld ?_
        rotate_left
        · intro w' hSw
          (try dsimp only at hSw)
          go_simp
          try with_reducible rfl
        try simp only [Act.put, zq1, zq2, zq3, zq4, zq5, zq6]
        refine wpAnyH_ready (rs := [15]) (by kernel_rfl) (by simp) ?_
        refine AllReadyH.cons rfl (fun K hK => ?_) (AllReadyH.nil)
        try simp only [zq1, zq2, zq3]
        try simp only [zq1, zq2, zq3]
        rw [if_pos (by rfl)]
        refine wp_store_mid 81 (.tmp 36) (.tmp 35) rfl (bt) (i * 256) (fl 256 fk).toArray rfl rfl HTH.out HSZ.out (all_oneCell_toArray HON.out) ?_
        simp only [Act.put, zq1, zq2, zq3, zq4, zq5, zq6, List.toList_toArray]
        refine hK.out _ _ ?_ (fun hHeld => ?_)
        · exact HS.out _ (Turn.drew1 (turn_setCells _ _ _ wz.drew))
        clear hK K
        try simp only [Act.put, zq1, zq2, zq3, zq4, zq5, zq6]
        refine wpAnyH_done (by kernel_rfl) ?_ _
        refine NoPanic.normal ?_
        have hF3 : Fr (wz.drew.setCells bt (i * 256) (fl 256 fk)) bt 81 (n * 256) (bF (Fj.set i (Gs.getD i []))) := (Fr.setCells (fl 256 fk) (i * 256) wz.drew _ HFZ.out (by rw [fl_len]; exact HI.out.2.2)).congr fun q _ => by rw [HV.out]; exact bF_set Fj i n (Gs.getD i []) HGL.out (by rw [HH.out.1]; exact HI.out.1) q
        have hK3 : Keep (fun b => b = bt) w2 (wz.drew.setCells bt (i * 256) (fl 256 fk)) := Turn.keep HKZ.out (Turn.drew1 (turn_setCells _ _ _ wz.drew)) fun _ => rfl
        generalize wz.drew.setCells bt (i * 256) (fl 256 fk) = w5 at *
        clear hHeld HS
        have HFN := Lib.hid (And.intro hF3 hK3); clear hF3 hK3
        go_wp2_with fail
        go_roundw
        case rel => exact ⟨j + 1, Fj.set i (Gs.getD i []), by omega, by go_num, Lib.hid (HH.out.succ HI.out.2.1 HI.out.1), Lib.hid HFN.out.1, Lib.hid HFN.out.2⟩
        case measure => simp [intOf]; omega
      · have hji : ¬ (j : Int) < (m : Int) := by omega
        obtain rfl : j = m := by omega
        have hFG : Fj = Gs := HH.out.all HGN.out HINV.out
        subst hFG
        have hnw : CDs S wr d L n { D1 with firm := D1.now } := by
          have hcd := HW2.out.1
          obtain ⟨e1, e2, e3, e4, e5, e6, e7⟩ := HEQ.out
          refine hcd.rows (w' := wr) (D' := { D1 with firm := D1.now }) ⟨hcd.ok.nl, hcd.ok.nl, hcd.ok.nr, hcd.ok.nr, hcd.ok.wl, hcd.ok.fs, hcd.ok.cs, hcd.ok.ss⟩ rfl ⟨rfl, rfl, rfl, rfl⟩ (fun _ _ _ => rfl) ?_ ?_ (fun x hx _ h2 => HKJ.out.block x hx (fun e => h2 (by rw [← e1]; exact e))) HKJ.out.size
          · rw [← e2]; have := HFS.out.keep (HKJ.out.block bs HBS.out.2.1 HBS.out.1); rw [e6] at this; exact this
          · rw [← e1]; have := HFJ.out; rw [e6] at this; exact this
        have d2' : wr.cell? ⟨d, 2, none⟩ = some S.wv := hnw.c2
        have f2 := hnw.free 2
        have HF : Hid (CD (wr.setCell ⟨d, 2, none⟩ (.slice none 0 0)) d (ext L w (wr.setCell ⟨d, 2, none⟩ (.slice none 0 0))) n { D1 with firm := D1.now, waits := [] } ∧ Keep L w (wr.setCell ⟨d, 2, none⟩ (.slice none 0 0))) := Lib.hid ⟨(hnw.noWaits rfl).ext HLT.out (by rw [World.size_setCell]; have := HW2.out.2.size; have := HKJ.out.size; omega), Turn.keep (Keep.trans (HW2.out.2.keepL HW2.out.1.ld.1) HKJ.out fun x _ hx => by rw [show x = bt from hx, HEQ.out.1]; exact HW2.out.1.ld.2.2) (turn_setCell _ _ _ _) fun _ => HW2.out.1.ld.1⟩
        clear hnw
        go_wp2_with fail
        go_ret
        exact ⟨rfl, HF.out⟩
  · rw [if_neg h0]
    have hEi : ¬ (E : Int) = 0 := by omega
    clear hE hD1 h eW hwl h0 hm
    go_enter Try.func39, Try.ntmps39
    go_wp2_with fail
    refine HS0.out.mono ?_
    rintro e w2 ⟨rfl, hcd, ht2⟩
    have HF := Lib.hid (And.intro (hcd.ext HLT.out (Nat.le_of_eq ht2.size.symm)) (ht2.keepL hld.1)); clear hcd ht2 HS0
    go_wp2_with fail
    go_ret
    exact ⟨rfl, HF.out⟩
end Go.Proofs.Ytpepbffhhfgdpaa
namespace Go.Proofs.Ytpepbffhhfgdpaa
open Go Go.RowKit
set_option linter.unusedVariables false
set_option linter.unusedSimpArgs false

theorem run_cut2 (b o f g : Nat) (hg : g = f + 64) (h : g ≤ 256) (W : World) : (Instr.sliceAt 81 (.pointer (some ⟨b, o, none⟩)) (some (.int .i64 (f : Int))) (some (.int .i64 (g : Int))) none).run Try.prog W = .ok (.slice (some ⟨b, o + f, none⟩) 64 (256 - f)) W := by
  subst hg
  have hu := Try.underlying81
  have hs : (sizeOf 5).run Try.prog W = .ok 1 W := by
    have := u8_one
    cases hi : Try.prog.info? 5 with
    | none => rw [hi] at this; cases this
    | some i => rw [hi] at this; simp at this; simp [sizeOf, typeInfo, hi, this]
  have h0 : (f : Int) + 64 ≤ 256 := by omega
  have h1 : (0 : Int) ≤ (f : Int) + 64 := by omega
  have h2 : (f : Int) ≤ (f : Int) + 64 := by omega
  have h3 : ((f : Int) + 64).toNat = f + 64 := by omega
  have h4 : ¬ 256 = f := by omega
  simp [Instr.sliceAt, Instr.sureAddr, run_underlying hu, Instr.sliceBounds, run_sliceBound, hs, h0, h1, h2, h3, h4, Addr.add_mid]
theorem run_cut1 (b o f : Nat) (h : f < 256) (W : World) : (Instr.sliceAt 81 (.pointer (some ⟨b, o, none⟩)) (some (.int .i64 (f : Int))) none none).run Try.prog W = .ok (.slice (some ⟨b, o + f, none⟩) (256 - f) (256 - f)) W := by
  have := run_cutA b o f (by omega) W
  unfold cutA at this
  rw [if_neg (by omega)] at this
  exact this
theorem bits_low (m : Nat) (hm : m < 256) : bits .and .u8 (m : Int) 1 = ((m % 2 : Nat) : Int) := by
  have h := bits_and (UInt8.ofNat m) 1
  have e1 : (UInt8.ofNat m).toNat = m := by rw [UInt8.toNat_ofNat']; omega
  rw [e1] at h
  have e2 : (UInt8.ofNat m &&& 1).toNat = m % 2 := by
    rw [UInt8.toNat_and, e1]
    show m &&& 1 = m % 2
    exact Nat.and_one_is_mod m
  rw [e2] at h
  exact h
theorem crJ_same (M : Nat) (old new : List UInt8) (q : Nat) (h : ¬ M / 2 ^ q % 2 = 1) : crJ M old new (64 * q + 64) = crJ M old new (64 * q) := by
  unfold crJ
  apply List.map_congr_left
  intro k hk
  by_cases h1 : k < 64 * q + 64 ∧ M / 2 ^ (k / 64) % 2 = 1
  · by_cases h2 : k < 64 * q
    · rw [if_pos h1, if_pos ⟨h2, h1.2⟩]
    · exact absurd (by rw [show k / 64 = q from by omega] at h1; exact h1.2) h
  · rw [if_neg h1, if_neg (fun h3 => h1 ⟨by omega, h3.2⟩)]
theorem crJ_getD (M : Nat) (old new : List UInt8) (j k : Nat) (hk : k < 256) : (crJ M old new j).getD k 0 = if k < j ∧ M / 2 ^ (k / 64) % 2 = 1 then new.getD k 0 else old.getD k 0 := by
  rw [List.getD_eq_getElem?_getD, crJ_get M old new j k hk]; rfl
theorem cell_callw8 {w w' : World} {p : Addr} {v : Value} (hb : Below w.heap.size w w') (h : w.cell? p = some v) : w'.cell? p = some v := (hb.cell (block_lt_of_cell h)).trans h
theorem Turn.drew1' {g : Nat} {a b : World} (h : Turn g a.drew b) : Turn g a b := h.drew1
/-- A sector laid over. -/
theorem bF_sect (F : List (List UInt8)) (i n M q : Nat) (old l : List UInt8) (hi : i < n) (hF : F.length = n) (hb : M / 2 ^ q % 2 = 1) (hq : q < 4) (k : Nat) :
    layF (bF (F.set i (crJ M old l (64 * q)))) (i * 256 + 64 * q) (fl 64 fun j => .int .u8 ((l.getD (64 * q + j) 0).toNat : Int)) k = bF (F.set i (crJ M old l (64 * q + 64))) k := by
  unfold layF
  rw [fl_len]
  unfold bF
  by_cases h1 : i * 256 + 64 * q ≤ k ∧ k < i * 256 + 64 * q + 64
  · rw [if_pos h1, fl_get _ _ _ (by omega), show k / 256 = i from by omega, getD_set, if_pos ⟨rfl, by omega⟩, crJ_getD _ _ _ _ _ (by omega), if_pos ⟨by omega, by rw [show k % 256 / 64 = q from by omega]; exact hb⟩, show 64 * q + (k - (i * 256 + 64 * q)) = k % 256 from by omega]; rfl
  · rw [if_neg h1, getD_set, getD_set]
    by_cases h2 : k / 256 = i
    · rw [if_pos ⟨h2, by omega⟩, if_pos ⟨h2, by omega⟩, crJ_getD _ _ _ _ _ (by omega), crJ_getD _ _ _ _ _ (by omega)]
      by_cases h3 : k % 256 < 64 * q ∧ M / 2 ^ (k % 256 / 64) % 2 = 1
      · rw [if_pos h3, if_pos ⟨by omega, h3.2⟩]
      · rw [if_neg h3, if_neg (fun h4 => h3 ⟨by omega, h4.2⟩)]
    · rw [if_neg (fun h => h2 h.1), if_neg (fun h => h2 h.1)]
theorem byte_oneC (f : Nat → UInt8) (n : Nat) : ∀ v ∈ fl n (fun j => Value.int .u8 ((f j).toNat : Int)), v.oneCell' = true := fun v hv => by obtain ⟨b, _, rfl⟩ := List.mem_map.1 hv; rfl
set_option maxRecDepth 100000 in
set_option maxHeartbeats 16000000 in
theorem cdharden_any (w : World) (d n bf cf i M : Nat) (F : List (List UInt8)) (l : List UInt8) (hd : w.cell? ⟨d, 1, none⟩ = some (.slice (some ⟨bf, 0, none⟩) n cf)) (hF : Fr w bf 81 (n * 256) (bF F)) (hFl : F.length = n) (hFi : (F.getD i []).length = 256) (hi : i < n) (hn : n ≤ 4096) (hl : l.length = 256) (hne : d ≠ bf) (hM : M < 256) :
    Calls Try.prog 47 #[.pointer (some ⟨d, 0, none⟩), .agg (wL (i, l)).toArray, .int .u8 (M : Int)] w fun e w' => e = .returned (.tuple #[]) ∧ Fr w' bf 81 (n * 256) (bF (F.set i (crL8 M (F.getD i []) l))) ∧ Keep (fun b => b = bf) w w' := by
  obtain ⟨old, hold⟩ : ∃ old, old = F.getD i [] := ⟨_, rfl⟩
  rw [← hold] at hFi ⊢
  have hb1 : Below w.heap.size w (w.alloc (.cells (wL (i, l)).toArray 83)) := (Below.refl _ _).alloc (Nat.le_refl _) _
  have hbx := Fr.newA w (wL (i, l)).toArray 83 257 (by rw [wL_arr (i, l) hl]; exact Nat.le_refl _)
  have hdl := block_lt_of_cell hd
  have HB1' : Hid (Keep (fun b => b = bf) w (w.alloc (.cells (wL (i, l)).toArray 83))) := Lib.hid (Keep.of hb1)
  have HL := Lib.hid hl; clear hl
  have HIN := Lib.hid (And.intro hi hFl); clear hFl
  have hF0 : F.set i (crJ M old l 0) = F := by rw [crJ_zero _ _ _ hFi, hold, set_get _ _ _ (by rw [HIN.out.2]; exact hi)]
  have hii : (i : Int) < (n : Int) := by omega
  go_enter Try.func47, Try.ntmps47
  go_upto_region 1 with fail
  have HFR : Hid (Fr (w.alloc (.cells (wL (i, l)).toArray 83)) bf 81 (n * 256) (bF (F.set i (crJ M old l (64 * 0))))) := Lib.hid (by rw [show 64 * 0 = 0 from rfl, hF0]; exact hF.call hb1)
  have HD : Hid ((w.alloc (.cells (wL (i, l)).toArray 83)).cell? ⟨d, 1, none⟩ = some (.slice (some ⟨bf, 0, none⟩) n cf)) := Lib.hid (cell_callw8 hb1 hd)
  have HBX := Lib.hid hbx
  have HLT : Hid (bf < w.heap.size ∧ d < w.heap.size) := Lib.hid ⟨hF.lt, hdl⟩
  have hsz1 : (w.alloc (.cells (wL (i, l)).toArray 83)).heap.size = w.heap.size + 1 := World.size_alloc _ _
  clear hbx hb1 hF hd hdl hF0 hold
  generalize w.alloc (.cells (wL (i, l)).toArray 83) = w1 at *
  obtain ⟨bx, hbx0⟩ : ∃ bx, bx = w.heap.size := ⟨_, rfl⟩
  rw [← hbx0] at hsz1 HLT HBX
  rw [← hbx0]
  have HZ1 := Lib.hid hsz1; clear hsz1 hbx0
  go_wp2_with fail
  go_loopw [2, 6] (fun mk fr wr => ∃ q : Nat, q ≤ 4 ∧ fr = .int .i64 ((64 * q : Nat) : Int) ∧ mk = .int .u8 ((M / 2 ^ q : Nat) : Int) ∧ Hid (Fr wr bf 81 (n * 256) (bF (F.set i (crJ M old l (64 * q))))) ∧ Hid (Keep (fun b => b = bf) w1 wr)) (fun _ fr _ => 256 - (intOf fr).toNat)
  case atStart => exact ⟨0, by decide, rfl, by simp, HFR, Lib.hid (Keep.refl _ _)⟩
  case round =>
    rename World => wr
    obtain ⟨q, hq, rfl, rfl, HFJ, HKJ⟩ := hrel
    obtain ⟨f, hf⟩ : ∃ f, f = 64 * q := ⟨_, rfl⟩
    rw [← hf] at HFJ
    rw [← hf]
    obtain ⟨mq, hmq⟩ : ∃ mq, mq = M / 2 ^ q := ⟨_, rfl⟩
    have hmqb : mq < 256 := by rw [hmq]; exact Nat.lt_of_le_of_lt (Nat.div_le_self _ _) hM
    rw [← hmq]
    by_cases hlt : q < 4
    · have hfi : (f : Int) < 256 := by omega
      have hbl := bits_low mq hmqb
      have hm2 : M / 2 ^ (q + 1) = mq / 2 := by rw [hmq, Nat.pow_succ, Nat.div_div_eq_div_mul]
      have HM2 := Lib.hid hm2; clear hm2
      obtain ⟨b, hbq⟩ : ∃ b, b = mq % 2 := ⟨_, rfl⟩
      have HMQ := Lib.hid (And.intro hmq hbq)
      rw [← hbq] at hbl
      by_cases hb1 : b = 1
      · have HB1 : Hid (M / 2 ^ q % 2 = 1) := Lib.hid (by rw [← hmq, ← hbq]; exact hb1)
        rw [hb1] at hbl
        obtain ⟨g, hg⟩ : ∃ g, g = f + 64 := ⟨_, rfl⟩
        have HG : Hid (g = f + 64 ∧ g ≤ 256 ∧ f < 256) := Lib.hid ⟨hg, by omega, by omega⟩
        have HG2 : Hid (f = 64 * q ∧ q < 4) := Lib.hid ⟨hf, hlt⟩
        have hwf : IntKind.i64.wrap (g : Int) = (g : Int) := IntWalk.i64_in _ (by omega)
        have hwf2 : (f : Int) + 64 = (g : Int) := by omega
        have HMIN : Hid ((fl 64 fun j => Value.int .u8 ((l.getD (f + j) 0).toNat : Int)).length = Nat.min (256 - f) 64) := Lib.hid (by rw [fl_len]; exact (Nat.min_eq_right (by omega)).symm)
        have HFIT : Hid (i * 256 + f + (fl 64 fun j => Value.int .u8 ((l.getD (f + j) 0).toNat : Int)).length ≤ n * 256) := Lib.hid (by rw [fl_len]; omega)
        have hxf : bx ≠ bf := by have := HLT.out.1; omega
        have hsrc : ∀ (j : Nat) (v : Value), (fl 64 fun j => Value.int .u8 ((l.getD (f + j) 0).toNat : Int))[j]? = some v → wr.drew.cell? ((⟨bx, 1 + f, none⟩ : Addr).add j) = some v := fun j v hj => by
          obtain ⟨hj2, rfl⟩ := fl_of hj
          have hc := HBX.out.cellAt (1 + f + j) (by omega)
          have hk := (World.cell?_of_block (w := w1) (a := ⟨bx, 1 + f + j, none⟩) (HKJ.out.block bx (by have := HZ1.out; omega) hxf)).trans hc
          rw [Addr.add_mid]
          refine hk.trans ?_
          rw [List.getElem?_toArray, show 1 + f + j = (f + j) + 1 from by omega]
          show some (((wL (i, l))[(f + j) + 1]?).getD undef) = _
          unfold wL
          rw [List.getElem?_cons_succ, List.getElem?_map, List.getD_eq_getElem?_getD, List.getElem?_eq_getElem (by rw [HL.out]; omega)]; rfl
        have HSRC := Lib.hid hsrc; clear hsrc
        have hheld : ∀ W : World, Turn bf wr W → W.cell? ⟨d, 1, none⟩ = some (.slice (some ⟨bf, 0, none⟩) n cf) ∧ W.cell? ⟨bx, 0, none⟩ = some (.int .i64 (i : Int)) := fun W ht => by
          have hc := HBX.out.cellAt 0 (by decide)
          refine ⟨(ht.cell (p := ⟨d, 1, none⟩) hne).trans ((World.cell?_of_block (w := w1) (a := ⟨d, 1, none⟩) (HKJ.out.block d (by have := HZ1.out; have := HLT.out.2; omega) hne)).trans HD.out), (ht.cell (p := ⟨bx, 0, none⟩) hxf).trans ((World.cell?_of_block (w := w1) (a := ⟨bx, 0, none⟩) (HKJ.out.block bx (by have := HZ1.out; omega) hxf)).trans hc)⟩
        have HS := Lib.hid hheld; clear hheld hxf
        clear hf hmq hbq hb1 hg
        go_upto_region 5 with fail
        refine wp_region_noPanic ?_
        refine wp_region_held_drew (S := (fun w' => w'.cell? ⟨d, 1, none⟩ = some (.slice (some ⟨bf, 0, none⟩) n cf) ∧ w'.cell? ⟨bx, 0, none⟩ = some (.int .i64 (i : Int)))) (by kernel_rfl) ?_ (fun hHeld => ?_)
        · exact HS.out _ (Turn.refl _ _).drew
        refine wpAnyH_take (i := 0) (v := ?_) rfl (by kernel_rfl) (by kernel_rfl) (by kernel_rfl) (fun _ _ _ h => h) (Or.inl ⟨by rfl, ?_⟩) hHeld ?_
        rotate_left
        · intro w' hSw
          (try dsimp only at hSw)
          go_simp
          try with_reducible rfl
        try simp only [Act.put, zq1, zq2, zq3, zq4, zq5, zq6]
        refine wpAnyH_take (i := 1) (v := ?_) rfl (by kernel_rfl) (by kernel_rfl) (by kernel_rfl) (fun _ _ _ h => h) (Or.inl ⟨by rfl, ?_⟩) hHeld ?_
        rotate_left
        · intro w' hSw
          (try dsimp only at hSw)
          go_simp
          try with_reducible rfl
        try simp only [Act.put, zq1, zq2, zq3, zq4, zq5, zq6]
        refine wpAnyH_take (i := 2) (v := ?_) rfl (by kernel_rfl) (by kernel_rfl) (by kernel_rfl) (fun _ _ _ h => h) (Or.inl ⟨by rfl, ?_⟩) hHeld ?_
        rotate_left
        · intro w' hSw
          (try dsimp only at hSw)
          go_simp
          try with_reducible rfl
        try simp only [Act.put, zq1, zq2, zq3, zq4, zq5, zq6]
        refine wpAnyH_take (i := 3) (v := ?_) rfl (by kernel_rfl) (by kernel_rfl) (by kernel_rfl) (fun _ _ _ h => h) (Or.inl ⟨by rfl, ?_⟩) hHeld ?_
        rotate_left
        · intro w' hSw
          (try dsimp only at hSw)
          go_simp
          try with_reducible rfl
        try simp only [Act.put, zq1, zq2, zq3, zq4, zq5, zq6]
        refine wpAnyH_take (i := 4) (v := ?_) rfl (by kernel_rfl) (by kernel_rfl) (by kernel_rfl) (fun _ _ _ h => h) (Or.inl ⟨by rfl, ?_⟩) hHeld ?_
        rotate_left
        · intro w' hSw
          (try dsimp only at hSw)
          go_simp
          try with_reducible rfl
        try simp only [Act.put, zq1, zq2, zq3, zq4, zq5, zq6]
        refine wpAnyH_take (i := 5) (v := ?_) rfl (by kernel_rfl) (by kernel_rfl) (by kernel_rfl) (fun _ _ _ h => h) (Or.inl ⟨by rfl, ?_⟩) hHeld ?_
        rotate_left
        · intro w' hSw
          (try dsimp only at hSw)
          go_simp
          try with_reducible rfl
        try simp only [Act.put, zq1, zq2, zq3, zq4, zq5, zq6]
        refine wpAnyH_take (i := 6) (v := ?_) rfl (by kernel_rfl) (by kernel_rfl) (by kernel_rfl) (fun _ _ _ h => h) (Or.inl ⟨by rfl, ?_⟩) hHeld ?_
        rotate_left
        · intro w' hSw
          (try dsimp only at hSw)
          go_simp
          try with_reducible rfl
        try simp only [Act.put, zq1, zq2, zq3, zq4, zq5, zq6]
        refine wpAnyH_take (i := 7) (v := ?_) rfl (by kernel_rfl) (by kernel_rfl) (by kernel_rfl) (fun _ _ _ h => h) (Or.inl ⟨by rfl, ?_⟩) hHeld ?_
        rotate_left
        · intro w' hSw
          (try dsimp only at hSw)
          go_simp
          try with_reducible rfl
        try simp only [Act.put, zq1, zq2, zq3, zq4, zq5, zq6]
        refine wpAnyH_take (i := 8) (v := ?_) rfl (by kernel_rfl) (by kernel_rfl) (by kernel_rfl) (fun _ _ _ h => h) (Or.inl ⟨by rfl, ?_⟩) hHeld ?_
        rotate_left
        · intro w' hSw
          (try dsimp only at hSw)
          go_simp
          try with_reducible rfl
        try simp only [Act.put, zq1, zq2, zq3, zq4, zq5, zq6]
        refine wpAnyH_take (i := 9) (v := ?_) rfl (by kernel_rfl) (by kernel_rfl) (by kernel_rfl) (fun _ _ _ h => h) (Or.inl ⟨by rfl, ?_⟩) hHeld ?_
        rotate_left
        · intro w' hSw
          (try dsimp only at hSw)
          go_simp
          try with_reducible rfl
        try simp only [Act.put, zq1, zq2, zq3, zq4, zq5, zq6]
        refine wpAnyH_take (i := 10) (v := ?_) rfl (by kernel_rfl) (by kernel_rfl) (by kernel_rfl) (fun _ _ _ h => h) (Or.inl ⟨by rfl, ?_⟩) hHeld ?_
        rotate_left
        · intro w' hSw
          (try dsimp only at hSw)
          have hcut := run_cut2 bf (i * 256) f g HG.out.1 HG.out.2.1 w'
          go_simp
          try with_reducible rfl
        try simp only [Act.put, zq1, zq2, zq3, zq4, zq5, zq6]
        refine wpAnyH_take (i := 11) (v := ?_) rfl (by kernel_rfl) (by kernel_rfl) (by kernel_rfl) (fun _ _ _ h => h) (Or.inl ⟨by rfl, ?_⟩) hHeld ?_
        rotate_left
        · intro w' hSw
          (try dsimp only at hSw)
          go_simp
          try with_reducible rfl
        try simp only [Act.put, zq1, zq2, zq3, zq4, zq5, zq6]
        refine wpAnyH_take (i := 12) (v := ?_) rfl (by kernel_rfl) (by kernel_rfl) (by kernel_rfl) (fun _ _ _ h => h) (Or.inl ⟨by rfl, ?_⟩) hHeld ?_
        rotate_left
        · intro w' hSw
          (try dsimp only at hSw)
          go_simp
          try with_reducible rfl
        try simp only [Act.put, zq1, zq2, zq3, zq4, zq5, zq6]
        refine wpAnyH_take (i := 13) (v := ?_) rfl (by kernel_rfl) (by kernel_rfl) (by kernel_rfl) (fun _ _ _ h => h) (Or.inl ⟨by rfl, ?_⟩) hHeld ?_
        rotate_left
        · intro w' hSw
          (try dsimp only at hSw)
          have hcut := run_cut1 bx 1 f HG.out.2.2 w'
          go_simp
          try with_reducible rfl
        try simp only [Act.put, zq1, zq2, zq3, zq4, zq5, zq6]
        refine wpAnyH_ready (rs := [14]) (by kernel_rfl) (by simp) ?_
        refine AllReadyH.cons rfl (fun K hK => ?_) (AllReadyH.nil)
        refine step_copy_fr rfl (.tmp 24) (.tmp 27) 31 31 rfl 5 Try.underlying31 u8_one bf (i * 256 + f) 64 (256 - f) ⟨bx, 1 + f, none⟩ (256 - f) (256 - f) rfl rfl (n * 256) 81 (bF (F.set i (crJ M old l f))) HFJ.out (fl 64 fun j => .int .u8 ((l.getD (f + j) 0).toNat : Int)) HMIN.out HSRC.out HFIT.out (byte_oneC _ _) ?_
        intro w4 hF4 hT4
        refine hK.out _ _ ?_ (fun hHeld => ?_)
        · exact HS.out _ hT4.out.drew1
        clear hK K
        try simp only [Act.put, zq1, zq2, zq3, zq4, zq5, zq6]
        refine wpAnyH_done (by kernel_rfl) ?_ _
        refine NoPanic.normal ?_
        have HFN : Hid (Fr w4 bf 81 (n * 256) (bF (F.set i (crJ M old l (64 * q + 64))))) := Lib.hid (hF4.out.congr fun k _ => by rw [HG2.out.1]; exact bF_sect F i n M q old l HIN.out.1 HIN.out.2 HB1.out HG2.out.2 k)
        have HKN : Hid (Keep (fun b => b = bf) w1 w4) := Lib.hid (Turn.keep HKJ.out hT4.out.drew1 fun _ => rfl)
        clear hF4 hT4 HS hHeld HFJ HKJ HSRC
        go_wp2_with fail
        go_roundw
        case rel => exact ⟨q + 1, by omega, val_int (by have h1 := HG2.out; (try have h2 := HG.out); omega), val_int (by rw [HM2.out]; omega), Lib.hid (by have := HFN.out; rw [show 64 * (q + 1) = 64 * q + 64 from by omega]; exact this), HKN⟩
        case measure => have h1 := HG2.out; (try have h2 := HG.out); simp [intOf]; omega
      · have hb0 : b = 0 := by omega
        have HFN : Hid (Fr wr bf 81 (n * 256) (bF (F.set i (crJ M old l (64 * q + 64))))) := Lib.hid (by rw [crJ_same M old l q (by rw [← hmq, ← hbq, hb0]; decide), ← hf]; exact HFJ.out)
        have HKN := HKJ
        have HG2 : Hid (f = 64 * q ∧ q < 4) := Lib.hid ⟨hf, hlt⟩
        rw [hb0] at hbl
        clear HFJ HKJ hf hmq hbq hb1
        go_wp2_with fail
        go_roundw
        case rel => exact ⟨q + 1, by omega, val_int (by have h1 := HG2.out; (try have h2 := HG.out); omega), val_int (by rw [HM2.out]; omega), Lib.hid (by have := HFN.out; rw [show 64 * (q + 1) = 64 * q + 64 from by omega]; exact this), HKN⟩
        case measure => have h1 := HG2.out; (try have h2 := HG.out); simp [intOf]; omega
    · obtain rfl : q = 4 := by omega
      have hfi : ¬ (f : Int) < 256 := by omega
      have HFE : Hid (Fr wr bf 81 (n * 256) (bF (F.set i (crL8 M old l)))) := Lib.hid (by have := HFJ.out; rw [hf] at this; rw [← crJ_all]; exact this)
      clear HFJ hmq hmqb
      go_wp2_with fail
      refine bodyPost_end (results_none rfl _ _ _) rfl ?_
      exact ⟨rfl, HFE.out, HB1'.out.trans HKJ.out fun x _ h => h⟩
end Go.Proofs.Ytpepbffhhfgdpaa
namespace Go.Proofs.Ytpepbffhhfgdpaa
open Go Go.RowKit
set_option linter.unusedVariables false
set_option linter.unusedSimpArgs false

theorem append_none_runW {P : Program} {w : World} {base e sz : Nat} {t ty : TypeId} {i : TypeInfo} (ht : P.underlying t = some (.slice e)) (hi : P.info? e = some i) {v : Value} {n : Nat} {xs : List Value} (hown : w.ownsRow base e sz v n xs) (A : Option Addr) (c : Nat) :
    (Builtin.append_ #[t, t] ty #[v, .slice A 0 c]).run P w = .ok v w := by
  have hl : ∀ ad : Addr, (loadCells ad 0).run P w = .ok #[] w := fun ad => by
    have := run_loadCells_list (P := P) w ad [] (fun j v hj => by simp at hj)
    simpa using this
  rcases hown.2 with ⟨rfl, rfl⟩ | ⟨g, cap, cur, rfl, _, _, hnc, _⟩
  · cases A <;> simp [Builtin.append_, run_underlying ht, sizeOf, typeInfo, hi, Builtin.lenOf, Builtin.firstCells, hl, storeCells]
  · cases A <;> simp [Builtin.append_, run_underlying ht, sizeOf, typeInfo, hi, Builtin.lenOf, Builtin.firstCells, hnc, hl, storeCells]
/-- append(v, xs...), of elements of any size. -/
theorem wpList_append_allW {P : Program} {w : World} {ops : Array Oper} {rest : List Oper} {o : Oper} {a : Act} {Q : Exit → Act → World → Prop} (hg : o.guard = none) (s x : Operand) (t : TypeId)
    (ho : o.op = .call { callee := .builtin .append, args := #[s, x], argTypes := #[t, t] }) (base e : Nat) (i : TypeInfo) (z : Value) (sz bytes : Nat) (ht : P.underlying t = some (.slice e)) (hi : P.info? e = some i) (hz : i.zero = some z)
    (hsize : i.size = sz) (hby : i.bytes = bytes) (hzs : z.cells.size = sz) (hpos : 0 < sz) (v : Value) (n : Nat) (xs : List Value) (hs : a.eval s = v) (hown : w.ownsRow base e sz v n xs)
    (A : Option Addr) (m c : Nat) (news : List Value) (hx : a.eval x = .slice A m c) (hl : news.length = m * sz) (hR : Rd w w.heap.size A news) (h1 : ∀ u ∈ news, u.oneCell' = true)
    (h63 : n + m ≤ maxLen) (hbytes : (n + m) * bytes ≤ 140737488355328) (hbase : base ≤ w.heap.size)
    (h : ∀ v' w', Hid (w'.ownsRow base e sz v' (n + m) (xs ++ news)) → Hid (Below base w w') → Hid (w.grownBy w' v.ownBlock) → wpList P ops Q rest (a.put o.dst v') w') : wpList P ops Q (o :: rest) a w := by
  by_cases h0 : m = 0
  · subst h0
    obtain rfl : news = [] := List.eq_nil_of_length_eq_zero (by simpa using hl)
    refine wpList_plain hg fun K hK => ?_
    have hrun := append_none_runW (P := P) (w := w) (ty := o.type) ht hi hown A c
    unfold Oper.wp
    simp [execOp, ho, resolve, invoke, builtin, hs, hx, hrun, Result.andThen]
    exact hK _ _ (h v w (Lib.hid (by simpa using hown)) (Lib.hid (Below.refl _ _)) (Lib.hid ⟨rfl, rfl, rfl, Nat.le_refl _, fun _ _ _ => rfl⟩))
  · obtain ⟨ad, rfl, _, hc⟩ := hR (by rw [hl]; exact Nat.mul_pos (by omega) hpos)
    refine wpList_append_lies w hg s x t ho base e i z sz bytes ht hi hz hsize hby hzs hpos v n xs hs hown ad m c news hx hl hc h1 (by omega) h63 hbytes hbase w.heap.size rfl ?_
    intro g cap w' hown' hgrow _ _
    exact h _ w' (Lib.hid hown') (Lib.hid ((Below.refl base w).grown hgrow hbase (fun k hk => (hown.lt k hk).1))) (Lib.hid hgrow)
theorem clblk_none (cap : Nat) (w : World) :
    Calls Try.prog 50 #[.slice none 0 cap] w fun e w' => e = .returned (.slice none 0 0) ∧ w' = w := by
  have hnil := fun W : World => Lib.run_eql_slice_nil W 66 81 none 0 cap 0 0 Try.underlying66
  go_enter Try.func50, Try.ntmps50
  go_wp2_with fail
  go_ret
  exact ⟨rfl, rfl⟩
theorem clblk_empty (w : World) : (w.alloc (.cells #[] 81)).ownsRow w.heap.size 81 256 (.slice (some ⟨w.heap.size, 0, none⟩) 0 0) 0 [] :=
  World.ownsRow_made w #[] 0 (Nat.le_refl _) (by unfold maxLen; omega) (by simp)
set_option maxRecDepth 100000 in
set_option maxHeartbeats 8000000 in
theorem clblk_some (ad : Addr) (f : Nat → Value) (n cap : Nat) (hle : n ≤ 1000000) (hf : ∀ k, (f k).oneCell' = true) (w : World) (h : Rd w w.heap.size (some ad) (fl (n * 256) f)) :
    Calls Try.prog 50 #[.slice (some ad) n cap] w fun e w' => ∃ v, e = .returned v ∧ w'.ownsRow w.heap.size 81 256 v n (fl (n * 256) f) ∧ Below w.heap.size w w' := by
  obtain ⟨j0, hi, hz0, hz1, hz2⟩ := info_parts info_bk
  have hb1 : Below w.heap.size w (w.alloc (.cells #[] 81)) := (Below.refl _ _).alloc (Nat.le_refl _) _
  have H1 := Lib.hid (h.go hb1); clear h
  have HO := Lib.hid (clblk_empty w)
  have HB := Lib.hid hb1; clear hb1
  have HF := Lib.hid hf; clear hf
  have hnil := fun W : World => Lib.run_eql_slice_nil W 66 81 (some ad) n cap 0 0 Try.underlying66
  go_enter Try.func50, Try.ntmps50
  have sz := HB.out.size
  go_wp2_with (at_builtin; refine wpList_append_allW rfl (.tmp 5) (.tmp 6) 66 rfl w.heap.size 81 j0 (.agg z256) 256 256 Try.underlying66 hi hz0 hz1 hz2 (by show z256.size = 256; simp [fl_len]) (by omega) (.slice (some ⟨w.heap.size, 0, none⟩) 0 0) 0 [] rfl HO.out (some ad) n cap (fl (n * 256) f) rfl (fl_len _ _) H1.out (fun u hu => by obtain ⟨k, _, rfl⟩ := List.mem_map.1 hu; exact HF.out k) (by unfold maxLen; omega) (by omega) sz ?_; intro v3 w3 hown3 hb3 hgrow3)
  go_ret
  refine ⟨_, rfl, ?_, HB.out.trans hb3.out⟩
  simpa using hown3.out
theorem clblk_any (A : Option Addr) (f : Nat → Value) (n cap : Nat) (hle : n ≤ 1000000) (hf : ∀ k, (f k).oneCell' = true) (w : World) (h : Rd w w.heap.size A (fl (n * 256) f)) :
    Calls Try.prog 50 #[.slice A n cap] w fun e w' => ∃ v, e = .returned v ∧ w'.ownsRow w.heap.size 81 256 v n (fl (n * 256) f) ∧ Below w.heap.size w w' := by
  cases A with
  | some ad => exact clblk_some ad f n cap hle hf w h
  | none =>
    have h0 : n = 0 := by
      rcases Nat.eq_zero_or_pos n with e | e
      · exact e
      · obtain ⟨ad, e2, _⟩ := h (by rw [fl_len]; omega)
        cases e2
    subst h0
    refine (clblk_none cap w).mono ?_
    rintro e w' ⟨rfl, rfl⟩
    exact ⟨_, rfl, World.ownsRow_nil _ _ _ _, Below.refl _ _⟩
theorem clwr_none (cap : Nat) (w : World) :
    Calls Try.prog 51 #[.slice none 0 cap] w fun e w' => e = .returned (.slice none 0 0) ∧ w' = w := by
  have hnil := fun W : World => Lib.run_eql_slice_nil W 67 83 none 0 cap 0 0 Try.underlying67
  go_enter Try.func51, Try.ntmps51
  go_wp2_with fail
  go_ret
  exact ⟨rfl, rfl⟩
theorem clwr_empty (w : World) : (w.alloc (.cells #[] 83)).ownsRow w.heap.size 83 257 (.slice (some ⟨w.heap.size, 0, none⟩) 0 0) 0 [] :=
  World.ownsRow_made w #[] 0 (Nat.le_refl _) (by unfold maxLen; omega) (by simp)
set_option maxRecDepth 100000 in
set_option maxHeartbeats 8000000 in
theorem clwr_some (ad : Addr) (f : Nat → Value) (n cap : Nat) (hle : n ≤ 1000000) (hf : ∀ k, (f k).oneCell' = true) (w : World) (h : Rd w w.heap.size (some ad) (fl (n * 257) f)) :
    Calls Try.prog 51 #[.slice (some ad) n cap] w fun e w' => ∃ v, e = .returned v ∧ w'.ownsRow w.heap.size 83 257 v n (fl (n * 257) f) ∧ Below w.heap.size w w' := by
  obtain ⟨j0, hi, hz0, hz1, hz2⟩ := info_parts info_wr
  have hb1 : Below w.heap.size w (w.alloc (.cells #[] 83)) := (Below.refl _ _).alloc (Nat.le_refl _) _
  have H1 := Lib.hid (h.go hb1); clear h
  have HO := Lib.hid (clwr_empty w)
  have HB := Lib.hid hb1; clear hb1
  have HF := Lib.hid hf; clear hf
  have hnil := fun W : World => Lib.run_eql_slice_nil W 67 83 (some ad) n cap 0 0 Try.underlying67
  go_enter Try.func51, Try.ntmps51
  have sz := HB.out.size
  go_wp2_with (at_builtin; refine wpList_append_allW rfl (.tmp 5) (.tmp 6) 67 rfl w.heap.size 83 j0 (.agg (wC 0 fun _ => .int .u8 0)) 257 264 Try.underlying67 hi hz0 hz1 hz2 (wC_size _ _) (by omega) (.slice (some ⟨w.heap.size, 0, none⟩) 0 0) 0 [] rfl HO.out (some ad) n cap (fl (n * 257) f) rfl (fl_len _ _) H1.out (fun u hu => by obtain ⟨k, _, rfl⟩ := List.mem_map.1 hu; exact HF.out k) (by unfold maxLen; omega) (by omega) sz ?_; intro v3 w3 hown3 hb3 hgrow3)
  go_ret
  refine ⟨_, rfl, ?_, HB.out.trans hb3.out⟩
  simpa using hown3.out
theorem clwr_any (A : Option Addr) (f : Nat → Value) (n cap : Nat) (hle : n ≤ 1000000) (hf : ∀ k, (f k).oneCell' = true) (w : World) (h : Rd w w.heap.size A (fl (n * 257) f)) :
    Calls Try.prog 51 #[.slice A n cap] w fun e w' => ∃ v, e = .returned v ∧ w'.ownsRow w.heap.size 83 257 v n (fl (n * 257) f) ∧ Below w.heap.size w w' := by
  cases A with
  | some ad => exact clwr_some ad f n cap hle hf w h
  | none =>
    have h0 : n = 0 := by
      rcases Nat.eq_zero_or_pos n with e | e
      · exact e
      · obtain ⟨ad, e2, _⟩ := h (by rw [fl_len]; omega)
        cases e2
    subst h0
    refine (clwr_none cap w).mono ?_
    rintro e w' ⟨rfl, rfl⟩
    exact ⟨_, rfl, World.ownsRow_nil _ _ _ _, Below.refl _ _⟩
end Go.Proofs.Ytpepbffhhfgdpaa
namespace Go.Proofs.Ytpepbffhhfgdpaa
open Go Go.RowKit
set_option linter.unusedVariables false
set_option linter.unusedSimpArgs false

abbrev zDisk : Array Value := #[.slice none 0 0, .slice none 0 0, .slice none 0 0, .int .u64 0, .int .u64 0, .bool false, .int .u64 0, .bool false]
theorem disk_size : (Try.prog.info? 69).map (·.size) = some 8 := by kernel_rfl
theorem cCells_one {S : Cs} {w : World} {d n : Nat} {L : Nat → Prop} {D : Dev} (h : CDs S w d L n D) : (cCells S n D).all (·.oneCell') = true := by
  obtain ⟨A, c, e, _, _⟩ := wv_form h
  simp [cCells, Value.oneCell', e]
theorem World.ownsRow.weaken {w : World} {base e sz n : Nat} {v : Value} {xs : List Value} (h : w.ownsRow base e sz v n xs) : w.ownsRow 0 e sz v n xs := by
  obtain ⟨h1, h2⟩ := h
  refine ⟨h1, h2.imp id ?_⟩
  rintro ⟨g, cap, cur, a, b, r⟩
  exact ⟨g, cap, cur, a, Nat.zero_le _, r⟩
theorem own_belowW {w w' : World} {base e sz n : Nat} {v : Value} {xs : List Value} (h : w.ownsRow base e sz v n xs) (hb : Below w.heap.size w w') : w'.ownsRow base e sz v n xs := own_same h fun b hv => hb.block b (h.lt b hv).2
theorem CDs.forked {S : Cs} {w w1 w4 : World} {d n f : Nat} {L : Nat → Prop} {D : Dev} {v1 v2 v3 : Value} (h : CDs S w d L n D) (hf : f = w.heap.size) (hz : w1.heap.size = w.heap.size + 1) (hF : w4.heap[f]? = some (.cells (cCells S n D) 69 (0, 0))) (hs : w1.heap.size ≤ w4.heap.size)
    {y1 y2 : World} (h1 : w4.ownsRow w1.heap.size 81 256 v1 n (fl (n * 256) (bF D.now))) (h1l : ∀ b, v1.ownBlock = some b → b < y1.heap.size) (h2 : w4.ownsRow y1.heap.size 81 256 v2 n (fl (n * 256) (bF D.firm))) (h2l : ∀ b, v2.ownBlock = some b → b < y2.heap.size) (h3 : w4.ownsRow y2.heap.size 83 257 v3 D.waits.length (fl (D.waits.length * 257) (wF D.waits))) (hs1 : w1.heap.size ≤ y1.heap.size) (hs2 : y1.heap.size ≤ y2.heap.size) :
    CD (((w4.setCell ⟨f, 0, none⟩ v1).setCell ⟨f, 1, none⟩ v2).setCell ⟨f, 2, none⟩ v3) f (fun b => w.heap.size ≤ b ∧ b < (((w4.setCell ⟨f, 0, none⟩ v1).setCell ⟨f, 1, none⟩ v2).setCell ⟨f, 2, none⟩ v3).heap.size) n D ∧ Turn f w4 (((w4.setCell ⟨f, 0, none⟩ v1).setCell ⟨f, 1, none⟩ v2).setCell ⟨f, 2, none⟩ v3) := by
  have hT : Turn f w4 (((w4.setCell ⟨f, 0, none⟩ v1).setCell ⟨f, 1, none⟩ v2).setCell ⟨f, 2, none⟩ v3) := ((turn_setCell _ _ _ _).trans (turn_setCell _ _ _ _)).trans (turn_setCell _ _ _ _)
  obtain ⟨g1, c1, e1, a1, b1⟩ := World.ownsRow.form h1 h.n4.1
  obtain ⟨g2, c2, e2, a2, b2⟩ := World.ownsRow.form h2 h.n4.1
  subst e1
  subst e2
  have l1 := h1l g1 rfl
  have l2 := h2l g2 rfl
  obtain ⟨q1, eq1, _, r1⟩ := Fr.of_own h1 rfl h.n4.1
  obtain ⟨q2, eq2, _, r2⟩ := Fr.of_own h2 rfl h.n4.1
  obtain rfl : g1 = q1 := by injection eq1 with e; injection e
  obtain rfl : g2 = q2 := by injection eq2 with e; injection e
  have hc1 : n ≤ c1 := by
    rcases h1.2 with ⟨e, _⟩ | ⟨_, _, _, e, _, _, hc, _⟩
    · cases e
    · injection e with _ _ e; omega
  have hc2 : n ≤ c2 := by
    rcases h2.2 with ⟨e, _⟩ | ⟨_, _, _, e, _, _, hc, _⟩
    · cases e
    · injection e with _ _ e; omega
  have hw3 : ∀ b, v3.ownBlock = some b → y2.heap.size ≤ b ∧ b < w4.heap.size := h3.lt
  have hsz := hT.size
  refine ⟨⟨⟨g1, c1, g2, c2, v3, S.fl, S.cu, S.la⟩, ⟨h.ok, h.n4, ⟨hc1, hc2⟩, h.ss, h.rf, h.rc, h.inv, ?_, ⟨⟨by omega, by omega⟩, show w.heap.size ≤ g1 ∧ g1 < _ from ⟨by omega, by omega⟩, show w.heap.size ≤ g2 ∧ g2 < _ from ⟨by omega, by omega⟩⟩, ⟨show g1 ≠ f from by omega, show g2 ≠ f from by omega, show g1 ≠ g2 from by omega⟩, fun b hb => ?_, r1.turn hT (by omega), r2.turn hT (by omega), ?_, fun b hb => hb.2⟩⟩, hT⟩
  · exact heap_setCell_same _ _ _ _ _ _ (heap_setCell_same _ _ _ _ _ _ (heap_setCell_same _ _ _ _ _ _ hF))
  · obtain ⟨p1, p2⟩ := hw3 b hb
    exact ⟨⟨by omega, by omega⟩, by omega, show b ≠ g1 from by omega, show b ≠ g2 from by omega⟩
  · exact World.ownsRow.weaken (own_same h3 fun b hb => hT.block b (by have := hw3 b hb; omega))
set_option maxRecDepth 100000 in
set_option maxHeartbeats 16000000 in
theorem cdfork_any (w : World) (d n : Nat) (L : Nat → Prop) (D : Dev) (h : CD w d L n D) (hm : D.waits.length ≤ 1000000) : Calls Try.prog 44 #[.pointer (some ⟨d, 0, none⟩)] w fun e w' => ∃ f, e = .returned (.pointer (some ⟨f, 0, none⟩)) ∧ CD w' f (fun b => w.heap.size ≤ b ∧ b < w'.heap.size) n D ∧ Below w.heap.size w w' := by
  obtain ⟨S, hcd⟩ := h
  obtain ⟨A0, c0, hwf, hwc, hrw⟩ := wv_form hcd
  obtain ⟨C, hC⟩ : ∃ C, C = cCells S n D := ⟨_, rfl⟩
  have hsz : C.size = 8 := by rw [hC]; rfl
  have hinfo : (Try.prog.info? 69).map (·.size) = some C.size := by rw [hsz]; exact disk_size
  have hone : C.all (·.oneCell') = true := by rw [hC]; exact cCells_one hcd
  have hp := hcd.hp
  rw [← hC] at hp
  have HCD := Lib.hid hcd
  have HINF := Lib.hid (And.intro hinfo (And.intro hone hsz)); clear hinfo hone hsz
  have HP := Lib.hid hp; clear hp
  have HZ : Hid ((w.alloc (.cells zDisk 69)).heap[w.heap.size]? = some (.cells zDisk 69 (0, 0))) := Lib.hid (heap_alloc_new w _)
  have HRW := Lib.hid (And.intro hrw (And.intro hwf hC)); clear hrw hwf hC
  clear hcd
  go_enter Try.func44, Try.ntmps44
  go_wp2_with (first
    | ((with_reducible show wpList _ _ _ (⟨some 8, _, _, _, _, _⟩ :: _) _ _); refine wpList_load_row rfl 69 (.tmp 7) rfl d rfl 69 C (0, 0) _ HP.out Try.underlying69 rfl HINF.out.1 ?_)
    | ((with_reducible show wpList _ _ _ (⟨none, .store _ (.tmp 3) (.tmp 8), _, _, _, _⟩ :: _) _ _); refine wpList_store_row rfl 69 (.tmp 3) (.tmp 8) rfl w.heap.size C rfl rfl 69 zDisk HZ.out HINF.out.1 HINF.out.2.2.symm HINF.out.2.1 ?_))
  have h1 : ((w.alloc (.cells zDisk 69)).setRow w.heap.size C).heap[w.heap.size]? = some (.cells C 69 (0, 0)) := setRow_heap _ _ _ _ _ _ HZ.out
  have hb1 : Below w.heap.size w ((w.alloc (.cells zDisk 69)).setRow w.heap.size C) := below_setRow ((Below.refl _ _).alloc (Nat.le_refl _) _) (Nat.le_refl _) _
  have hs1 : ((w.alloc (.cells zDisk 69)).setRow w.heap.size C).heap.size = w.heap.size + 1 := by rw [size_setRow, World.size_alloc]
  clear HZ
  generalize (w.alloc (.cells zDisk 69)).setRow w.heap.size C = w1 at *
  obtain ⟨f, hf⟩ : ∃ f, f = w.heap.size := ⟨_, rfl⟩
  rw [← hf] at h1 hs1
  rw [← hf]
  have HF1 := Lib.hid (And.intro h1 (And.intro hb1 (And.intro hs1 hf))); clear h1 hb1 hs1 hf
  obtain ⟨bn, hbn⟩ : ∃ bn, bn = S.bn := ⟨_, rfl⟩
  obtain ⟨cn, hcn⟩ : ∃ cn, cn = S.cn := ⟨_, rfl⟩
  obtain ⟨bf, hbf⟩ : ∃ bf, bf = S.bf := ⟨_, rfl⟩
  obtain ⟨cf, hcf⟩ : ∃ cf, cf = S.cf := ⟨_, rfl⟩
  obtain ⟨m, hm0⟩ : ∃ m, m = D.waits.length := ⟨_, rfl⟩
  have hdk : w1.heap[d]? = w.heap[d]? := HF1.out.2.1.block d (HCD.out.lt d HCD.out.ld.1)
  have hdl : d < w1.heap.size := by have := HCD.out.lt d HCD.out.ld.1; have := HF1.out; omega
  have HN : Hid (n ≤ 1000000 ∧ m ≤ 1000000) := Lib.hid ⟨by have := HCD.out.n4.2; omega, by rw [hm0]; exact hm⟩
  have HSD : Hid (∀ W : World, W.heap[d]? = w1.heap[d]? → W.cell? ⟨d, 0, none⟩ = some (.slice (some ⟨bn, 0, none⟩) n cn) ∧ W.cell? ⟨d, 1, none⟩ = some (.slice (some ⟨bf, 0, none⟩) n cf) ∧ W.cell? ⟨d, 2, none⟩ = some (.slice A0 m c0)) := Lib.hid fun W hW => by
    have e := hW.trans hdk
    rw [hbn, hcn, hbf, hcf, hm0]
    exact ⟨(World.cell?_of_block (w := w) (a := ⟨d, 0, none⟩) e).trans HCD.out.c0, (World.cell?_of_block (w := w) (a := ⟨d, 1, none⟩) e).trans HCD.out.c1, (World.cell?_of_block (w := w) (a := ⟨d, 2, none⟩) e).trans (by rw [HCD.out.c2, HRW.out.2.1])⟩
  have HDB : Hid (∀ W : World, Below w1.heap.size w1 W → W.heap[d]? = w1.heap[d]?) := Lib.hid fun W hb => hb.block d hdl
  have HFA : Hid (∀ W : World, Below w1.heap.size w1 W → Rd W W.heap.size (some ⟨bn, 0, none⟩) (fl (n * 256) (bF D.now)) ∧ Rd W W.heap.size (some ⟨bf, 0, none⟩) (fl (n * 256) (bF D.firm)) ∧ Rd W W.heap.size A0 (fl (m * 257) (wF D.waits)) ∧ True) := Lib.hid fun W hb => by
    have hbw : Below w.heap.size w W := HF1.out.2.1.trans (hb.mono HF1.out.2.1.size)
    rw [hbn, hbf, hm0]
    exact ⟨(HCD.out.rn.call hbw).rd, (HCD.out.rr.call hbw).rd, HRW.out.1.go hbw, trivial⟩
  have HFD : Hid (f ≠ d) := Lib.hid (by have := HCD.out.lt d HCD.out.ld.1; have := HF1.out; omega)
  have HCF : Hid (∀ W : World, W.heap[f]? = w1.heap[f]? → ∀ k, (k < 8 → (W.cell? ⟨f, k, none⟩).isSome = true) ∧ W.frozen? ⟨f, k, none⟩ = false) := Lib.hid fun W hW k => by
    have e := hW.trans HF1.out.1
    refine ⟨fun hk => ?_, frozen_of_row _ _ _ _ _ e⟩
    rw [cell_of_row _ _ _ _ _ _ e, Array.getElem?_eq_getElem (by rw [HINF.out.2.2]; exact hk)]; rfl
  rw [← hm0] at hwc
  clear hbn hcn hbf hcf hdk hdl
  have HM0 := Lib.hid hm0; clear hm0 hm
  go_upto_region 4 with fail
  refine wp_region_noPanic ?_
  refine wp_region_held_drew (S := (fun w' => w'.cell? ⟨d, 0, none⟩ = some (.slice (some ⟨bn, 0, none⟩) n cn) ∧ w'.cell? ⟨d, 1, none⟩ = some (.slice (some ⟨bf, 0, none⟩) n cf) ∧ w'.cell? ⟨d, 2, none⟩ = some (.slice A0 m c0))) (by kernel_rfl) ?_ (fun hHeld => ?_)
  · exact HSD.out _ rfl
  have hB0 : Below w1.heap.size w1 w1.drew := (Below.refl w1.heap.size w1).drew
  have hz0 : w1.drew.heap.size = w1.heap.size := rfl
  have HZ0 := Lib.hid hz0; clear hz0
  generalize w1.drew = y0 at *
  refine wpAnyH_take (i := 0) (v := ?_) rfl (by kernel_rfl) (by kernel_rfl) (by kernel_rfl) (fun _ _ _ h => h) (Or.inl ⟨by rfl, ?_⟩) hHeld ?_
  rotate_left
  · intro w' hSw
    (try dsimp only at hSw)
    go_simp
    try with_reducible rfl
  try simp only [Act.put, zq1, zq2, zq3, zq4, zq5, zq6]
  refine wpAnyH_take (i := 1) (v := ?_) rfl (by kernel_rfl) (by kernel_rfl) (by kernel_rfl) (fun _ _ _ h => h) (Or.inl ⟨by rfl, ?_⟩) hHeld ?_
  rotate_left
  · intro w' hSw
    (try dsimp only at hSw)
    go_simp
    try with_reducible rfl
  try simp only [Act.put, zq1, zq2, zq3, zq4, zq5, zq6]
  refine wpAnyH_take (i := 2) (v := ?_) rfl (by kernel_rfl) (by kernel_rfl) (by kernel_rfl) (fun _ _ _ h => h) (Or.inl ⟨by rfl, ?_⟩) hHeld ?_
  rotate_left
  · intro w' hSw
    (try dsimp only at hSw)
    go_simp
    try with_reducible rfl
  try simp only [Act.put, zq1, zq2, zq3, zq4, zq5, zq6]
  refine wpAnyH_take (i := 3) (v := ?_) rfl (by kernel_rfl) (by kernel_rfl) (by kernel_rfl) (fun _ _ _ h => h) (Or.inl ⟨by rfl, ?_⟩) hHeld ?_
  rotate_left
  · intro w' hSw
    (try dsimp only at hSw)
    go_simp
    try with_reducible rfl
  try simp only [Act.put, zq1, zq2, zq3, zq4, zq5, zq6]
  refine wpAnyH_take (i := 5) (v := ?_) rfl (by kernel_rfl) (by kernel_rfl) (by kernel_rfl) (fun _ _ _ h => h) (Or.inl ⟨by rfl, ?_⟩) hHeld ?_
  rotate_left
  · intro w' hSw
    (try dsimp only at hSw)
    go_simp
    try with_reducible rfl
  try simp only [Act.put, zq1, zq2, zq3, zq4, zq5, zq6]
  refine wpAnyH_take (i := 6) (v := ?_) rfl (by kernel_rfl) (by kernel_rfl) (by kernel_rfl) (fun _ _ _ h => h) (Or.inl ⟨by rfl, ?_⟩) hHeld ?_
  rotate_left
  · intro w' hSw
    (try dsimp only at hSw)
    go_simp
    try with_reducible rfl
  try simp only [Act.put, zq1, zq2, zq3, zq4, zq5, zq6]
  refine wpAnyH_take (i := 7) (v := ?_) rfl (by kernel_rfl) (by kernel_rfl) (by kernel_rfl) (fun _ _ _ h => h) (Or.inl ⟨by rfl, ?_⟩) hHeld ?_
  rotate_left
  · intro w' hSw
    (try dsimp only at hSw)
    go_simp
    try with_reducible rfl
  try simp only [Act.put, zq1, zq2, zq3, zq4, zq5, zq6]
  refine wpAnyH_take (i := 8) (v := ?_) rfl (by kernel_rfl) (by kernel_rfl) (by kernel_rfl) (fun _ _ _ h => h) (Or.inl ⟨by rfl, ?_⟩) hHeld ?_
  rotate_left
  · intro w' hSw
    (try dsimp only at hSw)
    go_simp
    try with_reducible rfl
  try simp only [Act.put, zq1, zq2, zq3, zq4, zq5, zq6]
  refine wpAnyH_take (i := 10) (v := ?_) rfl (by kernel_rfl) (by kernel_rfl) (by kernel_rfl) (fun _ _ _ h => h) (Or.inl ⟨by rfl, ?_⟩) hHeld ?_
  rotate_left
  · intro w' hSw
    (try dsimp only at hSw)
    go_simp
    try with_reducible rfl
  try simp only [Act.put, zq1, zq2, zq3, zq4, zq5, zq6]
  refine wpAnyH_take (i := 11) (v := ?_) rfl (by kernel_rfl) (by kernel_rfl) (by kernel_rfl) (fun _ _ _ h => h) (Or.inl ⟨by rfl, ?_⟩) hHeld ?_
  rotate_left
  · intro w' hSw
    (try dsimp only at hSw)
    go_simp
    try with_reducible rfl
  try simp only [Act.put, zq1, zq2, zq3, zq4, zq5, zq6]
  refine wpAnyH_take (i := 12) (v := ?_) rfl (by kernel_rfl) (by kernel_rfl) (by kernel_rfl) (fun _ _ _ h => h) (Or.inl ⟨by rfl, ?_⟩) hHeld ?_
  rotate_left
  · intro w' hSw
    (try dsimp only at hSw)
    go_simp
    try with_reducible rfl
  try simp only [Act.put, zq1, zq2, zq3, zq4, zq5, zq6]
  refine wpAnyH_take (i := 13) (v := ?_) rfl (by kernel_rfl) (by kernel_rfl) (by kernel_rfl) (fun _ _ _ h => h) (Or.inl ⟨by rfl, ?_⟩) hHeld ?_
  rotate_left
  · intro w' hSw
    (try dsimp only at hSw)
    go_simp
    try with_reducible rfl
  try simp only [Act.put, zq1, zq2, zq3, zq4, zq5, zq6]
  refine wpAnyH_ready (rs := [4]) (by kernel_rfl) (by simp) ?_
  refine AllReadyH.cons rfl (fun K hK => ?_) (AllReadyH.nil)
  try simp only [zq1, zq2, zq3]
  go_simp
  refine (clblk_any (some ⟨bn, 0, none⟩) (bF D.now) n cn HN.out.1 (bF_one _) y0 (HFA.out _ hB0).1).mono ?_
  rintro e y1 ⟨v1, rfl, ho1, hb1⟩
  obtain ⟨G1, k1, rfl, _, _⟩ := Rd.of_own1 ho1
  have hB1 : Below w1.heap.size w1 y1 := hB0.trans (hb1.mono hB0.size)
  have HO1 := Lib.hid (And.intro ho1 hb1); clear ho1 hb1
  refine hK.out _ _ ?_ (fun hHeld => ?_)
  · exact HSD.out _ (HDB.out _ hB1)
  clear hK K
  try simp only [Act.put, zq1, zq2, zq3, zq4, zq5, zq6]
  refine wpAnyH_ready (rs := [9]) (by kernel_rfl) (by simp) ?_
  refine AllReadyH.cons rfl (fun K hK => ?_) (AllReadyH.nil)
  try simp only [zq1, zq2, zq3]
  go_simp
  refine (clblk_any (some ⟨bf, 0, none⟩) (bF D.firm) n cf HN.out.1 (bF_one _) y1 (HFA.out _ hB1).2.1).mono ?_
  rintro e y2 ⟨v2, rfl, ho2, hb2⟩
  obtain ⟨G2, k2, rfl, _, _⟩ := Rd.of_own1 ho2
  have hB2 : Below w1.heap.size w1 y2 := hB1.trans (hb2.mono hB1.size)
  have HO2 := Lib.hid (And.intro ho2 hb2); clear ho2 hb2
  refine hK.out _ _ ?_ (fun hHeld => ?_)
  · exact HSD.out _ (HDB.out _ hB2)
  clear hK K
  try simp only [Act.put, zq1, zq2, zq3, zq4, zq5, zq6]
  refine wpAnyH_ready (rs := [14]) (by kernel_rfl) (by simp) ?_
  refine AllReadyH.cons rfl (fun K hK => ?_) (AllReadyH.nil)
  try simp only [zq1, zq2, zq3]
  go_simp
  refine (clwr_any A0 (wF D.waits) m c0 HN.out.2 (wF_one _) y2 (HFA.out _ hB2).2.2.1).mono ?_
  rintro e y3 ⟨v3, rfl, ho3, hb3⟩
  obtain ⟨G3, k3, rfl, _, _⟩ := Rd.of_own1 ho3
  have hB3 : Below w1.heap.size w1 y3 := hB2.trans (hb3.mono hB2.size)
  have HO3 := Lib.hid (And.intro ho3 hb3); clear ho3 hb3
  refine hK.out _ _ ?_ (fun hHeld => ?_)
  · exact HSD.out _ (HDB.out _ hB3)
  clear hK K
  try simp only [Act.put, zq1, zq2, zq3, zq4, zq5, zq6]
  refine wpAnyH_take (i := 15) (v := ?_) rfl (by kernel_rfl) (by kernel_rfl) (by kernel_rfl) (fun _ _ _ h => h) (Or.inl ⟨by rfl, ?_⟩) hHeld ?_
  rotate_left
  · intro w' hSw
    (try dsimp only at hSw)
    go_simp
    try with_reducible rfl
  try simp only [Act.put, zq1, zq2, zq3, zq4, zq5, zq6]
  refine wpAnyH_ready (rs := [16]) (by kernel_rfl) (by simp) ?_
  refine AllReadyH.cons rfl (fun K hK => ?_) (AllReadyH.nil)
  try simp only [zq1, zq2, zq3]
  have ef0 : y3.heap[f]? = w1.heap[f]? := hB3.block f (by have := HF1.out; omega)
  have ed0 : y3.heap[d]? = w1.heap[d]? := HDB.out _ hB3
  have hrow3 : y3.heap[f]? = some (.cells C 69 (0, 0)) := ef0.trans HF1.out.1
  have HRK1 : Hid (∃ cs : Array Value, (y3.setCell ⟨f, 0, none⟩ (.slice G1 n k1)).heap[f]? = some (.cells cs 69 (0, 0)) ∧ cs.size = 8) := Lib.hid ⟨_, heap_setCell_same _ _ _ _ _ _ hrow3, by rw [Array.size_setIfInBounds]; exact HINF.out.2.2⟩
  have HRK2 : Hid (∃ cs : Array Value, ((y3.setCell ⟨f, 0, none⟩ (.slice G1 n k1)).setCell ⟨f, 1, none⟩ (.slice G2 n k2)).heap[f]? = some (.cells cs 69 (0, 0)) ∧ cs.size = 8) := Lib.hid ⟨_, heap_setCell_same _ _ _ _ _ _ (heap_setCell_same _ _ _ _ _ _ hrow3), by rw [Array.size_setIfInBounds, Array.size_setIfInBounds]; exact HINF.out.2.2⟩
  have HR3 := Lib.hid hrow3; clear hrow3
  obtain ⟨u0, hu0⟩ := Option.isSome_iff_exists.1 ((HCF.out y3 ef0 0).1 (by decide))
  have hfl0 := (HCF.out y3 ef0 0).2
  go_simp
  clear hu0 hfl0
  refine hK.out _ _ ?_ (fun hHeld => ?_)
  · exact HSD.out _ ((heap_setCell_other _ _ _ _ (fun e => HFD.out e.symm)).trans (ed0))
  clear hK K
  try simp only [Act.put, zq1, zq2, zq3, zq4, zq5, zq6]
  refine wpAnyH_take (i := 17) (v := ?_) rfl (by kernel_rfl) (by kernel_rfl) (by kernel_rfl) (fun _ _ _ h => h) (Or.inl ⟨by rfl, ?_⟩) hHeld ?_
  rotate_left
  · intro w' hSw
    (try dsimp only at hSw)
    go_simp
    try with_reducible rfl
  try simp only [Act.put, zq1, zq2, zq3, zq4, zq5, zq6]
  refine wpAnyH_ready (rs := [18]) (by kernel_rfl) (by simp) ?_
  refine AllReadyH.cons rfl (fun K hK => ?_) (AllReadyH.nil)
  try simp only [zq1, zq2, zq3]
  have hrk1 : ∃ cs : Array Value, (y3.setCell ⟨f, 0, none⟩ (.slice G1 n k1)).heap[f]? = some (.cells cs 69 (0, 0)) ∧ cs.size = 8 := HRK1.out
  obtain ⟨cs1, hr1, hn1⟩ := hrk1
  have hu1 : (y3.setCell ⟨f, 0, none⟩ (.slice G1 n k1)).cell? ⟨f, 1, none⟩ = some (cs1[1]'(by rw [hn1]; decide)) := by rw [cell_of_row _ _ _ _ _ _ hr1, Array.getElem?_eq_getElem (by rw [hn1]; decide)]
  have hfl1 := frozen_of_row (y3.setCell ⟨f, 0, none⟩ (.slice G1 n k1)) f 1 _ _ hr1
  go_simp
  clear hu1 hfl1 hr1
  refine hK.out _ _ ?_ (fun hHeld => ?_)
  · exact HSD.out _ ((heap_setCell_other _ _ _ _ (fun e => HFD.out e.symm)).trans ((heap_setCell_other _ _ _ _ (fun e => HFD.out e.symm)).trans (ed0)))
  clear hK K
  try simp only [Act.put, zq1, zq2, zq3, zq4, zq5, zq6]
  refine wpAnyH_take (i := 19) (v := ?_) rfl (by kernel_rfl) (by kernel_rfl) (by kernel_rfl) (fun _ _ _ h => h) (Or.inl ⟨by rfl, ?_⟩) hHeld ?_
  rotate_left
  · intro w' hSw
    (try dsimp only at hSw)
    go_simp
    try with_reducible rfl
  try simp only [Act.put, zq1, zq2, zq3, zq4, zq5, zq6]
  refine wpAnyH_ready (rs := [20]) (by kernel_rfl) (by simp) ?_
  refine AllReadyH.cons rfl (fun K hK => ?_) (AllReadyH.nil)
  try simp only [zq1, zq2, zq3]
  have hrk2 : ∃ cs : Array Value, ((y3.setCell ⟨f, 0, none⟩ (.slice G1 n k1)).setCell ⟨f, 1, none⟩ (.slice G2 n k2)).heap[f]? = some (.cells cs 69 (0, 0)) ∧ cs.size = 8 := HRK2.out
  obtain ⟨cs2, hr2, hn2⟩ := hrk2
  have hu2 : ((y3.setCell ⟨f, 0, none⟩ (.slice G1 n k1)).setCell ⟨f, 1, none⟩ (.slice G2 n k2)).cell? ⟨f, 2, none⟩ = some (cs2[2]'(by rw [hn2]; decide)) := by rw [cell_of_row _ _ _ _ _ _ hr2, Array.getElem?_eq_getElem (by rw [hn2]; decide)]
  have hfl2 := frozen_of_row ((y3.setCell ⟨f, 0, none⟩ (.slice G1 n k1)).setCell ⟨f, 1, none⟩ (.slice G2 n k2)) f 2 _ _ hr2
  go_simp
  clear hu2 hfl2 hr2
  refine hK.out _ _ ?_ (fun hHeld => ?_)
  · exact HSD.out _ ((heap_setCell_other _ _ _ _ (fun e => HFD.out e.symm)).trans ((heap_setCell_other _ _ _ _ (fun e => HFD.out e.symm)).trans ((heap_setCell_other _ _ _ _ (fun e => HFD.out e.symm)).trans (ed0))))
  clear hK K
  try simp only [Act.put, zq1, zq2, zq3, zq4, zq5, zq6]
  refine wpAnyH_done (by kernel_rfl) ?_ _
  refine NoPanic.normal ?_
  have hfz := HF1.out
  have hown1 := own_belowW (own_belowW HO1.out.1 HO2.out.2) HO3.out.2
  have hown2 := own_belowW HO2.out.1 HO3.out.2
  have hlt1 := HO1.out.1.lt
  have hlt2 := HO2.out.1.lt
  have hfin := HCD.out.forked (w1 := w1) (w4 := y3) (f := f) (v1 := (.slice G1 n k1)) (v2 := (.slice G2 n k2)) (v3 := (.slice G3 m k3)) (y1 := y1) (y2 := y2) hfz.2.2.2 (by rw [← hfz.2.2.2]; exact hfz.2.2.1) (by rw [← HRW.out.2.2]; exact HR3.out) hB3.size (by rw [← HZ0.out]; exact hown1) (fun b hb => (hlt1 b hb).2) hown2 (fun b hb => (hlt2 b hb).2) (by rw [← HM0.out]; exact HO3.out.1) hB1.size HO2.out.2.size
  have hbl : Below w.heap.size w y3 := hfz.2.1.trans (hB3.mono hfz.2.1.size)
  have HFIN := Lib.hid (And.intro hfin.1 (Turn.below hbl hfin.2 (by rw [hfz.2.2.2]; exact Nat.le_refl _))); clear hfin hbl hfz hown1 hown2 hlt1 hlt2
  go_wp2_with fail
  go_ret
  exact ⟨_, rfl, HFIN.out.1, HFIN.out.2⟩
end Go.Proofs.Ytpepbffhhfgdpaa
