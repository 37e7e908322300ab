/-
  Several texts in one:
  The code's rows moved, by one and by three columns times the row's number. (Printed by wip/gen/aesmoved.py.)
  The hash of two texts as one list of blocks. Plain.
-/
import Derived.Test.YtkfmgjipocmkjaaFoldD
import Derived.Test.YtkfmgjipocmkjaaAesC
import Derived.Test.YtkfmgjipocmkjaaGhQ
namespace Go.Proofs.Ytkfmgjipocmkjaa
open Go Go.RowKit
set_option linter.unusedVariables false
set_option linter.unusedSimpArgs false

def y1 (p : Nat) : Nat := p
def y3 (p : Nat) : Nat := 3 * p
theorem y1_up (f : Nat → Nat) : E16 (sMov y1 f) (sMov up f) := fun i hi => rfl
theorem y3_dn (f : Nat → Nat) : E16 (sMov y3 f) (sMov dn f) := fun i hi => by
  unfold sMov y3 dn
  congr 1
  omega

set_option maxRecDepth 100000 in
set_option maxHeartbeats 2000000 in
theorem moved1_any (f : Nat → Nat) (w : World) :
    Calls Try.prog 41 #[.agg (aN 16 f), .int .i64 1] w fun e w' => e = .returned (.agg (aN 16 (sMov y1 f))) ∧ Below w.heap.size w w' := by
  go_enter Try.func41, Try.ntmps41
  go_wp2_with fail
  go_loopw [8] (fun i wr => ∃ p : Nat, p ≤ 4 ∧ i = .int .i64 p ∧ Hid (HT 66 wr w.heap.size f) ∧ Hid (HT 66 wr (w.heap.size + 1) fun _ => 0) ∧ Hid (HT 66 wr (w.heap.size + 1 + 1) (movK y1 f p 0)) ∧ Hid (Below w.heap.size w wr)) (fun i _ => 4 - (intOf i).toNat)
  case atStart =>
    refine ⟨0, by omega, rfl, Lib.hid ?_, Lib.hid ?_, Lib.hid ?_, Lib.hid ((((Below.refl _ _).alloc (Nat.le_refl _) _).alloc (by simp) _).alloc (by simp; omega) _)⟩
    · exact HT.alloc _ (HT.alloc _ (HT.newAt rfl))
    · refine HT.alloc _ ?_
      exact HT.newAt (w := w.alloc (.cells (aN 16 f) 66)) (b := w.heap.size + 1) (f := fun _ => 0) (by rw [World.size_alloc])
    · refine HT.congr (f := fun _ => 0) ?_ (fun i _ => by simp [movK])
      exact HT.newAt (w := (w.alloc (.cells (aN 16 f) 66)).alloc (.cells (aN 16 fun _ => 0) 66)) (b := w.heap.size + 1 + 1) (f := fun _ => 0) (by rw [World.size_alloc, World.size_alloc])
  case round =>
    obtain ⟨p, hp, rfl, H0, H1, H2, HB⟩ := hrel
    by_cases hlt : p < 4
    · have ht : decide ((p : Int) < 4) = true := decide_eq_true (by omega)
      go_wp2_with fail
      clear ht
      obtain ⟨wo, rfl⟩ : ∃ wo : World, wo = wr := ⟨_, rfl⟩
      go_loopw [11] (fun i wq => ∃ q : Nat, q ≤ 4 ∧ i = .int .i64 q ∧ Hid (HT 66 wq w.heap.size f) ∧ Hid (HT 66 wq (w.heap.size + 1) fun _ => 0) ∧ Hid (HT 66 wq (w.heap.size + 1 + 1) (movK y1 f p q)) ∧ Hid (Below w.heap.size w wq)) (fun i _ => 4 - (intOf i).toNat)
      case atStart => exact ⟨0, by omega, rfl, H0, H1, H2, HB⟩
      case round =>
        clear H0 H1 H2 HB
        obtain ⟨q, hq, rfl, H0, H1, H2, HB⟩ := hrel
        by_cases hlq : q < 4
        · have hp4 : (p : Int) < 4 := by omega
          have hq4 : (q : Int) < 4 := by omega
          have hg16 : 4 * ((q + p) % 4) + p < 16 := by omega
          have hd16 : 4 * q + p < 16 := by omega
          have c0 := H0.out.cell _ hg16
          have c3 := H2.out.cell _ hd16
          have f3 := H2.out.free (4 * q + p)
          have hv : movK y1 f p (q + 1) (4 * q + p) = f (4 * ((q + p) % 4) + p) := by
            rw [movK_next y1 f p q hlt, sMov, show (4 * q + p) / 4 = q from by omega, show (4 * q + p) % 4 = p from by omega]; rfl
          have HV := Lib.hid hv; clear hv
          go_wp2_with fail
          go_roundw
          case rel =>
            refine ⟨q + 1, by omega, by go_num, Lib.hid (H0.out.other _ (by simp; omega) _), Lib.hid (H1.out.other _ (by simp) _), Lib.hid ?_, Lib.hid (HB.out.setCell (by simp; omega) _)⟩
            exact H2.out.set _ _ hd16 HV.out fun i hi hik => movK_far y1 f p q i hlt hik
          case measure => simp [intOf]; omega
        · obtain rfl : q = 4 := by omega
          go_wp2_with fail
          go_roundw
          case rel => exact ⟨p + 1, by omega, by go_num, H0, H1, Lib.hid (H2.out.congr (movK_row y1 f p)), HB⟩
          case measure => simp [intOf]; omega
    · obtain rfl : p = 4 := by omega
      have d3 : wr.heap[w.heap.size + 1 + 1]? = some (.cells (aN 16 (sMov y1 f)) 66 (0, 0)) := H2.out.congr (movK_end y1 f)
      have d2 : wr.heap[w.heap.size + 1]? = some (.cells (aN 16 fun _ => 0) 66 (0, 0)) := H1.out
      go_wp2_with (first
        | (refine wpList_load_row rfl 66 (.tmp 5) rfl (w.heap.size + 1 + 1) rfl 66 _ (0, 0) (.array 16 5) d3 Try.underlying66 rfl (by rw [aN_size]; kernel_rfl) ?_)
        | (refine wpList_store_row rfl 66 (.tmp 4) (.tmp 32) rfl (w.heap.size + 1) (aN 16 (sMov y1 f)) rfl rfl 66 _ d2 (by rw [aN_size]; kernel_rfl) (by rw [aN_size, aN_size]) (aN_one _ _) ?_))
      refine bodyPost_ret (v := .agg (aN 16 (sMov y1 f))) (results_cell_row (p := 4) (ty := 66) (by kernel_rfl) _ _ (w.heap.size + 1) 66 (aN 16 (sMov y1 f)) (0, 0) (.array 16 5) rfl ?_ Try.underlying66 rfl (by rw [aN_size]; kernel_rfl)) rfl ⟨rfl, ?_⟩
      · exact setRow_heap _ _ _ _ _ _ d2
      · exact below_setRow HB.out _ (by omega) _

set_option maxRecDepth 100000 in
set_option maxHeartbeats 2000000 in
theorem moved3_any (f : Nat → Nat) (w : World) :
    Calls Try.prog 41 #[.agg (aN 16 f), .int .i64 3] w fun e w' => e = .returned (.agg (aN 16 (sMov y3 f))) ∧ Below w.heap.size w w' := by
  go_enter Try.func41, Try.ntmps41
  go_wp2_with fail
  go_loopw [8] (fun i wr => ∃ p : Nat, p ≤ 4 ∧ i = .int .i64 p ∧ Hid (HT 66 wr w.heap.size f) ∧ Hid (HT 66 wr (w.heap.size + 1) fun _ => 0) ∧ Hid (HT 66 wr (w.heap.size + 1 + 1) (movK y3 f p 0)) ∧ Hid (Below w.heap.size w wr)) (fun i _ => 4 - (intOf i).toNat)
  case atStart =>
    refine ⟨0, by omega, rfl, Lib.hid ?_, Lib.hid ?_, Lib.hid ?_, Lib.hid ((((Below.refl _ _).alloc (Nat.le_refl _) _).alloc (by simp) _).alloc (by simp; omega) _)⟩
    · exact HT.alloc _ (HT.alloc _ (HT.newAt rfl))
    · refine HT.alloc _ ?_
      exact HT.newAt (w := w.alloc (.cells (aN 16 f) 66)) (b := w.heap.size + 1) (f := fun _ => 0) (by rw [World.size_alloc])
    · refine HT.congr (f := fun _ => 0) ?_ (fun i _ => by simp [movK])
      exact HT.newAt (w := (w.alloc (.cells (aN 16 f) 66)).alloc (.cells (aN 16 fun _ => 0) 66)) (b := w.heap.size + 1 + 1) (f := fun _ => 0) (by rw [World.size_alloc, World.size_alloc])
  case round =>
    obtain ⟨p, hp, rfl, H0, H1, H2, HB⟩ := hrel
    by_cases hlt : p < 4
    · have ht : decide ((p : Int) < 4) = true := decide_eq_true (by omega)
      go_wp2_with fail
      clear ht
      obtain ⟨wo, rfl⟩ : ∃ wo : World, wo = wr := ⟨_, rfl⟩
      go_loopw [11] (fun i wq => ∃ q : Nat, q ≤ 4 ∧ i = .int .i64 q ∧ Hid (HT 66 wq w.heap.size f) ∧ Hid (HT 66 wq (w.heap.size + 1) fun _ => 0) ∧ Hid (HT 66 wq (w.heap.size + 1 + 1) (movK y3 f p q)) ∧ Hid (Below w.heap.size w wq)) (fun i _ => 4 - (intOf i).toNat)
      case atStart => exact ⟨0, by omega, rfl, H0, H1, H2, HB⟩
      case round =>
        clear H0 H1 H2 HB
        obtain ⟨q, hq, rfl, H0, H1, H2, HB⟩ := hrel
        by_cases hlq : q < 4
        · have hp4 : (p : Int) < 4 := by omega
          have hq4 : (q : Int) < 4 := by omega
          have hg16 : 4 * ((q + 3 * p) % 4) + p < 16 := by omega
          have hd16 : 4 * q + p < 16 := by omega
          have c0 := H0.out.cell _ hg16
          have c3 := H2.out.cell _ hd16
          have f3 := H2.out.free (4 * q + p)
          have hv : movK y3 f p (q + 1) (4 * q + p) = f (4 * ((q + 3 * p) % 4) + p) := by
            rw [movK_next y3 f p q hlt, sMov, show (4 * q + p) / 4 = q from by omega, show (4 * q + p) % 4 = p from by omega]; rfl
          have HV := Lib.hid hv; clear hv
          go_wp2_with fail
          go_roundw
          case rel =>
            refine ⟨q + 1, by omega, by go_num, Lib.hid (H0.out.other _ (by simp; omega) _), Lib.hid (H1.out.other _ (by simp) _), Lib.hid ?_, Lib.hid (HB.out.setCell (by simp; omega) _)⟩
            exact H2.out.set _ _ hd16 HV.out fun i hi hik => movK_far y3 f p q i hlt hik
          case measure => simp [intOf]; omega
        · obtain rfl : q = 4 := by omega
          go_wp2_with fail
          go_roundw
          case rel => exact ⟨p + 1, by omega, by go_num, H0, H1, Lib.hid (H2.out.congr (movK_row y3 f p)), HB⟩
          case measure => simp [intOf]; omega
    · obtain rfl : p = 4 := by omega
      have d3 : wr.heap[w.heap.size + 1 + 1]? = some (.cells (aN 16 (sMov y3 f)) 66 (0, 0)) := H2.out.congr (movK_end y3 f)
      have d2 : wr.heap[w.heap.size + 1]? = some (.cells (aN 16 fun _ => 0) 66 (0, 0)) := H1.out
      go_wp2_with (first
        | (refine wpList_load_row rfl 66 (.tmp 5) rfl (w.heap.size + 1 + 1) rfl 66 _ (0, 0) (.array 16 5) d3 Try.underlying66 rfl (by rw [aN_size]; kernel_rfl) ?_)
        | (refine wpList_store_row rfl 66 (.tmp 4) (.tmp 32) rfl (w.heap.size + 1) (aN 16 (sMov y3 f)) rfl rfl 66 _ d2 (by rw [aN_size]; kernel_rfl) (by rw [aN_size, aN_size]) (aN_one _ _) ?_))
      refine bodyPost_ret (v := .agg (aN 16 (sMov y3 f))) (results_cell_row (p := 4) (ty := 66) (by kernel_rfl) _ _ (w.heap.size + 1) 66 (aN 16 (sMov y3 f)) (0, 0) (.array 16 5) rfl ?_ Try.underlying66 rfl (by rw [aN_size]; kernel_rfl)) rfl ⟨rfl, ?_⟩
      · exact setRow_heap _ _ _ _ _ _ d2
      · exact below_setRow HB.out _ (by omega) _
end Go.Proofs.Ytkfmgjipocmkjaa
namespace Go.Proofs.Ytkfmgjipocmkjaa
open Go Go.RowKit
set_option linter.unusedVariables false
set_option linter.unusedSimpArgs false

theorem gfrom_zero (h a : Nat) (l : List Nat) : gfrom h a l 0 = a := rfl
theorem gfrom_succ (h a : Nat) (l : List Nat) (n : Nat) : gfrom h a l (n + 1) = hm (gfrom h a l n ^^^ hof (gblk l n)) h := by
  unfold gfrom; rw [List.range_succ, gpre_snoc]
theorem gfrom_congr (h a : Nat) (l l' : List Nat) (n : Nat) (e : ∀ j k, j < n → k < 16 → gblk l j k = gblk l' j k) : gfrom h a l n = gfrom h a l' n := by
  induction n with
  | zero => rw [gfrom_zero, gfrom_zero]
  | succ n ih => rw [gfrom_succ, gfrom_succ, ih fun j k hj hk => e j k (by omega) hk, hof_congr fun k hk => e n k (by omega) hk]
theorem gfrom_gsum (h : Nat) (l : List Nat) (n : Nat) : gfrom h 0 l n = gsum h l n := by
  induction n with
  | zero => rw [gfrom_zero, gsum]
  | succ n ih => rw [gfrom_succ, gsum, ih]
theorem gfrom_app (h a : Nat) (l l' : List Nat) (n m : Nat) (hl : l.length = 16 * n) : gfrom h a (l ++ l') (n + m) = gfrom h (gfrom h a l n) l' m := by
  induction m with
  | zero =>
    rw [gfrom_zero, Nat.add_zero]
    refine gfrom_congr h a _ _ n fun j k hj hk => ?_
    unfold gblk
    rw [List.getD_eq_getElem?_getD, List.getD_eq_getElem?_getD, List.getElem?_append_left (by omega)]
  | succ m ih =>
    have hb : hof (gblk (l ++ l') (n + m)) = hof (gblk l' m) := hof_congr fun k hk => by
      unfold gblk
      rw [List.getD_eq_getElem?_getD, List.getD_eq_getElem?_getD, List.getElem?_append_right (by omega), show 16 * (n + m) + k - l.length = 16 * m + k from by omega]
    rw [← Nat.add_assoc, gfrom_succ, gfrom_succ, ih, hb]
theorem gblk_full (l : List Nat) (j k : Nat) : gblk (fullN l) j k = gblk l j k := by
  unfold gblk fullN
  rw [List.getD_eq_getElem?_getD, List.getD_eq_getElem?_getD]
  by_cases h : 16 * j + k < l.length
  · rw [List.getElem?_append_left h]
  · rw [List.getElem?_append_right (by omega), List.getElem?_eq_none (l := l) (by omega)]
    cases hx : (List.replicate (lackN l.length) 0)[16 * j + k - l.length]? with
    | none => rfl
    | some x =>
      have := List.mem_of_getElem? hx
      rw [List.mem_replicate] at this
      rw [this.2]; rfl
theorem gfrom_full (h a : Nat) (l : List Nat) (n : Nat) : gfrom h a (fullN l) n = gfrom h a l n := gfrom_congr h a _ _ n fun j k _ _ => gblk_full l j k
theorem full_blocks (l : List Nat) : (fullN l).length = 16 * ((l.length + 15) / 16) := by rw [fullN_len]; unfold lackN; omega
/-- A number's eight bytes. -/
def beN (n : Nat) : List Nat := (be n 8).map (·.toNat)
theorem beN_len (n : Nat) : (beN n).length = 8 := by simp [beN, be_len]
theorem vb_be (n : Nat) : vb (be n 8) = vn (beN n) := by simp [vb, vn, beN]
theorem beN_at (n i : Nat) (hi : i < 8) : (beN n).getD i 0 = n / 256 ^ (7 - i) % 256 := by
  unfold beN
  rw [be_map, List.map_map, List.getD_eq_getElem?_getD, List.getElem?_map, List.getElem?_range hi]
  simp only [Option.map_some, Option.getD_some, Function.comp, UInt8.toNat_ofNat']
theorem gblk_lens (n m : Nat) (hn : n ≤ 140737488351360) (hm : m ≤ 140737488351360) (k : Nat) (hk : k < 16) : gblk (beN (8 * n) ++ beN (8 * m)) 0 k = hby (gLen n m) k := by
  unfold gblk
  rw [Nat.mul_zero, Nat.zero_add, List.getD_eq_getElem?_getD]
  by_cases h : k < 8
  · rw [List.getElem?_append_left (by rw [beN_len]; exact h), ← List.getD_eq_getElem?_getD, beN_at _ _ h]
    have e := hby_hi (gLen n m) k h
    rw [gLen_hi n m hm, UInt8.toNat_ofNat', show 8 - 1 - k = 7 - k from by omega] at e
    exact e
  · obtain ⟨j, rfl⟩ : ∃ j, k = 8 + j := ⟨k - 8, by omega⟩
    rw [List.getElem?_append_right (by rw [beN_len]; omega), beN_len, show 8 + j - 8 = j from by omega, ← List.getD_eq_getElem?_getD, beN_at _ _ (by omega)]
    have e := hby_lo (gLen n m) j (by omega)
    rw [gLen_lo n m hm, UInt8.toNat_ofNat', show 8 - 1 - j = 7 - j from by omega] at e
    exact e
/-- All blocks of the document's Sum. -/
def gAll (a t : List Nat) : List Nat := ((fullN a ++ fullN t) ++ beN (8 * a.length)) ++ beN (8 * t.length)
def gN (n m : Nat) : Nat := (n + 15) / 16 + (m + 15) / 16 + 1
theorem gAll_len (a t : List Nat) : (gAll a t).length = 16 * gN a.length t.length := by
  unfold gAll gN
  rw [List.length_append, List.length_append, List.length_append, full_blocks, full_blocks, beN_len, beN_len]; omega
theorem gAll_lt (a t : List Nat) (ha : ∀ x ∈ a, x < 256) (ht : ∀ x ∈ t, x < 256) : ∀ x ∈ gAll a t, x < 256 := by
  intro x hx
  have hb : ∀ n, x ∈ beN n → x < 256 := fun n h => by
    unfold beN at h
    obtain ⟨b, _, rfl⟩ := List.mem_map.mp h
    exact b.toNat_lt
  have hf : ∀ l : List Nat, (∀ x ∈ l, x < 256) → x ∈ fullN l → x < 256 := fun l hl h => by
    unfold fullN at h
    rcases List.mem_append.mp h with h | h
    · exact hl x h
    · rw [List.mem_replicate] at h; omega
  unfold gAll at hx
  simp only [List.mem_append] at hx
  rcases hx with ((h | h) | h) | h
  · exact hf a ha h
  · exact hf t ht h
  · exact hb _ h
  · exact hb _ h
theorem gAll_sum (k : Nat) (a t : List Nat) (ha : a.length ≤ 140737488351360) (ht : t.length ≤ 140737488351360) : gfrom k 0 (gAll a t) (gN a.length t.length) = gS k a t := by
  have e : gAll a t = fullN a ++ (fullN t ++ (beN (8 * a.length) ++ beN (8 * t.length))) := by simp [gAll]
  unfold gN
  have hb : hof (gblk (beN (8 * a.length) ++ beN (8 * t.length)) 0) = gLen a.length t.length := by
    rw [hof_congr (gblk_lens _ _ ha ht), hby_hof _ (gLen_lt _ _ ha ht)]
  rw [e, Nat.add_assoc, gfrom_app k 0 _ _ _ _ (full_blocks a), gfrom_app k _ _ _ _ _ (full_blocks t), gfrom_full, gfrom_full, gfrom_succ, gfrom_zero, gS, hb]
end Go.Proofs.Ytkfmgjipocmkjaa
