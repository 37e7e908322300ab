/-
  Counter blocks: the first one and the next one, as the document has them (layer 5).
-/
import Derived.Test.YtfgigoheaoanpaaOctB
import Derived.Test.YtfgigoheaoanpaaByt
import Derived.Test.YtfgigoheaoanpaaRefA
import Derived.Test.YtfgigoheaoanpaaRowS
import Derived.Deep.DeepCutAuto
namespace Go.Proofs.Ytfgigoheaoanpaa
open Go Go.RowKit
set_option linter.unusedVariables false
set_option linter.unusedSimpArgs false

/-- The last four bytes' number. -/
def ctN (f : Nat → Nat) : Nat := ((f 12 * 256 + f 13) * 256 + f 14) * 256 + f 15
/-- The next counter block. -/
def nxF (f : Nat → Nat) (i : Nat) : Nat := if i < 12 then f i else (ctN f + 1) % 4294967296 / 256 ^ (15 - i) % 256
/-- The first counter block. -/
def stF (l : List Nat) (i : Nat) : Nat := if i < 12 then l.getD i 0 else if i = 15 then 1 else 0
theorem ctN_lt (f : Nat → Nat) (h : B16 f) : ctN f < 4294967296 := by
  have h1 := h 12 (by omega); have h2 := h 13 (by omega); have h3 := h 14 (by omega); have h4 := h 15 (by omega)
  unfold ctN; omega
theorem nxF_lt (f : Nat → Nat) (h : B16 f) : B16 (nxF f) := fun i hi => by
  unfold nxF
  split
  · exact h i hi
  · exact Nat.mod_lt _ (by omega)
theorem stF_lt (l : List Nat) (h : ∀ x ∈ l, x < 256) : B16 (stF l) := fun i hi => by
  unfold stF
  split
  · rw [List.getD_eq_getElem?_getD]
    cases hx : l[i]? with
    | none => simp
    | some x => simpa using h x (List.mem_of_getElem? hx)
  · split <;> omega
theorem num_four (f : Nat → Nat) (h : B16 f) : num (byF f 12 4) = ctN f := by
  have h1 := h 12 (by omega); have h2 := h 13 (by omega); have h3 := h 14 (by omega); have h4 := h 15 (by omega)
  show ((((0 * 256 + (UInt8.ofNat (f 12)).toNat) * 256 + (UInt8.ofNat (f 13)).toNat) * 256 + (UInt8.ofNat (f 14)).toNat) * 256 + (UInt8.ofNat (f 15)).toNat) = ctN f
  rw [UInt8.toNat_ofNat', UInt8.toNat_ofNat', UInt8.toNat_ofNat', UInt8.toNat_ofNat', Nat.mod_eq_of_lt h1, Nat.mod_eq_of_lt h2, Nat.mod_eq_of_lt h3, Nat.mod_eq_of_lt h4]
  unfold ctN; omega
/-- The first k of the last four bytes laid. -/
def nxK (f : Nat → Nat) (k i : Nat) : Nat := if i < 12 + k then nxF f i else f i
theorem be_four (f : Nat → Nat) (k : Nat) (hk : k < 4) : (vb (be ((ctN f + 1) % 4294967296) 4))[k]? = some (.int .u8 (nxF f (12 + k) : Int)) := by
  rw [be_map, vb, List.map_map, List.getElem?_map, List.getElem?_range hk]
  unfold nxF
  rw [if_neg (by omega)]
  simp only [Option.map_some, Function.comp, UInt8.toNat_ofNat']
  rw [show 15 - (12 + k) = 4 - 1 - k from by omega]

set_option maxRecDepth 100000 in
set_option maxHeartbeats 2000000 in
theorem rnext_any (f : Nat → Nat) (w : World) (hf : B16 f) :
    Calls Try.prog 11 #[.agg (aN 16 f)] w fun e w' => e = .returned (.agg (aN 16 (nxF f))) ∧ Below w.heap.size w w' := by
  have h1 : H16 ((w.alloc (.cells (aN 16 f) 23)).alloc (.cells (aN 16 fun _ => 0) 23)) w.heap.size f := H16.alloc _ (H16.newAt rfl)
  have h2 : H16 ((w.alloc (.cells (aN 16 f) 23)).alloc (.cells (aN 16 fun _ => 0) 23)) (w.heap.size + 1) fun _ => 0 := H16.newAt (w := w.alloc (.cells (aN 16 f) 23)) (by rw [World.size_alloc])
  have hB : Below w.heap.size w ((w.alloc (.cells (aN 16 f) 23)).alloc (.cells (aN 16 fun _ => 0) 23)) := ((Below.refl _ _).alloc (Nat.le_refl _) _).alloc (by simp) _
  have H1 := Lib.hid h1; clear h1
  have H2 := Lib.hid h2; clear h2
  have HB := Lib.hid hB; clear hB
  have HF := Lib.hid hf
  have hx : ((vb (byF f 12 4)) : List Value) = [.int .u8 (f 12 : Int), .int .u8 (f 13 : Int), .int .u8 (f 14 : Int), .int .u8 (f 15 : Int)] := by
    have e : ∀ k, k < 4 → (vb (byF f 12 4))[k]? = some (.int .u8 (f (12 + k) : Int)) := fun k hk => byF_at f 12 4 k hk (hf _ (by omega))
    apply List.ext_getElem?
    intro k
    by_cases hk : k < 4
    · rw [e k hk]
      rcases k with _ | _ | _ | _ | k
      · rfl
      · rfl
      · rfl
      · rfl
      · omega
    · rw [List.getElem?_eq_none (by simp [byF_len]; omega), List.getElem?_eq_none (by simp; omega)]
  have HX := Lib.hid hx; clear hx hf
  obtain ⟨cn, hcn⟩ : ∃ cn, cn = ctN f := ⟨_, rfl⟩
  have hcl : cn < 4294967296 := by rw [hcn]; exact ctN_lt f HF.out
  obtain ⟨cm, hcm⟩ : ∃ cm, cm = (cn + 1) % 4294967296 := ⟨_, rfl⟩
  have hw1 : IntKind.u64.wrap ((cn : Int) + 1) = (cn : Int) + 1 := IntWalk.u64_in _ (by omega)
  have hw2 : ((cn : Int) + 1) % 4294967296 = (cm : Int) := by omega
  have hcml : cm < 18446744073709551616 := by omega
  have HC := Lib.hid (And.intro hcn hcm); clear hcn hcm
  go_enter Try.func11, Try.ntmps11
  go_upto_region 1 with fail
  rw [zero16]
  generalize (w.alloc (.cells (aN 16 f) 23)).alloc (.cells (aN 16 fun _ => 0) 23) = w1 at *
  have c12 := H1.out.cell 12 (by decide)
  have c13 := H1.out.cell 13 (by decide)
  have c14 := H1.out.cell 14 (by decide)
  have c15 := H1.out.cell 15 (by decide)
  go_wp2_with fail
  have hrow := heap_alloc_new w1 (.cells #[.int .u8 (f 12 : Int), .int .u8 (f 13 : Int), .int .u8 (f 14 : Int), .int .u8 (f 15 : Int)] 5)
  have h1 := H16.alloc (.cells #[.int .u8 (f 12 : Int), .int .u8 (f 13 : Int), .int .u8 (f 14 : Int), .int .u8 (f 15 : Int)] 5) H1.out
  have h2 := H16.alloc (.cells #[.int .u8 (f 12 : Int), .int .u8 (f 13 : Int), .int .u8 (f 14 : Int), .int .u8 (f 15 : Int)] 5) H2.out
  have hb := HB.out.alloc HB.out.size (.cells #[.int .u8 (f 12 : Int), .int .u8 (f 13 : Int), .int .u8 (f 14 : Int), .int .u8 (f 15 : Int)] 5)
  generalize w1.alloc (.cells #[.int .u8 (f 12 : Int), .int .u8 (f 13 : Int), .int .u8 (f 14 : Int), .int .u8 (f 15 : Int)] 5) = w2 at *
  have hrd : Rd w2 w2.heap.size (some ⟨w1.heap.size, 0, none⟩) (vb (byF f 12 4)) := fun _ => ⟨_, rfl, (Array.getElem?_eq_some_iff.1 hrow).1, fun j u hj => by
    rw [HX.out] at hj
    rw [head_add, cell_of_row _ _ _ _ _ _ hrow, List.getElem?_toArray]
    exact hj⟩
  refine (rnumber_any _ (byF f 12 4) 4 4 (byF_len _ _ _) w2 (by decide) hrd).mono ?_
  rintro e w3 ⟨rfl, rfl⟩
  rw [num_four f HF.out, ← HC.out.1]
  clear hrow hrd c12 c13 c14 c15 H1 H2 HB
  have H1 := Lib.hid h1; clear h1
  have H2 := Lib.hid h2; clear h2
  have HB := Lib.hid hb; clear hb
  go_wp2_with fail
  refine (rof_any cm 4 w3 hcml (by decide) (by decide)).mono ?_
  rintro e w4 ⟨v, rfl, hown, hb4⟩
  obtain ⟨g, c4, rfl, hg1, hg2⟩ := hown.form (by decide)
  have hgn : g ≠ w.heap.size := by have := H2.out.lt; omega
  have hgn2 : g ≠ w.heap.size + 1 := by have := H2.out.lt; omega
  have HCE : Hid (∀ k, k < 4 → w4.cell? ⟨g, k, none⟩ = some (.int .u8 (nxF f (12 + k) : Int))) := Lib.hid fun k hk => by
    rw [hown.cellAt k hk, HC.out.2, HC.out.1]
    exact be_four f k hk
  have H1b := Lib.hid (H1.out.call hb4)
  have H2b := Lib.hid (H2.out.call hb4)
  have HBb : Hid (Below w.heap.size w w4) := Lib.hid (HB.out.trans (hb4.mono HB.out.size))
  clear H1 H2 HB hb4 hown hg1 hg2
  go_wp2_with fail
  go_loopw [6] (fun i wr => ∃ k : Nat, k ≤ 4 ∧ i = .int .i64 (k : Int) ∧ Hid (H16 wr w.heap.size (nxK f k)) ∧ Hid (H16 wr (w.heap.size + 1) fun _ => 0) ∧ Hid (∀ k, k < 4 → wr.cell? ⟨g, k, none⟩ = some (.int .u8 (nxF f (12 + k) : Int))) ∧ Hid (Below w.heap.size w wr)) (fun i _ => 4 - (intOf i).toNat)
  case atStart => exact ⟨0, by omega, rfl, Lib.hid (H1b.out.congr fun i hi => by
    unfold nxK nxF
    by_cases h : i < 12
    · rw [if_pos h, if_pos h]
    · rw [if_neg h]), H2b, HCE, HBb⟩
  case round =>
    clear H1b H2b HCE HBb
    obtain ⟨k, hk, rfl, H1, H2, HCE, HB⟩ := hrel
    by_cases hlt : k < 4
    · have hk4 : (k : Int) < 4 := by omega
      have cg := HCE.out k hlt
      have cf := H1.out.cell (12 + k) (by omega)
      have ff := H1.out.free (12 + k)
      have hwr : IntKind.i64.wrap (12 + (k : Int)) = 12 + (k : Int) := IntWalk.i64_in _ (by omega)
      have hwi : (12 + (k : Int)).toNat = 12 + k := by omega
      go_wp2_with fail
      go_roundw
      case rel =>
        refine ⟨k + 1, by omega, by go_num, Lib.hid ?_, Lib.hid (H2.out.other _ (by simp) _), Lib.hid fun j hj => ?_, Lib.hid (HB.out.setCell (by simp) _)⟩
        · refine H1.out.set (12 + k) _ (by omega) (by unfold nxK; rw [if_pos (by omega)]) fun i hi hne => ?_
          unfold nxK
          by_cases h1 : i < 12 + k
          · rw [if_pos h1, if_pos (by omega)]
          · rw [if_neg h1, if_neg (by omega)]
        · rw [World.cell?_setCell_other _ _ _ _ (fun e => by injection e with e1 _ _; exact hgn e1.symm)]
          exact HCE.out j hj
      case measure => simp [intOf]; omega
    · obtain rfl : k = 4 := by omega
      have d1 : wr.heap[w.heap.size]? = some (.cells (aN 16 (nxF f)) 23 (0, 0)) := H1.out.congr fun i hi => by unfold nxK; rw [if_pos (by omega)]
      have d2 : wr.heap[w.heap.size + 1]? = some (.cells (aN 16 fun _ => 0) 23 (0, 0)) := H2.out
      go_wp2_with (first
        | (refine wpList_load_row rfl 23 (.tmp 1) rfl w.heap.size rfl 23 (aN 16 (nxF f)) (0, 0) (.array 16 5) d1 Try.underlying23 rfl (by rw [aN_size]; exact blk_size) ?_)
        | (refine wpList_store_row rfl 23 (.tmp 2) (.tmp 35) rfl (w.heap.size + 1) (aN 16 (nxF f)) rfl rfl 23 _ d2 (by rw [aN_size]; exact blk_size) (by simp only [aN_size]) (aN_one _ _) ?_))
      refine bodyPost_ret (blk_ret (p := 2) (by kernel_rfl) _ _ (w.heap.size + 1) _ rfl ?_) rfl ⟨rfl, ?_⟩
      · exact setRow_heap _ _ _ _ _ _ d2
      · exact below_row HB.out _ (by omega) _

/-- The first k bytes of the first counter block. -/
def stK (l : List Nat) (k i : Nat) : Nat := if i < k then l.getD i 0 else 0
set_option maxRecDepth 100000 in
set_option maxHeartbeats 2000000 in
theorem rfirst_any (A : Option Addr) (l : List Nat) (cap : Nat) (hn : l.length = 12) (w : World) (h : Rd w w.heap.size A (vn l)) :
    Calls Try.prog 9 #[.slice A 12 cap] w fun e w' => e = .returned (.agg (aN 16 (stF l))) ∧ Below w.heap.size w w' := by
  have h1 : H16 ((w.alloc (.cells (aN 16 fun _ => 0) 23)).alloc (.cells (aN 16 fun _ => 0) 23)) w.heap.size fun _ => 0 := H16.alloc _ (H16.newAt rfl)
  have h2 : H16 ((w.alloc (.cells (aN 16 fun _ => 0) 23)).alloc (.cells (aN 16 fun _ => 0) 23)) (w.heap.size + 1) fun _ => 0 := H16.newAt (w := w.alloc (.cells (aN 16 fun _ => 0) 23)) (by rw [World.size_alloc])
  have hB : Below w.heap.size w ((w.alloc (.cells (aN 16 fun _ => 0) 23)).alloc (.cells (aN 16 fun _ => 0) 23)) := ((Below.refl _ _).alloc (Nat.le_refl _) _).alloc (by simp) _
  have H1 := Lib.hid h1; clear h1
  have H2 := Lib.hid h2; clear h2
  have HB := Lib.hid hB; clear hB
  have HN := Lib.hid hn; clear hn
  obtain ⟨ad, rfl, hab, hac⟩ := h (by rw [vn_len, HN.out]; decide)
  have HC : Hid (∀ k, k < 12 → w.cell? (ad.add k) = some (.int .u8 (l.getD k 0 : Int))) := Lib.hid fun k hk => by
    refine hac k _ ?_
    have hl : k < l.length := by rw [HN.out]; exact hk
    simp [vn, hl]
  have HAB := Lib.hid hab; clear hab hac
  go_enter Try.func9, Try.ntmps9
  go_wp2_with fail
  rw [zero16]
  generalize (w.alloc (.cells (aN 16 fun _ => 0) 23)).alloc (.cells (aN 16 fun _ => 0) 23) = w1 at *
  go_loopw [4] (fun i wr => ∃ k : Nat, k ≤ 12 ∧ i = .int .i64 (k : Int) ∧ Hid (H16 wr (w.heap.size + 1) (stK l k)) ∧ Hid (H16 wr w.heap.size fun _ => 0) ∧ Hid (Below w.heap.size w wr)) (fun i _ => 12 - (intOf i).toNat)
  case atStart => exact ⟨0, by omega, rfl, Lib.hid (H2.out.congr fun i hi => by simp [stK]), H1, HB⟩
  case round =>
    clear H1 H2 HB
    obtain ⟨k, hk, rfl, H2, H1, HB⟩ := hrel
    by_cases hlt : k < 12
    · have hk4 : (k : Int) < 12 := by omega
      have cg : wr.cell? (ad.add k) = some (.int .u8 (l.getD k 0 : Int)) := (HB.out.cell (by rw [add_block]; exact HAB.out)).trans (HC.out k hlt)
      have cf := H2.out.cell k (by omega)
      have ff := H2.out.free k
      obtain ⟨x, hx⟩ : ∃ x, x = l.getD k 0 := ⟨_, rfl⟩
      rw [← hx] at cg
      have HXX := Lib.hid hx; clear hx
      go_wp2_with fail
      go_roundw
      case rel =>
        refine ⟨k + 1, by omega, by go_num, Lib.hid ?_, Lib.hid (H1.out.other _ (by simp) _), Lib.hid (HB.out.setCell (by simp) _)⟩
        refine H2.out.set k _ (by omega) (by unfold stK; rw [if_pos (by omega), HXX.out]) fun i hi hne => ?_
        unfold stK
        by_cases h1 : i < k
        · rw [if_pos h1, if_pos (by omega)]
        · rw [if_neg h1, if_neg (by omega)]
      case measure => simp [intOf]; omega
    · obtain rfl : k = 12 := by omega
      have cf := H2.out.cell 15 (by omega)
      have ff := H2.out.free 15
      have h2' := H2.out.set (z := stF l) 15 1 (by decide) (by simp [stF]) fun j hj hne => by
        unfold stF stK
        by_cases h1 : j < 12
        · rw [if_pos h1, if_pos h1]
        · rw [if_neg h1, if_neg h1, if_neg hne]
      have h1' := H1.out.other ⟨w.heap.size + 1, 15, none⟩ (by simp) (.int .u8 1)
      have hb' := HB.out.setCell (p := ⟨w.heap.size + 1, 15, none⟩) (by simp) (.int .u8 1)
      go_upto_region 7 with fail
      rw [show (Value.int IntKind.u8 ((1 : Nat) : Int)) = Value.int .u8 1 from rfl] at h2'
      generalize wr.setCell ⟨w.heap.size + 1, 15, none⟩ (.int .u8 1) = w2 at *
      have d3 : w2.heap[w.heap.size + 1]? = some (.cells (aN 16 (stF l)) 23 (0, 0)) := h2'
      have d2 : w2.heap[w.heap.size]? = some (.cells (aN 16 fun _ => 0) 23 (0, 0)) := h1'
      go_wp2_with (first
        | (refine wpList_load_row rfl 23 (.tmp 3) rfl (w.heap.size + 1) rfl 23 (aN 16 (stF l)) (0, 0) (.array 16 5) d3 Try.underlying23 rfl (by rw [aN_size]; exact blk_size) ?_)
        | (refine wpList_store_row rfl 23 (.tmp 2) (.tmp 16) rfl w.heap.size (aN 16 (stF l)) rfl rfl 23 _ d2 (by rw [aN_size]; exact blk_size) (by simp only [aN_size]) (aN_one _ _) ?_))
      refine bodyPost_ret (blk_ret (p := 2) (by kernel_rfl) _ _ w.heap.size _ rfl ?_) rfl ⟨rfl, ?_⟩
      · exact setRow_heap _ _ _ _ _ _ d2
      · exact below_row hb' _ (by omega) _
end Go.Proofs.Ytfgigoheaoanpaa
