/-
  The laws' pieces of layer 4: plus, one, known. (Printed by wip/gen/ghpieces.py.)
-/
import Derived.Test.YtojdhcbfjiojdaaGhR
import Derived.Test.YtojdhcbfjiojdaaAesN
namespace Go.Proofs.Ytojdhcbfjiojdaa
open Go Go.RowKit
set_option linter.unusedVariables false
set_option linter.unusedSimpArgs false

theorem vb_vn (l : List UInt8) : vb l = vn (l.map UInt8.toNat) := by simp [vb, vn]
theorem vb_lt (l : List UInt8) : ∀ x ∈ l.map UInt8.toNat, x < 256 := fun x hx => by
  obtain ⟨c, _, rfl⟩ := List.mem_map.mp hx
  exact c.toNat_lt
/-- A new row that is stored at once. -/
theorem new_row (w : World) (f : Nat → Nat) : H16 ((w.alloc (.cells #[.int .u8 0, .int .u8 0, .int .u8 0, .int .u8 0, .int .u8 0, .int .u8 0, .int .u8 0, .int .u8 0, .int .u8 0, .int .u8 0, .int .u8 0, .int .u8 0, .int .u8 0, .int .u8 0, .int .u8 0, .int .u8 0] 22)).setRow w.heap.size (aN 16 f)) w.heap.size f ∧ Below w.heap.size w ((w.alloc (.cells #[.int .u8 0, .int .u8 0, .int .u8 0, .int .u8 0, .int .u8 0, .int .u8 0, .int .u8 0, .int .u8 0, .int .u8 0, .int .u8 0, .int .u8 0, .int .u8 0, .int .u8 0, .int .u8 0, .int .u8 0, .int .u8 0] 22)).setRow w.heap.size (aN 16 f)) :=
  ⟨setRow_heap _ _ _ _ _ _ (H16.newAt (f := fun _ => 0) rfl), below_row ((Below.refl _ _).alloc (Nat.le_refl _) _) _ (Nat.le_refl _) _⟩
theorem new_dS (w : World) : (w.alloc (.cells #[.int .u8 0, .int .u8 0, .int .u8 0, .int .u8 0, .int .u8 0, .int .u8 0, .int .u8 0, .int .u8 0, .int .u8 0, .int .u8 0, .int .u8 0, .int .u8 0, .int .u8 0, .int .u8 0, .int .u8 0, .int .u8 0] 22)).heap[w.heap.size]? = some (.cells (aN 16 fun _ => 0) 22 (0, 0)) := H16.newAt (f := fun _ => 0) rfl
theorem new_h (w : World) : H16 (w.alloc (.cells #[.int .u8 0, .int .u8 0, .int .u8 0, .int .u8 0, .int .u8 0, .int .u8 0, .int .u8 0, .int .u8 0, .int .u8 0, .int .u8 0, .int .u8 0, .int .u8 0, .int .u8 0, .int .u8 0, .int .u8 0, .int .u8 0] 22)) w.heap.size fun _ => 0 := new_dS w
/-- Two arrays, as a region's loads leave them. -/
theorem eqv (f g : Nat → Nat) (s : Bool) (h : sameB f g = s) (w : World) : (Op.equalIn 10000 22 (.agg (vl 16 f).toArray) (.agg (vl 16 g).toArray)).run Try.prog w = .ok s w := by
  rw [← h]; exact eqin16 f g w

/-- An operation that is wanted, guarded or not. -/
theorem wpList_load_row_g {P : Program} {ops : Array Oper} {rest : List Oper} {o : Oper} {a : Act} {w : World} {Q : Exit → Act → World → Prop} (hw : Region.wanted o (yielded ops a.tmps) = true) (ty : TypeId) (x : Operand) (ho : o.op = .load ty x)
    (g : Nat) (hx : a.eval x = .pointer (some ⟨g, 0, none⟩)) (t : TypeId) (cs : Array Value) (fr : Nat × Nat) (d : TypeDesc) (hg : w.heap[g]? = some (.cells cs t fr))
    (hu : P.underlying ty = some d) (hd : d.isRow = true) (hi : (P.info? ty).map (·.size) = some cs.size)
    (h : wpList P ops Q rest (a.put o.dst (.agg cs)) w) : wpList P ops Q (o :: rest) a w :=
  wpList_step fun K hK => by
    rw [if_pos hw]
    refine wp_load_row ty x ho g hx t cs fr d hg hu ?_ hi (hK _ _ h)
    cases d <;> simp_all
theorem own_cap {w : World} {base e n c : Nat} {A : Option Addr} {xs : List Value} (h : w.ownsRow base e 1 (.slice A n c) n xs) : n ≤ c := by
  obtain ⟨_, hv⟩ := h
  rcases hv with ⟨_, h0⟩ | ⟨g, cap, cur, hv, _, _, hnc, _⟩
  · omega
  · injection hv with _ _ h3
    omega

set_option maxRecDepth 100000 in
set_option maxHeartbeats 1000000 in
theorem lplus_any (f g : Nat → Nat) (w : World) (hf : B16 f) (hg : B16 g) :
    Calls Try.prog 15 #[.agg (aN 16 f), .agg (aN 16 g)] w fun e w' => e = .returned (.agg (aN 16 fun i => f i ^^^ g i)) ∧ Below w.heap.size w w' := by
  have HF := Lib.hid hf; clear hf
  have HG := Lib.hid hg; clear hg
  go_enter Try.func15, Try.ntmps15
  go_wp2_with fail
  go_loopw [6] (fun i wr => ∃ k : Nat, k ≤ 16 ∧ i = .int .i64 k ∧ Hid (H16 wr w.heap.size (addK f g k)) ∧ Hid (H16 wr (w.heap.size + 1) g) ∧ Hid (H16 wr (w.heap.size + 1 + 1) fun _ => 0) ∧ Hid (Below w.heap.size w wr)) (fun i _ => 16 - (intOf i).toNat)
  case atStart =>
    refine ⟨0, by omega, rfl, Lib.hid ?_, Lib.hid ?_, Lib.hid ?_, Lib.hid ((((Below.refl _ _).alloc (Nat.le_refl _) _).alloc (by simp) _).alloc (by simp; omega) _)⟩
    · exact H16.alloc _ (H16.alloc _ ((H16.newAt rfl).congr fun i _ => by simp [addK]))
    · refine H16.alloc _ ?_
      exact H16.newAt (w := w.alloc (.cells (aN 16 f) 22)) (by rw [World.size_alloc])
    · exact H16.newAt (w := (w.alloc (.cells (aN 16 f) 22)).alloc (.cells (aN 16 g) 22)) (b := w.heap.size + 1 + 1) (f := fun _ => 0) (by rw [World.size_alloc, World.size_alloc])
  case round =>
    obtain ⟨k, hk, rfl, H0, H1, H2, HB⟩ := hrel
    by_cases hlt : k < 16
    · have hk16 : (k : Int) < 16 := by omega
      have c0 := H0.out.cell k hlt
      have f0 := H0.out.free k
      have c1 := H1.out.cell k hlt
      have e0 : addK f g k k = f k := by simp [addK]
      rw [e0] at c0
      clear e0
      have hx : bits .xor .u8 (f k : Int) (g k : Int) = ((addK f g (k + 1) k : Nat) : Int) := by
        rw [xor_u8 _ _ (HF.out k hlt) (HG.out k hlt)]; simp [addK]
      go_wp2_with fail
      go_still_tail 8, (by kernel_rfl)
      change wpList _ _ _ _ _ wr.drew
      have f0' : wr.drew.frozen? ⟨w.heap.size, k, none⟩ = false := f0
      have c0' : wr.drew.cell? ⟨w.heap.size, k, none⟩ = some (.int .u8 (f k : Int)) := c0
      have H0' : Hid (H16 wr.drew w.heap.size (addK f g k)) := Lib.hid H0.out
      have H1' : Hid (H16 wr.drew (w.heap.size + 1) g) := Lib.hid H1.out
      have H2' : Hid (H16 wr.drew (w.heap.size + 1 + 1) fun _ => 0) := Lib.hid H2.out
      have HB' : Hid (Below w.heap.size w wr.drew) := Lib.hid HB.out.drew
      clear H0 H1 H2 HB c0 f0 c1
      generalize wr.drew = w2 at *
      go_wp2_with fail
      go_roundw
      case rel =>
        refine ⟨k + 1, by omega, by go_num, Lib.hid ?_, Lib.hid (H1'.out.other _ (by simp) _), Lib.hid (H2'.out.other _ (by simp; omega) _), Lib.hid (HB'.out.setCell (by simp) _)⟩
        exact H0'.out.set k _ hlt rfl fun i hi hik => by
          unfold addK
          by_cases h1 : i < k
          · rw [if_pos h1, if_pos (by omega)]
          · rw [if_neg h1, if_neg (by omega)]
      case measure => simp [intOf]; omega
    · obtain rfl : k = 16 := by omega
      have d0 : wr.heap[w.heap.size]? = some (.cells (aN 16 fun i => f i ^^^ g i) 22 (0, 0)) := H0.out.congr (addK_full _ _)
      have d1 : wr.heap[w.heap.size + 1 + 1]? = some (.cells (aN 16 fun _ => 0) 22 (0, 0)) := H2.out
      go_wp2_with (first
        | (refine wpList_load_row rfl 22 (.tmp 2) rfl w.heap.size rfl 22 (aN 16 fun i => f i ^^^ g i) (0, 0) (.array 16 5) d0 Try.underlying22 rfl (by rw [aN_size]; exact blk_size) ?_)
        | (refine wpList_store_row rfl 22 (.tmp 4) (.tmp 18) rfl (w.heap.size + 1 + 1) (aN 16 fun i => f i ^^^ g i) rfl rfl 22 _ d1 (by rw [aN_size]; exact blk_size) (by simp only [aN_size]) (aN_one _ _) ?_))
      refine bodyPost_ret (blk_ret (p := 4) (by kernel_rfl) _ _ (w.heap.size + 1 + 1) _ rfl ?_) rfl ⟨rfl, ?_⟩
      · exact setRow_heap _ _ _ _ _ _ d1
      · exact below_row HB.out _ (by omega) _

/-- The element that changes nothing. -/
def oneF (i : Nat) : Nat := if i = 0 then 128 else 0
theorem oneF_lt : B16 oneF := fun i _ => by unfold oneF; split <;> omega
theorem oneF_hof : hof oneF = he := by decide
theorem oneF_arr : aN 16 oneF = #[.int .u8 128, .int .u8 0, .int .u8 0, .int .u8 0, .int .u8 0, .int .u8 0, .int .u8 0, .int .u8 0, .int .u8 0, .int .u8 0, .int .u8 0, .int .u8 0, .int .u8 0, .int .u8 0, .int .u8 0, .int .u8 0] := rfl
set_option maxRecDepth 100000 in
theorem lone_any (w : World) :
    Calls Try.prog 16 #[] w fun e w' => e = .returned (.agg (aN 16 oneF)) ∧ Below w.heap.size w w' := by
  rw [oneF_arr]
  have dS := new_dS w
  go_enter Try.func16, Try.ntmps16
  go_wp2_with (refine wpList_store_row rfl 22 (.tmp 0) (.tmp 1) rfl w.heap.size (aN 16 oneF) rfl rfl 22 _ dS (by rw [aN_size]; exact blk_size) (by simp only [aN_size]) (aN_one _ _) ?_)
  refine bodyPost_ret (blk_ret (p := 0) (by kernel_rfl) _ _ w.heap.size oneF rfl ?_) rfl ⟨rfl, ?_⟩
  · exact setRow_heap _ _ _ _ _ _ dS
  · exact below_row ((Below.refl _ _).alloc (Nat.le_refl _) _) _ (Nat.le_refl _) _

def knK (i : Nat) : Nat := [102, 233, 75, 212, 239, 138, 44, 59, 136, 76, 250, 89, 202, 52, 43, 46].getD i 0
def knT : List Nat := [3, 136, 218, 206, 96, 182, 163, 146, 243, 40, 194, 185, 113, 178, 254, 120]
def knO (i : Nat) : Nat := [243, 140, 187, 26, 214, 146, 35, 220, 195, 69, 122, 229, 182, 176, 248, 133].getD i 0
theorem knK_lt : B16 knK := fun i hi => by
  have : ((List.range 16).all fun i => decide (knK i < 256)) = true := by decide
  exact of_decide_eq_true (List.all_eq_true.mp this i (List.mem_range.mpr hi))
theorem knT_lt : ∀ x ∈ knT, x < 256 := by decide
set_option maxRecDepth 100000 in
theorem kn_sum : ((List.range 16).all fun i => hby (gS (hof knK) [] knT) i == knO i) = true := by decide +kernel
theorem kn_eq : E16 (hby (gS (hof knK) [] knT)) knO := fun i hi => by simpa using List.all_eq_true.mp kn_sum i (List.mem_range.mpr hi)
theorem knK_arr : aN 16 knK = #[.int .u8 102, .int .u8 233, .int .u8 75, .int .u8 212, .int .u8 239, .int .u8 138, .int .u8 44, .int .u8 59, .int .u8 136, .int .u8 76, .int .u8 250, .int .u8 89, .int .u8 202, .int .u8 52, .int .u8 43, .int .u8 46] := rfl
theorem knO_arr : aN 16 knO = #[.int .u8 243, .int .u8 140, .int .u8 187, .int .u8 26, .int .u8 214, .int .u8 146, .int .u8 35, .int .u8 220, .int .u8 195, .int .u8 69, .int .u8 122, .int .u8 229, .int .u8 182, .int .u8 176, .int .u8 248, .int .u8 133] := rfl
theorem kn_cmp (w : World) : (Op.equalIn 10000 22 (.agg (aN 16 (hby (gS (hof knK) [] knT)))) (.agg #[.int .u8 243, .int .u8 140, .int .u8 187, .int .u8 26, .int .u8 214, .int .u8 146, .int .u8 35, .int .u8 220, .int .u8 195, .int .u8 69, .int .u8 122, .int .u8 229, .int .u8 182, .int .u8 176, .int .u8 248, .int .u8 133])).run Try.prog w = .ok true w := by
  rw [← knO_arr, eqin16, sameB_true kn_eq]

set_option maxRecDepth 100000 in
set_option maxHeartbeats 2000000 in
theorem known04_any (w : World) :
    Calls Try.prog 10 #[] w fun e w' => e = .returned (.bool true) ∧ Below w.heap.size w w' := by
  have q := kn_cmp
  have g := guard16
  have dS := new_dS w
  go_enter Try.func10, Try.ntmps10
  go_upto_region 3 with (refine wpList_store_row rfl 22 (.tmp 1) (.tmp 3) rfl w.heap.size (aN 16 knK) rfl rfl 22 _ dS (by rw [aN_size]; exact blk_size) (by simp only [aN_size]) (aN_one _ _) ?_)
  obtain ⟨hN, hbN⟩ := new_row w knK
  have hs : ((w.alloc (.cells #[.int .u8 0, .int .u8 0, .int .u8 0, .int .u8 0, .int .u8 0, .int .u8 0, .int .u8 0, .int .u8 0, .int .u8 0, .int .u8 0, .int .u8 0, .int .u8 0, .int .u8 0, .int .u8 0, .int .u8 0, .int .u8 0] 22)).setRow w.heap.size (aN 16 knK)).heap.size = w.heap.size + 1 := by simp
  have hrow := heap_alloc_new ((w.alloc (.cells #[.int .u8 0, .int .u8 0, .int .u8 0, .int .u8 0, .int .u8 0, .int .u8 0, .int .u8 0, .int .u8 0, .int .u8 0, .int .u8 0, .int .u8 0, .int .u8 0, .int .u8 0, .int .u8 0, .int .u8 0, .int .u8 0] 22)).setRow w.heap.size (aN 16 knK)) (.cells #[.int .u8 3, .int .u8 136, .int .u8 218, .int .u8 206, .int .u8 96, .int .u8 182, .int .u8 163, .int .u8 146, .int .u8 243, .int .u8 40, .int .u8 194, .int .u8 185, .int .u8 113, .int .u8 178, .int .u8 254, .int .u8 120] 5)
  rw [hs] at hrow
  have h1 := H16.alloc (.cells #[.int .u8 3, .int .u8 136, .int .u8 218, .int .u8 206, .int .u8 96, .int .u8 182, .int .u8 163, .int .u8 146, .int .u8 243, .int .u8 40, .int .u8 194, .int .u8 185, .int .u8 113, .int .u8 178, .int .u8 254, .int .u8 120] 5) hN
  have hB : Below w.heap.size w (((w.alloc (.cells #[.int .u8 0, .int .u8 0, .int .u8 0, .int .u8 0, .int .u8 0, .int .u8 0, .int .u8 0, .int .u8 0, .int .u8 0, .int .u8 0, .int .u8 0, .int .u8 0, .int .u8 0, .int .u8 0, .int .u8 0, .int .u8 0] 22)).setRow w.heap.size (aN 16 knK)).alloc (.cells #[.int .u8 3, .int .u8 136, .int .u8 218, .int .u8 206, .int .u8 96, .int .u8 182, .int .u8 163, .int .u8 146, .int .u8 243, .int .u8 40, .int .u8 194, .int .u8 185, .int .u8 113, .int .u8 178, .int .u8 254, .int .u8 120] 5)) := hbN.alloc (by rw [hs]; omega) _
  clear dS hN hbN hs
  generalize ((w.alloc (.cells #[.int .u8 0, .int .u8 0, .int .u8 0, .int .u8 0, .int .u8 0, .int .u8 0, .int .u8 0, .int .u8 0, .int .u8 0, .int .u8 0, .int .u8 0, .int .u8 0, .int .u8 0, .int .u8 0, .int .u8 0, .int .u8 0] 22)).setRow w.heap.size (aN 16 knK)).alloc (.cells #[.int .u8 3, .int .u8 136, .int .u8 218, .int .u8 206, .int .u8 96, .int .u8 182, .int .u8 163, .int .u8 146, .int .u8 243, .int .u8 40, .int .u8 194, .int .u8 185, .int .u8 113, .int .u8 178, .int .u8 254, .int .u8 120] 5) = w2 at *
  have hrd : Rd w2 w2.heap.size (some ⟨w.heap.size + 1, 0, none⟩) (vn knT) := fun _ => ⟨_, rfl, (Array.getElem?_eq_some_iff.1 hrow).1, fun j u hj => by
    rw [head_add, cell_of_row _ _ _ _ _ _ hrow, show (#[.int .u8 3, .int .u8 136, .int .u8 218, .int .u8 206, .int .u8 96, .int .u8 182, .int .u8 163, .int .u8 146, .int .u8 243, .int .u8 40, .int .u8 194, .int .u8 185, .int .u8 113, .int .u8 178, .int .u8 254, .int .u8 120] : Array Value) = (vn knT).toArray from rfl, List.getElem?_toArray]
    exact hj⟩
  have d1 : w2.heap[w.heap.size]? = some (.cells (aN 16 knK) 22 (0, 0)) := h1
  have HS := Lib.hid (csum_any knK knK_lt none (some ⟨w.heap.size + 1, 0, none⟩) [] knT 0 16 0 16 rfl rfl (fun _ h => by cases h) knT_lt (by omega) (by omega) (by omega) (by omega) w2 (Rd.nil _ _ _) hrd)
  have HB := Lib.hid hB; clear hB hrow hrd h1
  go_wp2_with (refine wpList_load_row_g (by rfl) 22 (.tmp 1) rfl w.heap.size rfl 22 (aN 16 knK) (0, 0) (.array 16 5) d1 Try.underlying22 rfl (by rw [aN_size]; exact blk_size) ?_)
  refine HS.out.mono ?_
  rintro e w3 ⟨rfl, hb3⟩
  go_wp2_with fail
  go_ret
  exact ⟨rfl, HB.out.trans (hb3.mono HB.out.size)⟩
end Go.Proofs.Ytojdhcbfjiojdaa
