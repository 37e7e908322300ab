/-
  The law's own words: the bytes from nought on, the standard's block, and its example.
-/
import Derived.Test.YtljmkleppoacaaaAesL
import Derived.Test.YtljmkleppoacaaaAesN
import Derived.Test.YtljmkleppoacaaaAesP
namespace Go.Proofs.Ytljmkleppoacaaa
open Go Go.RowKit
set_option linter.unusedVariables false
set_option linter.unusedSimpArgs false

theorem Ci.go {r : Nat} {w w' : World} {c : Nat} {F : Nat → Nat} (hb : Below w.heap.size w w') (h : Ci r w c F) : Ci r w' c F := Ci.below (B := 0) hb h
/-- An operation that is wanted, guarded or not. -/
theorem wpList_load_row_g {P : Program} {ops : Array Oper} {rest : List Oper} {o : Oper} {a : Act} {w : World} {Q : Exit → Act → World → Prop} (hw : Region.wanted o (yielded ops a.tmps) = true) (ty : TypeId) (x : Operand) (ho : o.op = .load ty x)
    (g : Nat) (hx : a.eval x = .pointer (some ⟨g, 0, none⟩)) (t : TypeId) (cs : Array Value) (fr : Nat × Nat) (d : TypeDesc) (hg : w.heap[g]? = some (.cells cs t fr))
    (hu : P.underlying ty = some d) (hd : d.isRow = true) (hi : (P.info? ty).map (·.size) = some cs.size)
    (h : wpList P ops Q rest (a.put o.dst (.agg cs)) w) : wpList P ops Q (o :: rest) a w :=
  wpList_step fun K hK => by
    rw [if_pos hw]
    refine wp_load_row ty x ho g hx t cs fr d hg hu ?_ hi (hK _ _ h)
    cases d <;> simp_all
theorem own_cap {w : World} {base e n c : Nat} {A : Option Addr} {xs : List Value} (h : w.ownsRow base e 1 (.slice A n c) n xs) : n ≤ c := by
  obtain ⟨_, hv⟩ := h
  rcases hv with ⟨_, h0⟩ | ⟨g, cap, cur, hv, _, _, hnc, _⟩
  · omega
  · injection hv with _ _ h3
    omega

set_option maxRecDepth 100000 in
set_option maxHeartbeats 1000000 in
theorem count_any (N : Nat) (hN : N ≤ 100) (w : World) :
    Calls Try.prog 20 #[.int .i64 0, .int .i64 (N : Int)] w fun e w' => ∃ v, e = .returned v ∧ w'.ownsRow w.heap.size 5 1 v N (vn (List.range N)) ∧ Below w.heap.size w w' := by
  obtain ⟨i0, hi, hz0, hz1, hz2⟩ := info_parts info_b
  have HI := Lib.hid hi; clear hi
  have hNI : (N : Int) ≤ 100 := by omega
  go_enter Try.func20, Try.ntmps20
  go_wp2_with fail
  go_loopw [5, 6] (fun v i wr => ∃ k : Nat, k ≤ N ∧ i = .int .i64 (k : Int) ∧ Hid (wr.ownsRow w.heap.size 5 1 v k (vn (List.range k))) ∧ Hid (Below w.heap.size w wr)) (fun _ i _ => N - (intOf i).toNat)
  case atStart => exact ⟨0, by omega, rfl, Lib.hid (World.ownsRow_nil _ _ _ _), Lib.hid (Below.refl _ _)⟩
  case round =>
    obtain ⟨k, hk, rfl, HT, HB⟩ := hrel
    by_cases hlt : k < N
    · have hk1 : (k : Int) < (N : Int) := by omega
      have hk0 : (0 : Int) ≤ (k : Int) := by omega
      have hk2 : (k : Int) ≤ 255 := by omega
      have e8 : IntKind.u8.wrap (k : Int) = (k : Int) := IntWalk.u8_in _ (by omega)
      have hi := HI.out
      have hT := HT.out
      have hsz := HB.out.size
      go_wp2_with (at_builtin; go_loud (refine wpList_append_lies _ rfl (.tmp 12) (.tmp 17) _ rfl w.heap.size 5 i0 _ 1 1 Try.underlying22 hi hz0 hz1 hz2 rfl (by omega) u5 k _ rfl (hT.alloc _) ⟨_, 0, none⟩ 1 1 [.int .u8 (k : Int)] rfl rfl (World.news_of_block (cs := #[.int .u8 (k : Int)]) (t := 5) (fr := (0, 0)) (heap_alloc_new _ _)) (by simp [Value.oneCell']) (by omega) (by unfold maxLen; omega) (by omega) (by simp; omega) (wr.heap.size + 1) (by simp) ?_; intro gg cap2 w2 hown2 hgrow hat hlt2))
      go_roundw
      case rel =>
        refine ⟨k + 1, by omega, by go_num, Lib.hid ?_, Lib.hid ((HB.out.alloc hsz _).grown hgrow (by simp; omega) (fun k hk => (hT.lt k hk).1))⟩
        rw [vn_snoc, ← List.range_succ] at hown2
        exact hown2
      case measure => simp [intOf]; omega
    · obtain rfl : k = N := by omega
      go_wp2_with fail
      go_ret
      exact ⟨_, rfl, HT.out, HB.out⟩

/-- The first k bytes of the block. -/
def blkK (k i : Nat) : Nat := if i < k then 17 * i else 0
set_option maxRecDepth 100000 in
set_option maxHeartbeats 1000000 in
theorem block_any (w : World) :
    Calls Try.prog 21 #[] w fun e w' => e = .returned (.agg (aN 16 blkF)) ∧ Below w.heap.size w w' := by
  go_enter Try.func21, Try.ntmps21
  go_wp2_with fail
  go_loopw [3] (fun i wr => ∃ k : Nat, k ≤ 16 ∧ i = .int .i64 k ∧ Hid (H16 wr w.heap.size fun _ => 0) ∧ Hid (H16 wr (w.heap.size + 1) (blkK k)) ∧ Hid (Below w.heap.size w wr)) (fun i _ => 16 - (intOf i).toNat)
  case atStart =>
    refine ⟨0, by omega, rfl, Lib.hid ?_, Lib.hid ?_, Lib.hid (((Below.refl _ _).alloc (Nat.le_refl _) _).alloc (by simp) _)⟩
    · exact H16.alloc _ (H16.newAt (f := fun _ => 0) rfl)
    · refine H16.congr (f := fun _ => 0) ?_ (fun i _ => by simp [blkK])
      exact H16.newAt (w := w.alloc (.cells (aN 16 fun _ => 0) 35)) (b := w.heap.size + 1) (f := fun _ => 0) (by rw [World.size_alloc])
  case round =>
    obtain ⟨k, hk, rfl, H0, H1, HB⟩ := hrel
    by_cases hlt : k < 16
    · have hk16 : (k : Int) < 16 := by omega
      have c1 := H1.out.cell k hlt
      have f1 := H1.out.free k
      have e8 : IntKind.u8.wrap (17 * (k : Int)) = ((17 * k : Nat) : Int) := (IntWalk.u8_in _ (by omega)).trans (by omega)
      go_wp2_with fail
      go_roundw
      case rel =>
        refine ⟨k + 1, by omega, by go_num, Lib.hid (H0.out.other _ (by simp) _), Lib.hid ?_, Lib.hid (HB.out.setCell (by simp) _)⟩
        exact H1.out.set k (17 * k) hlt (by simp [blkK]) fun i hi hik => by
          unfold blkK
          by_cases h1 : i < k
          · rw [if_pos h1, if_pos (by omega)]
          · rw [if_neg h1, if_neg (by omega)]
      case measure => simp [intOf]; omega
    · obtain rfl : k = 16 := by omega
      have d1 : wr.heap[w.heap.size + 1]? = some (.cells (aN 16 blkF) 35 (0, 0)) := H1.out.congr fun i hi => by unfold blkK blkF; rw [if_pos hi]
      have d0 : wr.heap[w.heap.size]? = some (.cells (aN 16 fun _ => 0) 35 (0, 0)) := H0.out
      go_wp2_with (first
        | (refine wpList_load_row rfl 35 (.tmp 1) rfl (w.heap.size + 1) rfl 35 (aN 16 blkF) (0, 0) (.array 16 5) d1 Try.underlying35 rfl (by rw [aN_size]; kernel_rfl) ?_)
        | (refine wpList_store_row rfl 35 (.tmp 0) (.tmp 12) rfl w.heap.size (aN 16 blkF) rfl rfl 35 _ d0 (by rw [aN_size]; kernel_rfl) (by rw [aN_size, aN_size]) (aN_one _ _) ?_))
      refine bodyPost_ret (v := .agg (aN 16 blkF)) (results_cell_row (p := 0) (ty := 35) (by kernel_rfl) _ _ w.heap.size 35 (aN 16 blkF) (0, 0) (.array 16 5) rfl ?_ Try.underlying35 rfl (by rw [aN_size]; kernel_rfl)) rfl ⟨rfl, ?_⟩
      · exact setRow_heap _ _ _ _ _ _ d0
      · exact below_setRow HB.out _ (by omega) _

theorem blkF_lt : B16 blkF := fun i hi => by unfold blkF; omega
theorem range_lt (N : Nat) (hN : N ≤ 256) : ∀ x ∈ List.range N, x < 256 := fun x hx => by have := List.mem_range.mp hx; omega
theorem keyA_range : List.range 16 = keyA := by decide
theorem keyB_range : List.range 32 = keyB := by decide
theorem lit_outA : (#[.int .u8 105, .int .u8 196, .int .u8 224, .int .u8 216, .int .u8 106, .int .u8 123, .int .u8 4, .int .u8 48, .int .u8 216, .int .u8 205, .int .u8 183, .int .u8 128, .int .u8 112, .int .u8 180, .int .u8 197, .int .u8 90] : Array Value) = aN 16 outA := rfl
theorem eq_outA (w : World) : (Op.equalIn 10000 35 (.agg (aN 16 outA)) (.agg #[.int .u8 105, .int .u8 196, .int .u8 224, .int .u8 216, .int .u8 106, .int .u8 123, .int .u8 4, .int .u8 48, .int .u8 216, .int .u8 205, .int .u8 183, .int .u8 128, .int .u8 112, .int .u8 180, .int .u8 197, .int .u8 90])).run Try.prog w = .ok true w := by
  rw [lit_outA, eqin16, sameB_true (E16.refl _)]
/-- A whole array, loaded, as the walk meets it. -/
theorem load16 {w : World} {b : Nat} {f : Nat → Nat} (h : H16 w b f) : (Instr.loadAt 35 (.pointer (some ⟨b, 0, none⟩))).run Try.prog w = .ok (.agg (aN 16 f)) w :=
  run_loadAt_mid w b 0 35 (vl 16 f) (.array 16 5) (HT.range (t := 35) h) Try.underlying35 rfl (by rw [vl_len]; exact block_size)

set_option maxRecDepth 100000 in
set_option maxHeartbeats 2000000 in
theorem known03_any (w : World) :
    Calls Try.prog 14 #[] w fun e w' => e = .returned (.bool true) ∧ Below w.heap.size w w' := by
  have q := eq_outA
  have g := guard16
  go_enter Try.func14, Try.ntmps14
  go_wp2_with fail
  have hc := count_any 16 (by omega) w
  rw [show ((16 : Nat) : Int) = 16 from rfl] at hc
  refine hc.mono ?_
  rintro e w1 ⟨v, rfl, hown, hb1⟩
  clear hc
  obtain ⟨A5, c5, rfl, hlen, hrd⟩ := Rd.of_own hown
  have hcap : 16 ≤ c5 := own_cap hown
  have hn := new16_any A5 (List.range 16) c5 (by simp) hcap (range_lt 16 (by omega)) w1 hrd
  have HN := Lib.hid hn; clear hn
  clear hown hlen hrd
  go_wp2_with fail
  refine HN.out.mono ?_
  rintro e w2 ⟨c, rfl, hci, hb2⟩
  clear HN
  have hB2 : Below w.heap.size w w2 := hb1.trans (hb2.mono hb1.size)
  clear hb1 hb2
  have hb16 : E16 (enc (kF (List.range 16)) 10 blkF) outA := by rw [keyA_range]; exact knownA
  have HE := Lib.hid hb16; clear hb16
  go_wp2_with fail
  refine (block_any _).mono ?_
  rintro e w3 ⟨rfl, hb3⟩
  have hci3 := Ci.go hb3 hci
  have hB3 := hB2.trans (hb3.mono hB2.size)
  clear hci hB2 hb3
  have hen := encrypt_any 10 (kF (List.range 16)) blkF c w3 (by omega) (by omega) blkF_lt (kF_bk _ (range_lt 16 (by omega)) 10) hci3
  rw [aN_congr HE.out] at hen
  have HEN := Lib.hid hen; clear hen
  clear hci3
  go_wp2_with fail
  refine HEN.out.mono ?_
  rintro e w4 ⟨rfl, hb4⟩
  have hB4 := hB3.trans (hb4.mono hB3.size)
  clear hB3 hb4 HEN
  have d4 : (w4.alloc (.cells #[.int .u8 0, .int .u8 0, .int .u8 0, .int .u8 0, .int .u8 0, .int .u8 0, .int .u8 0, .int .u8 0, .int .u8 0, .int .u8 0, .int .u8 0, .int .u8 0, .int .u8 0, .int .u8 0, .int .u8 0, .int .u8 0] 35)).heap[w4.heap.size]? = some (.cells (aN 16 fun _ => 0) 35 (0, 0)) := H16.newAt (f := fun _ => 0) rfl
  go_upto_region 5 with (refine wpList_store_row rfl 35 (.tmp 3) (.tmp 20) rfl w4.heap.size (aN 16 outA) rfl rfl 35 _ d4 (by rw [aN_size]; kernel_rfl) (by rw [aN_size, aN_size]) (aN_one _ _) ?_)
  have h5 : H16 ((w4.alloc (.cells #[.int .u8 0, .int .u8 0, .int .u8 0, .int .u8 0, .int .u8 0, .int .u8 0, .int .u8 0, .int .u8 0, .int .u8 0, .int .u8 0, .int .u8 0, .int .u8 0, .int .u8 0, .int .u8 0, .int .u8 0, .int .u8 0] 35)).setRow w4.heap.size (aN 16 outA)) w4.heap.size outA := setRow_heap _ _ _ _ _ _ d4
  have hB5 : Below w.heap.size w ((w4.alloc (.cells #[.int .u8 0, .int .u8 0, .int .u8 0, .int .u8 0, .int .u8 0, .int .u8 0, .int .u8 0, .int .u8 0, .int .u8 0, .int .u8 0, .int .u8 0, .int .u8 0, .int .u8 0, .int .u8 0, .int .u8 0, .int .u8 0] 35)).setRow w4.heap.size (aN 16 outA)) := below_setRow (hB4.alloc hB4.size _) _ hB4.size _
  clear hB4 d4
  generalize (w4.alloc (.cells #[.int .u8 0, .int .u8 0, .int .u8 0, .int .u8 0, .int .u8 0, .int .u8 0, .int .u8 0, .int .u8 0, .int .u8 0, .int .u8 0, .int .u8 0, .int .u8 0, .int .u8 0, .int .u8 0, .int .u8 0, .int .u8 0] 35)).setRow w4.heap.size (aN 16 outA) = w5 at *
  have d5 : w5.heap[w4.heap.size]? = some (.cells (aN 16 outA) 35 (0, 0)) := h5
  have HB5 := Lib.hid hB5; clear hB5 h5 HE
  go_wp2_with (refine wpList_load_row_g (by rfl) 35 (.tmp 3) rfl w4.heap.size rfl 35 (aN 16 outA) (0, 0) (.array 16 5) d5 Try.underlying35 rfl (by rw [aN_size]; kernel_rfl) ?_)
  go_ret
  exact ⟨rfl, HB5.out⟩
end Go.Proofs.Ytljmkleppoacaaa
