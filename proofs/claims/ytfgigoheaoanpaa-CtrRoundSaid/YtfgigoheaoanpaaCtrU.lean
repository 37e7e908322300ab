/-
  The code's Next by octet's Get and Put and a copy.
-/
import Derived.Test.YtfgigoheaoanpaaCtrD
import Derived.Test.YtfgigoheaoanpaaOctB
import Derived.Test.YtfgigoheaoanpaaOctC
import Derived.Test.YtfgigoheaoanpaaByt
import Derived.Test.YtfgigoheaoanpaaRefA
import Derived.Test.YtfgigoheaoanpaaAesG
import Derived.Test.YtfgigoheaoanpaaPie
namespace Go.Proofs.Ytfgigoheaoanpaa
open Go Go.RowKit
set_option linter.unusedVariables false
set_option linter.unusedSimpArgs false

theorem nx_splice (f : Nat → Nat) (h : B16 f) : splice (vl 16 f) 12 (vb (be ((ctN f + 1) % 4294967296) 4)) = vl 16 (nxF f) := by
  have hl : (vb (be ((ctN f + 1) % 4294967296) 4)).length = 4 := by simp [be_len]
  apply List.ext_getElem?
  intro i
  unfold splice
  rw [hl]
  by_cases h1 : i < 12
  · rw [List.getElem?_append_left (by simp [vl_len]; omega), List.getElem?_take, if_pos h1, vl_get 16 f i (by omega), vl_get 16 _ i (by omega), nxF_first f i h1]
  · rw [List.getElem?_append_right (by simp [vl_len]; omega)]
    simp only [List.length_take, vl_len]
    rw [show min 12 16 = 12 from rfl]
    by_cases h2 : i < 16
    · rw [List.getElem?_append_left (by omega), be_four f (i - 12) (by omega), vl_get 16 _ i h2, show 12 + (i - 12) = i from by omega]
    · rw [List.getElem?_append_right (by omega), List.getElem?_drop, List.getElem?_eq_none (by rw [vl_len]; omega), List.getElem?_eq_none (by rw [vl_len]; omega)]

/-- A copy into a row: the world is told. -/
theorem wpList_copy_set {P : Program} {w : World} {ops : Array Oper} {rest : List Oper} {o : Oper} {a : Act} {Q : Exit → Act → World → Prop} (hgd : o.guard = none) (d s : Operand) (dT sT : TypeId)
    (ho : o.op = .call { callee := .builtin .copy, args := #[d, s], argTypes := #[dT, sT] }) (elem : TypeId) (hu : P.underlying dT = some (.slice elem)) (hsz : (P.info? elem).map (·.size) = some 1)
    (g off dLen dCap : Nat) (ad : Addr) (sLen sCap : Nat) (hd : a.eval d = .slice (some ⟨g, off, none⟩) dLen dCap) (hs : a.eval s = .slice (some ad) sLen sCap)
    (cur : List Value) (t : TypeId) (hg : w.heap[g]? = some (.cells cur.toArray t (0, 0))) (cs : List Value) (hn : cs.length = Nat.min sLen dLen)
    (hsrc : ∀ j v, cs[j]? = some v → w.cell? (ad.add j) = some v) (hfit : off + cs.length ≤ cur.length) (h1 : ∀ v ∈ cs, v.oneCell' = true)
    (h : ∀ w', Hid (w' = w.setRow g (splice cur off cs).toArray) → wpList P ops Q rest (a.put o.dst (goInt cs.length)) w') :
    wpList P ops Q (o :: rest) a w :=
  wpList_copy_own hgd d s dT sT ho elem hu hsz g off dLen dCap ad sLen sCap hd hs cur.toArray t hg cs hn hsrc (by simpa using hfit) h1 (h _ (show _ = _ by simp [splice]))

set_option maxRecDepth 100000 in
set_option maxHeartbeats 4000000 in
theorem cnext_any (f : Nat → Nat) (w : World) (hf : B16 f) :
    Calls Try.prog 10 #[.agg (aN 16 f)] w fun e w' => e = .returned (.agg (aN 16 (nxF f))) ∧ Below w.heap.size w w' := by
  have hsz : (Try.prog.info? 5).map (·.size) = some 1 := by kernel_rfl
  have h1 : H16 ((w.alloc (.cells (aN 16 f) 23)).alloc (.cells (aN 16 fun _ => 0) 23)) w.heap.size f := H16.alloc _ (H16.newAt rfl)
  have h2 : H16 ((w.alloc (.cells (aN 16 f) 23)).alloc (.cells (aN 16 fun _ => 0) 23)) (w.heap.size + 1) fun _ => 0 := H16.newAt (w := w.alloc (.cells (aN 16 f) 23)) (by rw [World.size_alloc])
  have hB : Below w.heap.size w ((w.alloc (.cells (aN 16 f) 23)).alloc (.cells (aN 16 fun _ => 0) 23)) := ((Below.refl _ _).alloc (Nat.le_refl _) _).alloc (by simp) _
  have H1 := Lib.hid h1; clear h1
  have H2 := Lib.hid h2; clear h2
  have HB := Lib.hid hB; clear hB
  have HF := Lib.hid hf
  obtain ⟨cn, hcn⟩ : ∃ cn, cn = ctN f := ⟨_, rfl⟩
  have hcl : cn < 4294967296 := by rw [hcn]; exact ctN_lt f HF.out
  obtain ⟨cm, hcm⟩ : ∃ cm, cm = (cn + 1) % 4294967296 := ⟨_, rfl⟩
  have hcml : cm < 4294967296 := by omega
  have hw1 : IntKind.u32.wrap (cn : Int) = (cn : Int) := by rw [IntKind.wrap_u32]; omega
  have hw2 : IntKind.u32.wrap ((cn : Int) + 1) = (cm : Int) := by rw [IntKind.wrap_u32]; omega
  have hw4 : (cn : Int) % 4294967296 = (cn : Int) := by omega
  have hw5 : ((cn : Int) + 1) % 4294967296 = (cm : Int) := by omega
  have hw3 : IntKind.u64.wrap (cm : Int) = (cm : Int) := IntWalk.u64_in _ (by omega)
  have HS := Lib.hid (show splice (vl 16 f) 12 (vb (be cm 4)) = vl 16 (nxF f) by rw [hcm, hcn]; exact nx_splice f HF.out)
  have HC := Lib.hid hcn; clear hcn hcm hf
  go_enter Try.func10, Try.ntmps10
  go_upto_region 1 with fail
  rw [zero16]
  generalize (w.alloc (.cells (aN 16 f) 23)).alloc (.cells (aN 16 fun _ => 0) 23) = w1 at *
  go_wp2_with fail
  refine (get_any _ (byF f 12 4) 4 4 (byF_len _ _ _) w1 (by decide) (by decide) (H1.out.rd HF.out 12 4 (by decide))).mono ?_
  rintro e w2 ⟨rfl, rfl⟩
  rw [num_four f HF.out, ← HC.out]
  go_wp2_with fail
  refine (put_any cm 4 w2 (by omega) (by omega) (by decide) (by decide)).mono ?_
  rintro e w3 ⟨v, rfl, hown, hb3⟩
  obtain ⟨A1, cap1, rfl, _, hr1⟩ := Rd.of_own hown
  have d1 : w3.heap[w.heap.size]? = some (.cells (vl 16 f).toArray 23 (0, 0)) := H1.out.call hb3
  obtain ⟨ad, rfl, hab, hac⟩ := hr1 (by simp [be_len])
  replace H2 := Lib.hid (H2.out.call hb3)
  replace HB : Hid (Below w.heap.size w w3) := Lib.hid (HB.out.trans (hb3.mono HB.out.size))
  have HAC := Lib.hid hac; clear hac
  clear hown hr1 hb3 H1
  try clear w1 w2
  go_wp2_with (first
    | ((with_reducible show wpList _ _ _ _ _ _); refine wpList_copy_set (o := ⟨some 22, _, _, _, _, _⟩) rfl (.tmp 20) (.tmp 21) 22 22 rfl 5 Try.underlying22 hsz w.heap.size 12 4 4 ad 4 cap1 rfl rfl (vl 16 f) 23 d1 (vb (be cm 4)) (by simp [be_len]) (fun j v hv => HAC.out j v hv) (by simp [be_len, vl_len]) (vb_onec _) ?_))
  intro w4 hw4
  have d2 : w4.heap[w.heap.size]? = some (.cells (aN 16 (nxF f)) 23 (0, 0)) := by rw [hw4.out, HS.out]; exact setRow_heap _ _ _ _ _ _ d1
  have d3 : w4.heap[w.heap.size + 1]? = some (.cells (aN 16 fun _ => 0) 23 (0, 0)) := by rw [hw4.out]; exact (setRow_other _ _ _ _ (by omega)).trans H2.out
  have hb4 : Below w.heap.size w w4 := by rw [hw4.out]; exact below_row HB.out _ (Nat.le_refl _) _
  clear hw4 d1 HAC H2 HB
  try clear w3
  go_wp2_with (first
    | (refine wpList_load_row rfl 23 (.tmp 1) rfl w.heap.size rfl 23 (aN 16 (nxF f)) (0, 0) (.array 16 5) d2 Try.underlying23 rfl (by rw [aN_size]; exact blk_size) ?_)
    | (refine wpList_store_row rfl 23 (.tmp 2) (.tmp 23) rfl (w.heap.size + 1) (aN 16 (nxF f)) rfl rfl 23 _ d3 (by rw [aN_size]; exact blk_size) (by simp only [aN_size]) (aN_one _ _) ?_))
  refine bodyPost_ret (blk_ret (p := 2) (by kernel_rfl) _ _ (w.heap.size + 1) _ rfl ?_) rfl ⟨rfl, ?_⟩
  · exact setRow_heap _ _ _ _ _ _ d3
  · exact below_row hb4 _ (by omega) _
end Go.Proofs.Ytfgigoheaoanpaa
