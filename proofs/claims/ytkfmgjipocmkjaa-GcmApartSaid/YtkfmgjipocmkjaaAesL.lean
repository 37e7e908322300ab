/-
  The code's block enciphered and deciphered. (Printed by wip/gen/aesenc.py.)
-/
import Derived.Test.YtkfmgjipocmkjaaFoldF
import Derived.Deep.Upon
import Derived.Laws.ResultCell
namespace Go.Proofs.Ytkfmgjipocmkjaa
open Go Go.RowKit
set_option linter.unusedVariables false
set_option linter.unusedSimpArgs false

section
variable {n : Nat} {t : TypeId} {w w' : World} {b : Nat} {f z : Nat → Nat}
theorem HV.range (h : HV n t w b f) (o m : Nat) (hm : o + m ≤ n) : w.rangeAt b o (vl m fun i => f (o + i)) := fun j v hj => by
  have hl : j < m := by have := (List.getElem?_eq_some_iff.1 hj).1; rwa [vl_len] at this
  rw [vl_get _ _ _ hl] at hj
  rw [h.cell (o + j) (by omega), ← hj]
theorem HV.there (h : HV n t w b f) (o m : Nat) (hm : o + m ≤ n) : w.there b o m := fun j hj => by
  rw [h.cell (o + j) (by omega)]
  exact ⟨rfl, h.free _⟩
theorem HT.range (h : HT t w b f) : w.rangeAt b 0 (vl 16 f) := fun j v hj => by
  have hl : j < 16 := by have := (List.getElem?_eq_some_iff.1 hj).1; rwa [vl_len] at this
  rw [vl_get _ _ _ hl] at hj
  rw [Nat.zero_add, h.cell j hl, ← hj]
theorem HT.there (h : HT t w b f) : w.there b 0 16 := fun j hj => by
  rw [Nat.zero_add, h.cell j hj]
  exact ⟨rfl, h.free _⟩
theorem range_call {o : Nat} {cs : List Value} (hb : Below w.heap.size w w') (h : w.rangeAt b o cs) : w'.rangeAt b o cs := fun j v hj => cell_call hb (h j v hj)
theorem there_call {o m : Nat} (hb : Below w.heap.size w w') (h : w.there b o m) : w'.there b o m := fun j hj => by
  obtain ⟨h1, h2⟩ := h j hj
  obtain ⟨u, hu⟩ := Option.isSome_iff_exists.1 h1
  have hl := block_lt_of_cell hu
  exact ⟨by rw [hb.cell hl]; exact h1, by rw [hb.frozen hl]; exact h2⟩
theorem there_new (X : World) (f : Nat → Nat) (t : TypeId) : (X.alloc (.cells (aN 16 f) t)).there X.heap.size 0 16 := HT.there (HT.newAt rfl)
theorem HV.setCells (l : List Nat) : ∀ (o : Nat) (w : World) (f : Nat → Nat), HV n t w b f → o + l.length ≤ n → HV n t (w.setCells b o (l.map fun (x : Nat) => Value.int .u8 (x : Int))) b (fun i => if o ≤ i ∧ i < o + l.length then l.getD (i - o) 0 else f i) := by
  induction l with
  | nil =>
    intro o w f h _
    exact h.congr fun i _ => by rw [if_neg (by simp)]
  | cons x l ih =>
    intro o w f h ho
    simp only [List.length_cons] at ho
    have h1 := HV.set (z := fun i => if i = o then x else f i) h o x (by omega) (by simp) (fun j _ hj => by rw [if_neg hj])
    have h2 := ih (o + 1) _ _ h1 (by omega)
    refine HV.congr h2 fun i _ => ?_
    simp only [List.length_cons]
    by_cases e : i = o
    · subst e
      rw [if_neg (by omega), if_pos rfl, if_pos (by omega), Nat.sub_self]; rfl
    · by_cases e2 : o + 1 ≤ i ∧ i < o + 1 + l.length
      · rw [if_pos e2, if_pos (by omega), show i - o = (i - (o + 1)) + 1 from by omega]; rfl
      · rw [if_neg e2, if_neg e, if_neg (by omega)]
theorem HT.setCells (h : HT t w b f) (g : Nat → Nat) : HT t (w.setCells b 0 (vl 16 g)) b g := by
  have e : vl 16 g = ((List.range 16).map g).map fun (x : Nat) => Value.int .u8 (x : Int) := by simp [vl]
  rw [e]
  have h1 : HV 16 t w b f := h
  exact HV.congr (HV.setCells ((List.range 16).map g) 0 w f h1 (by simp)) fun i hi => by
    rw [if_pos (by simpa using hi), Nat.sub_zero, List.getD, List.getElem?_map, List.getElem?_range hi]; rfl
theorem below_setCells {B : Nat} (h : Below B w w') (hB : B ≤ b) (vs : List Value) : ∀ o, Below B w (w'.setCells b o vs) := by
  induction vs generalizing w' with
  | nil => exact fun _ => h
  | cons v vs ih => exact fun o => ih (h.setCell (p := ⟨b, o, none⟩) hB v) (o + 1)
theorem heap_setCells_far {g : Nat} (vs : List Value) (hg : g ≠ b) : ∀ (o : Nat) (w : World), (w.setCells b o vs).heap[g]? = w.heap[g]? := by
  induction vs with
  | nil => exact fun _ _ => rfl
  | cons v vs ih => exact fun o w => (ih (o + 1) _).trans (heap_setCell_other _ _ _ _ hg)
end
theorem there_zero (t : TypeId) (X : World) : (X.alloc (.cells #[.int .u8 0, .int .u8 0, .int .u8 0, .int .u8 0, .int .u8 0, .int .u8 0, .int .u8 0, .int .u8 0, .int .u8 0, .int .u8 0, .int .u8 0, .int .u8 0, .int .u8 0, .int .u8 0, .int .u8 0, .int .u8 0] t)).there X.heap.size 0 16 := there_new X (fun _ => 0) t
theorem round_start {w : World} {B g c j n : Nat} {v : Value} {t t' : TypeId} {f F : Nat → Nat} (h2 : Hid (w.cell? ⟨c, 0, none⟩ = some v)) (h3 : Hid (HV (16 * (n + 1)) t' w g F)) (h1 : Hid (HT t w B f)) (hj : j ≤ n) :
    w.drew.cell? ⟨c, 0, none⟩ = some v ∧ w.drew.rangeAt g (j * 16) (vl 16 (rk F j)) ∧ w.drew.there B 0 16 := by
  refine ⟨h2.out, ?_, h1.out.drew.there⟩
  have := h3.out.drew.range (j * 16) 16 (by omega)
  have e : (fun i => F (j * 16 + i)) = rk F j := by funext i; unfold rk; rw [Nat.mul_comm]
  rwa [e] at this
theorem round_start0 {w : World} {B g c n : Nat} {v : Value} {t t' : TypeId} {f F : Nat → Nat} (h2 : Hid (w.cell? ⟨c, 0, none⟩ = some v)) (h3 : Hid (HV (16 * (n + 1)) t' w g F)) (h1 : Hid (HT t w B f)) :
    w.drew.cell? ⟨c, 0, none⟩ = some v ∧ w.drew.rangeAt g 0 (vl 16 (rk F 0)) ∧ w.drew.there B 0 16 := by
  have := round_start h2 h3 h1 (Nat.zero_le n)
  rwa [Nat.zero_mul] at this
theorem held_last {w1 w' : World} {B g c n : Nat} {v : Value} {t t' : TypeId} {b F : Nat → Nat} (h1 : Hid (HT t w1 B b)) (h2 : Hid (w1.cell? ⟨c, 0, none⟩ = some v)) (h3 : Hid (HV (16 * (n + 1)) t' w1 g F)) (h : Below w1.heap.size w1 w') :
    w'.rangeAt B 0 (vl 16 b) ∧ w'.cell? ⟨c, 0, none⟩ = some v ∧ w'.rangeAt g (n * 16) (vl 16 (rk F n)) ∧ Below w1.heap.size w1 w' := by
  refine ⟨(h1.out.call h).range, cell_call h h2.out, ?_, h⟩
  have := (h3.out.call h).range (n * 16) 16 (by omega)
  have e : (fun i => F (n * 16 + i)) = rk F n := by funext i; unfold rk; rw [Nat.mul_comm]
  rwa [e] at this
theorem round_store {w : World} {B g c o : Nat} {v : Value} {cs vs : List Value} (hc : c ≠ B) (hg : g ≠ B) (h : w.cell? ⟨c, 0, none⟩ = some v ∧ w.rangeAt g o cs ∧ w.there B 0 16) :
    (w.setCells B 0 vs).cell? ⟨c, 0, none⟩ = some v ∧ (w.setCells B 0 vs).rangeAt g o cs ∧ (w.setCells B 0 vs).there B 0 16 :=
  ⟨by rw [World.cell?_setCells_out B vs 0 w ⟨c, 0, none⟩ (fun e _ => absurd e hc)]; exact h.1, World.rangeAt_setCells_apart h.2.1 _ _ _ (.inl hg), World.there_setCells h.2.2 _ _ _⟩
/-- What the first step of a block is held to. -/
theorem held_first {w1 w' : World} {B g c n : Nat} {v : Value} {t t' : TypeId} {b F : Nat → Nat} (h1 : Hid (HT t w1 B b)) (h2 : Hid (w1.cell? ⟨c, 0, none⟩ = some v)) (h3 : Hid (HV (16 * (n + 1)) t' w1 g F)) (h : Below w1.heap.size w1 w') :
    w'.rangeAt B 0 (vl 16 b) ∧ w'.cell? ⟨c, 0, none⟩ = some v ∧ w'.rangeAt g 0 (vl 16 (rk F 0)) ∧ Below w1.heap.size w1 w' := by
  refine ⟨(h1.out.call h).range, cell_call h h2.out, ?_, h⟩
  have := (h3.out.call h).range 0 16 (by omega)
  have e : (fun i => F (0 + i)) = rk F 0 := rfl
  rwa [e] at this
theorem results_two_row {fn : Func} {p u : Tmp} {ty : TypeId} (h : fn.results = #[.cell p ty, .tmp u]) (tmps : Array Value) (w : World) (g : Nat) (t : TypeId) (cs : Array Value) (fr : Nat × Nat) (m el : Nat) (v : Value)
    (hp : tmps.getD p undef = .pointer (some ⟨g, 0, none⟩)) (hv : tmps.getD u undef = v) (hg : w.heap[g]? = some (.cells cs t fr))
    (hu : Try.prog.underlying ty = some (.array m el)) (hi : (Try.prog.info? ty).map (·.size) = some cs.size) :
    (results fn tmps).run Try.prog w = .ok (.tuple #[.agg cs, v]) w := by
  rw [results_cell_tmp h]
  have hp' : tmps[p]?.getD undef = .pointer (some ⟨g, 0, none⟩) := by simpa using hp
  have hv' : tmps[u]?.getD undef = v := by simpa using hv
  simp [hp', hv', asAddr, run_loadVar_row w g t ty cs fr (.array m el) hg hu rfl hi]
theorem state_size : (Try.prog.info? 66).map (·.size) = some 16 := by kernel_rfl
theorem block_size : (Try.prog.info? 35).map (·.size) = some 16 := by kernel_rfl

set_option maxRecDepth 100000 in
theorem missing_no (r : Nat) (w : World) (c : Nat) (F : Nat → Nat) (h : Ci r w c F) :
    Calls Try.prog 37 #[.pointer (some ⟨c, 0, none⟩)] w fun e w' => e = .returned (.bool false) ∧ w' = w := by
  obtain ⟨g, h1, -⟩ := h
  have hc : w.cell? ⟨c, 0, none⟩ = some (.slice (some ⟨g, 0, none⟩) (r + 1) (r + 1)) := by rw [cell_of_row _ _ _ _ _ _ h1]; rfl
  have hr : (((r + 1 : Nat) : Int) == 0) = false := by rw [beq_eq_false_iff_ne]; omega
  obtain ⟨s, hs⟩ : ∃ s, s = r + 1 := ⟨_, rfl⟩
  rw [← hs] at hc hr
  clear hs h1
  go_enter Try.func37, Try.ntmps37
  go_wp2_with fail
  go_ret
  exact ⟨rfl, rfl⟩
set_option maxRecDepth 100000 in
theorem missing_yes (w : World) :
    Calls Try.prog 37 #[.pointer none] w fun e w' => e = .returned (.bool true) ∧ w' = w := by
  go_enter Try.func37, Try.ntmps37
  go_wp2_with fail
  go_ret
  exact ⟨rfl, rfl⟩

set_option maxRecDepth 100000 in
set_option maxHeartbeats 4000000 in
theorem encrypt_any (r : Nat) (F b : Nat → Nat) (c : Nat) (w : World) (hr : 1 ≤ r) (hr' : r ≤ 14) (hb : B16 b) (hk : BK F r) (h : Ci r w c F) :
    Calls Try.prog 26 #[.pointer (some ⟨c, 0, none⟩), .agg (aN 16 b)] w fun e w' => e = .returned (.tuple #[.agg (aN 16 (enc F r b)), .int .i64 0]) ∧ Below w.heap.size w w' := by
  have h2 := (h.alloc (.cells (aN 16 b) 35)).alloc (.cells (aN 16 fun _ => 0) 35)
  have h3 : HT 35 ((w.alloc (.cells (aN 16 b) 35)).alloc (.cells (aN 16 fun _ => 0) 35)) w.heap.size b := (HT.newAt rfl).alloc _
  have h4 : HT 35 ((w.alloc (.cells (aN 16 b) 35)).alloc (.cells (aN 16 fun _ => 0) 35)) (w.heap.size + 1) fun _ => 0 := HT.newAt (w := w.alloc (.cells (aN 16 b) 35)) (by rw [World.size_alloc])
  have hB : Below w.heap.size w ((w.alloc (.cells (aN 16 b) 35)).alloc (.cells (aN 16 fun _ => 0) 35)) := ((Below.refl _ _).alloc (Nat.le_refl _) _).alloc (by simp) _
  have hm := missing_no r _ c F h2
  have HC := Lib.hid h2; clear h2 h
  have H3 := Lib.hid h3; clear h3
  have H4 := Lib.hid h4; clear h4
  have HB := Lib.hid hB; clear hB
  have HM := Lib.hid hm; clear hm
  have HBB := Lib.hid hb; clear hb
  have HK := Lib.hid hk; clear hk
  go_enter Try.func26, Try.ntmps26
  go_wp2_with fail
  rw [zero16]
  generalize (w.alloc (.cells (aN 16 b) 35)).alloc (.cells (aN 16 fun _ => 0) 35) = w0 at *
  refine HM.out.mono ?_
  rintro e w1 ⟨rfl, rfl⟩
  clear HM
  obtain ⟨g, hc1, hk1⟩ := HC.out
  clear HC
  have hc0 : w1.cell? ⟨c, 0, none⟩ = some (.slice (some ⟨g, 0, none⟩) (r + 1) (r + 1)) := by rw [cell_of_row _ _ _ _ _ _ hc1]; rfl
  have HC1 := Lib.hid hc1; clear hc1
  have HK1 := Lib.hid hk1; clear hk1
  obtain ⟨s, hs⟩ : ∃ s, s = r + 1 := ⟨_, rfl⟩
  rw [← hs] at hc0
  have HC0 := Lib.hid hc0
  have e1 : IntKind.i64.wrap ((s : Int) - 1) = (r : Int) := (IntWalk.i64_in _ (by omega)).trans (by omega)
  have e2 : (s : Int) - 1 = (r : Int) := by omega
  have hs15 : s ≤ 15 := by omega
  have hs1 : 0 < s := by omega
  have hrs : r < s := by omega
  have hrs2 : (r : Int) < (s : Int) := by omega
  have hr0 : (0 : Int) ≤ (r : Int) := by omega
  have hs2 : (0 : Int) < (s : Int) := by omega
  have HS := Lib.hid hs; clear hs
  go_upto_region 4 with fail
  go_cut [7] (fun s7 wx => ∃ b7 : Nat, s7 = .pointer (some ⟨b7, 0, none⟩) ∧ Hid (HT 66 wx b7 (sAdd b (rk F 0))) ∧ w1.heap.size ≤ b7 ∧ Hid (Below w1.heap.size w1 wx))
  case first =>
    refine wp_region_noPanic ?_
    refine wp_region_held_drew (S := (fun w' => w'.rangeAt w.heap.size 0 (vl 16 b) ∧ w'.cell? ⟨c, 0, none⟩ = some (.slice (some ⟨g, 0, none⟩) s s) ∧ w'.rangeAt g 0 (vl 16 (rk F 0)) ∧ Below w1.heap.size w1 w')) (by kernel_rfl) ?_ (fun hHeld => ?_)
    · exact held_first H3 HC0 HK1 ((Below.refl _ _).drew)
    refine wpAnyH_take (i := 0) rfl (by kernel_rfl) (by kernel_rfl) (by kernel_rfl) (fun _ _ _ h => h) (yieldsIf_load_mid (by rfl) 35 (.tmp 3) rfl (w.heap.size) (0) rfl (vl 16 b) (.array 16 5) (fun _ h => h.1) Try.underlying35 rfl (by rw [vl_len]; exact block_size)) hHeld ?_
    try simp only [Act.put, List.getElem_toArray, List.getElem_cons_zero, List.getElem_cons_succ, List.setIfInBounds_toArray, List.set_cons_zero, List.set_cons_succ]
    refine wpAnyH_take (i := 1) (v := ?_) rfl (by kernel_rfl) (by kernel_rfl) (by kernel_rfl) (fun _ _ _ h => h) (Or.inl ⟨by rfl, ?_⟩) hHeld ?_
    rotate_left
    · intro w' hSw
      (try dsimp only at hSw)
      go_simp
      try with_reducible rfl
    try simp only [Act.put, List.getElem_toArray, List.getElem_cons_zero, List.getElem_cons_succ, List.setIfInBounds_toArray, List.set_cons_zero, List.set_cons_succ]
    refine wpAnyH_take (i := 2) (v := ?_) rfl (by kernel_rfl) (by kernel_rfl) (by kernel_rfl) (fun _ _ _ h => h) (Or.inl ⟨by rfl, ?_⟩) hHeld ?_
    rotate_left
    · intro w' hSw
      (try dsimp only at hSw)
      go_simp
      try with_reducible rfl
    try simp only [Act.put, List.getElem_toArray, List.getElem_cons_zero, List.getElem_cons_succ, List.setIfInBounds_toArray, List.set_cons_zero, List.set_cons_succ]
    refine wpAnyH_take (i := 3) (v := ?_) rfl (by kernel_rfl) (by kernel_rfl) (by kernel_rfl) (fun _ _ _ h => h) (Or.inl ⟨by rfl, ?_⟩) hHeld ?_
    rotate_left
    · intro w' hSw
      (try dsimp only at hSw)
      go_simp
      try with_reducible rfl
    try simp only [Act.put, List.getElem_toArray, List.getElem_cons_zero, List.getElem_cons_succ, List.setIfInBounds_toArray, List.set_cons_zero, List.set_cons_succ]
    refine wpAnyH_take (i := 4) (v := ?_) rfl (by kernel_rfl) (by kernel_rfl) (by kernel_rfl) (fun _ _ _ h => h) (Or.inl ⟨by rfl, ?_⟩) hHeld ?_
    rotate_left
    · intro w' hSw
      (try dsimp only at hSw)
      go_simp
      try with_reducible rfl
    try simp only [Act.put, List.getElem_toArray, List.getElem_cons_zero, List.getElem_cons_succ, List.setIfInBounds_toArray, List.set_cons_zero, List.set_cons_succ]
    refine wpAnyH_take (i := 5) (v := ?_) rfl (by kernel_rfl) (by kernel_rfl) (by kernel_rfl) (fun _ _ _ h => h) (Or.inl ⟨by rfl, ?_⟩) hHeld ?_
    rotate_left
    · intro w' hSw
      (try dsimp only at hSw)
      go_simp
      try with_reducible rfl
    try simp only [Act.put, List.getElem_toArray, List.getElem_cons_zero, List.getElem_cons_succ, List.setIfInBounds_toArray, List.set_cons_zero, List.set_cons_succ]
    refine wpAnyH_take (i := 6) rfl (by kernel_rfl) (by kernel_rfl) (by kernel_rfl) (fun _ _ _ h => h) (yieldsIf_load_mid (by rfl) 66 (.tmp 23) rfl (g) (0) rfl (vl 16 (rk F 0)) (.array 16 5) (fun _ h => h.2.2.1) Try.underlying66 rfl (by rw [vl_len]; exact state_size)) hHeld ?_
    try simp only [Act.put, List.getElem_toArray, List.getElem_cons_zero, List.getElem_cons_succ, List.setIfInBounds_toArray, List.set_cons_zero, List.set_cons_succ]
    refine wpAnyH_ready (rs := [7, 8]) (by kernel_rfl) (by simp) ?_
    refine AllReadyH.cons rfl (fun K hK => ?_) (AllReadyH.cons rfl (fun K hK => ?_) (AllReadyH.nil))
    · try simp only [List.getElem_toArray, List.getElem_cons_zero, List.getElem_cons_succ]
      go_simp
      refine (plus_any b (rk F 0) _ HBB.out (HK.out 0 (by omega))).mono ?_
      rintro e wA ⟨rfl, hbA⟩
      rw [aN_vl 16 (sAdd b (rk F 0))]
      have hwA : Below w1.heap.size w1 wA := ((Below.refl _ w1).drew).trans hbA
      refine hK.out _ _ ?_ (fun hHeld => ?_)
      · exact held_first H3 HC0 HK1 (hwA)
      clear hK K
      try simp only [Act.put, List.getElem_toArray, List.getElem_cons_zero, List.getElem_cons_succ, List.setIfInBounds_toArray, List.set_cons_zero, List.set_cons_succ]
      refine wpAnyH_ready (rs := [8]) (by kernel_rfl) (by simp) ?_
      refine AllReadyH.cons rfl (fun K hK => ?_) (AllReadyH.nil)
      · go_simp
        refine hK.out _ _ ?_ (fun hHeld => ?_)
        · exact held_first H3 HC0 HK1 ((hwA.alloc hwA.size _))
        clear hK K
        try simp only [Act.put, List.getElem_toArray, List.getElem_cons_zero, List.getElem_cons_succ, List.setIfInBounds_toArray, List.set_cons_zero, List.set_cons_succ]
        refine wpAnyH_ready (rs := [9]) (by kernel_rfl) (by simp) ?_
        refine AllReadyH.cons rfl (fun K hK => ?_) (AllReadyH.nil)
        · try simp only [List.getElem_toArray, List.getElem_cons_zero, List.getElem_cons_succ]
          rw [if_pos (by rfl)]
          refine wp_store_mid 66 (.tmp 7) (.tmp 25) rfl (wA.heap.size) (0) (vl 16 (sAdd b (rk F 0))).toArray rfl rfl (there_zero _ wA) (by rw [List.size_toArray, vl_len]; exact state_size) (all_oneCell_toArray (vl_one _ _)) ?_
          simp only [Act.put, List.getElem_toArray, List.getElem_cons_zero, List.getElem_cons_succ, List.setIfInBounds_toArray, List.set_cons_zero, List.set_cons_succ, List.toList_toArray]
          refine hK.out _ _ ?_ (fun hHeld => ?_)
          · exact held_first H3 HC0 HK1 ((below_setCells (hwA.alloc hwA.size _) hwA.size _ 0))
          clear hK K
          try simp only [Act.put, List.getElem_toArray, List.getElem_cons_zero, List.getElem_cons_succ, List.setIfInBounds_toArray, List.set_cons_zero, List.set_cons_succ]
          refine wpAnyH_done (by kernel_rfl) ?_ _
          refine NoPanic.normal ?_
          go_wp2_with fail
          go_meet
          refine ⟨_, rfl, Lib.hid ?_, ?_, Lib.hid ?_⟩
          · exact HT.setCells (HT.newAt (f := fun _ => 0) rfl) _
          · exact hwA.size
          · exact below_setCells (hwA.alloc hwA.size _) hwA.size _ 0
    · go_simp
      have hwX : Below w1.heap.size w1 (w1.drew.alloc (.cells #[.int .u8 0, .int .u8 0, .int .u8 0, .int .u8 0, .int .u8 0, .int .u8 0, .int .u8 0, .int .u8 0, .int .u8 0, .int .u8 0, .int .u8 0, .int .u8 0, .int .u8 0, .int .u8 0, .int .u8 0, .int .u8 0] 66)) := ((Below.refl _ w1).drew).alloc (Nat.le_refl _) _
      have hzX : HT 66 (w1.drew.alloc (.cells #[.int .u8 0, .int .u8 0, .int .u8 0, .int .u8 0, .int .u8 0, .int .u8 0, .int .u8 0, .int .u8 0, .int .u8 0, .int .u8 0, .int .u8 0, .int .u8 0, .int .u8 0, .int .u8 0, .int .u8 0, .int .u8 0] 66)) w1.heap.size fun _ => 0 := HT.newAt (f := fun _ => 0) rfl
      refine hK.out _ _ ?_ (fun hHeld => ?_)
      · exact held_first H3 HC0 HK1 (hwX)
      clear hK K
      try simp only [Act.put, List.getElem_toArray, List.getElem_cons_zero, List.getElem_cons_succ, List.setIfInBounds_toArray, List.set_cons_zero, List.set_cons_succ]
      refine wpAnyH_ready (rs := [7]) (by kernel_rfl) (by simp) ?_
      refine AllReadyH.cons rfl (fun K hK => ?_) (AllReadyH.nil)
      · try simp only [List.getElem_toArray, List.getElem_cons_zero, List.getElem_cons_succ]
        go_simp
        refine (plus_any b (rk F 0) _ HBB.out (HK.out 0 (by omega))).mono ?_
        rintro e wA ⟨rfl, hbA⟩
        rw [aN_vl 16 (sAdd b (rk F 0))]
        have hwA : Below w1.heap.size w1 wA := hwX.trans (hbA.mono hwX.size)
        have hzA := hzX.call hbA
        refine hK.out _ _ ?_ (fun hHeld => ?_)
        · exact held_first H3 HC0 HK1 (hwA)
        clear hK K
        try simp only [Act.put, List.getElem_toArray, List.getElem_cons_zero, List.getElem_cons_succ, List.setIfInBounds_toArray, List.set_cons_zero, List.set_cons_succ]
        refine wpAnyH_ready (rs := [9]) (by kernel_rfl) (by simp) ?_
        refine AllReadyH.cons rfl (fun K hK => ?_) (AllReadyH.nil)
        · try simp only [List.getElem_toArray, List.getElem_cons_zero, List.getElem_cons_succ]
          rw [if_pos (by rfl)]
          refine wp_store_mid 66 (.tmp 7) (.tmp 25) rfl (w1.heap.size) (0) (vl 16 (sAdd b (rk F 0))).toArray rfl rfl hzA.there (by rw [List.size_toArray, vl_len]; exact state_size) (all_oneCell_toArray (vl_one _ _)) ?_
          simp only [Act.put, List.getElem_toArray, List.getElem_cons_zero, List.getElem_cons_succ, List.setIfInBounds_toArray, List.set_cons_zero, List.set_cons_succ, List.toList_toArray]
          refine hK.out _ _ ?_ (fun hHeld => ?_)
          · exact held_first H3 HC0 HK1 ((below_setCells hwA (Nat.le_refl _) _ 0))
          clear hK K
          try simp only [Act.put, List.getElem_toArray, List.getElem_cons_zero, List.getElem_cons_succ, List.setIfInBounds_toArray, List.set_cons_zero, List.set_cons_succ]
          refine wpAnyH_done (by kernel_rfl) ?_ _
          refine NoPanic.normal ?_
          go_wp2_with fail
          go_meet
          refine ⟨_, rfl, Lib.hid ?_, ?_, Lib.hid ?_⟩
          · exact HT.setCells hzA _
          · exact Nat.le_refl _
          · exact below_setCells hwA (Nat.le_refl _) _ 0
  case rest =>
    obtain ⟨b7, rfl, H7, hb7, hw⟩ := hcut
    have hcl := (Array.getElem?_eq_some_iff.1 HC1.out).1
    have hgl := HK1.out.lt
    have h4l := H4.out.lt
    have hc7 : c ≠ b7 := by omega
    have hg7 : g ≠ b7 := by omega
    have h47 : w.heap.size + 1 ≠ b7 := by omega
    have hwb : w.heap.size ≤ b7 := by have := HB.out.size; omega
    have HNE : Hid (c ≠ b7 ∧ g ≠ b7 ∧ w.heap.size + 1 ≠ b7 ∧ w.heap.size ≤ b7) := Lib.hid ⟨hc7, hg7, h47, hwb⟩
    have HC2 : Hid (wc.heap[c]? = some (.cells #[.slice (some ⟨g, 0, none⟩) s s] 68 (0, 0))) := Lib.hid (by rw [hw.out.block c hcl, HS.out]; exact HC1.out)
    have HK2 : Hid (HV (16 * (r + 1)) 66 wc g F) := Lib.hid (HK1.out.below hw.out hgl)
    have H4' : Hid (HT 35 wc (w.heap.size + 1) fun _ => 0) := Lib.hid (H4.out.below hw.out h4l)
    have HB' : Hid (Below w.heap.size w wc) := Lib.hid (HB.out.trans (hw.out.mono HB.out.size))
    clear H3 H4 HB HC0 HC1 HK1 hw hb7 hcl hgl h4l hc7 hg7 h47 hwb hc0
    go_wp2_with fail
    go_loopw [8] (fun i wr => ∃ j : Nat, 1 ≤ j ∧ j ≤ r ∧ i = .int .i64 j ∧ Hid (HT 66 wr b7 (eN F r b (j - 1))) ∧ Hid (wr.heap[c]? = some (.cells #[.slice (some ⟨g, 0, none⟩) s s] 68 (0, 0))) ∧ Hid (HV (16 * (r + 1)) 66 wr g F) ∧ Hid (HT 35 wr (w.heap.size + 1) fun _ => 0) ∧ Hid (Below w.heap.size w wr)) (fun i _ => r - (intOf i).toNat)
    case atStart => exact ⟨1, by omega, by omega, rfl, H7, HC2, HK2, H4', HB'⟩
    case round =>
      clear H7 HC2 HK2 H4' HB'
      obtain ⟨j, hj1, hj2, rfl, H7, HC2, HK2, H4, HB⟩ := hrel
      obtain ⟨f, hf⟩ : ∃ f, f = eN F r b (j - 1) := ⟨_, rfl⟩
      have hf8 : B16 f := by rw [hf]; exact eN_lt F r b HBB.out HK.out _ (by omega)
      have hk8 : B16 (rk F j) := HK.out j hj2
      rw [← hf] at H7
      have HF := Lib.hid hf; clear hf
      have HF8 := Lib.hid hf8; clear hf8
      have HK8 := Lib.hid hk8; clear hk8
      have hj0 : (0 : Int) ≤ (j : Int) := by omega
      have hjs : (j : Int) < (s : Int) := by have := HS.out; omega
      have hcc : wr.cell? ⟨c, 0, none⟩ = some (.slice (some ⟨g, 0, none⟩) s s) := by rw [cell_of_row _ _ _ _ _ _ HC2.out]; rfl
      have HCC := Lib.hid hcc; clear hcc
      by_cases hlt : j < r
      · have hlt' : (j : Int) < (r : Int) := by omega
        go_upto_region 8 with fail
        refine wp_region_noPanic ?_
        refine wp_region_held_drew (S := (fun w' => w'.cell? ⟨c, 0, none⟩ = some (.slice (some ⟨g, 0, none⟩) s s) ∧ w'.rangeAt g (j * 16) (vl 16 (rk F j)) ∧ w'.there b7 0 16)) (by kernel_rfl) ?_ (fun hHeld => ?_)
        · exact round_start HCC HK2 H7 (by omega)
        refine wpAnyH_take (i := 4) (v := ?_) rfl (by kernel_rfl) (by kernel_rfl) (by kernel_rfl) (fun _ _ _ h => h) (Or.inl ⟨by rfl, ?_⟩) hHeld ?_
        rotate_left
        · intro w' hSw
          (try dsimp only at hSw)
          go_simp
          try with_reducible rfl
        try simp only [Act.put, List.getElem_toArray, List.getElem_cons_zero, List.getElem_cons_succ, List.setIfInBounds_toArray, List.set_cons_zero, List.set_cons_succ]
        refine wpAnyH_take (i := 5) (v := ?_) rfl (by kernel_rfl) (by kernel_rfl) (by kernel_rfl) (fun _ _ _ h => h) (Or.inl ⟨by rfl, ?_⟩) hHeld ?_
        rotate_left
        · intro w' hSw
          (try dsimp only at hSw)
          go_simp
          try with_reducible rfl
        try simp only [Act.put, List.getElem_toArray, List.getElem_cons_zero, List.getElem_cons_succ, List.setIfInBounds_toArray, List.set_cons_zero, List.set_cons_succ]
        refine wpAnyH_take (i := 6) (v := ?_) rfl (by kernel_rfl) (by kernel_rfl) (by kernel_rfl) (fun _ _ _ h => h) (Or.inl ⟨by rfl, ?_⟩) hHeld ?_
        rotate_left
        · intro w' hSw
          (try dsimp only at hSw)
          go_simp
          try with_reducible rfl
        try simp only [Act.put, List.getElem_toArray, List.getElem_cons_zero, List.getElem_cons_succ, List.setIfInBounds_toArray, List.set_cons_zero, List.set_cons_succ]
        refine wpAnyH_take (i := 7) (v := ?_) rfl (by kernel_rfl) (by kernel_rfl) (by kernel_rfl) (fun _ _ _ h => h) (Or.inl ⟨by rfl, ?_⟩) hHeld ?_
        rotate_left
        · intro w' hSw
          (try dsimp only at hSw)
          go_simp
          try with_reducible rfl
        try simp only [Act.put, List.getElem_toArray, List.getElem_cons_zero, List.getElem_cons_succ, List.setIfInBounds_toArray, List.set_cons_zero, List.set_cons_succ]
        refine wpAnyH_take (i := 8) (v := ?_) rfl (by kernel_rfl) (by kernel_rfl) (by kernel_rfl) (fun _ _ _ h => h) (Or.inl ⟨by rfl, ?_⟩) hHeld ?_
        rotate_left
        · intro w' hSw
          (try dsimp only at hSw)
          go_simp
          try with_reducible rfl
        try simp only [Act.put, List.getElem_toArray, List.getElem_cons_zero, List.getElem_cons_succ, List.setIfInBounds_toArray, List.set_cons_zero, List.set_cons_succ]
        refine wpAnyH_take (i := 9) (v := ?_) rfl (by kernel_rfl) (by kernel_rfl) (by kernel_rfl) (fun _ _ _ h => h) (Or.inl ⟨by rfl, ?_⟩) hHeld ?_
        rotate_left
        · intro w' hSw
          (try dsimp only at hSw)
          go_simp
          try with_reducible rfl
        try simp only [Act.put, List.getElem_toArray, List.getElem_cons_zero, List.getElem_cons_succ, List.setIfInBounds_toArray, List.set_cons_zero, List.set_cons_succ]
        refine wpAnyH_take (i := 10) rfl (by kernel_rfl) (by kernel_rfl) (by kernel_rfl) (fun _ _ _ h => h) (yieldsIf_load_mid (by rfl) 66 (.tmp 40) rfl (g) (j * 16) rfl (vl 16 (rk F j)) (.array 16 5) (fun _ h => h.2.1) Try.underlying66 rfl (by rw [vl_len]; exact state_size)) hHeld ?_
        try simp only [Act.put, List.getElem_toArray, List.getElem_cons_zero, List.getElem_cons_succ, List.setIfInBounds_toArray, List.set_cons_zero, List.set_cons_succ]
        refine wpAnyH_ready (rs := [0]) (by kernel_rfl) (by simp) ?_
        refine AllReadyH.cons rfl (fun K hK => ?_) (AllReadyH.nil)
        · try simp only [List.getElem_toArray, List.getElem_cons_zero, List.getElem_cons_succ]
          rw [if_pos (by rfl)]
          have hrange := (HT.range H7.out.drew)
          have hinfo : (Try.prog.info? 66).map (·.size) = some (vl 16 f).length := (by rw [vl_len]; exact state_size)
          refine wp_load_mid 66 (.tmp 7) ?hop (b7) (0) ?hx (vl 16 f) (.array 16 5) ?hr ?hu rfl ?hi ?_
          case hop => rfl
          case hx => rfl
          case hr => exact hrange
          case hu => exact Try.underlying66
          case hi => exact hinfo
          clear hrange hinfo
          try simp only [Act.put, List.getElem_toArray, List.getElem_cons_zero, List.getElem_cons_succ, List.setIfInBounds_toArray, List.set_cons_zero, List.set_cons_succ]
          refine hK.out _ _ ?_ (fun hHeld => ?_)
          · exact hHeld
          clear hK K
          try simp only [Act.put, List.getElem_toArray, List.getElem_cons_zero, List.getElem_cons_succ, List.setIfInBounds_toArray, List.set_cons_zero, List.set_cons_succ]
          refine wpAnyH_ready (rs := [1]) (by kernel_rfl) (by simp) ?_
          refine AllReadyH.cons rfl (fun K hK => ?_) (AllReadyH.nil)
          · try simp only [List.getElem_toArray, List.getElem_cons_zero, List.getElem_cons_succ]
            go_simp
            refine (each_sub f _ HF8.out).mono ?_
            rintro e wa ⟨rfl, hbwa⟩
            have hdwa : Below wr.heap.size wr wa := (Below.refl _ wr).drew.trans hbwa
            refine hK.out _ _ ?_ (fun hHeld => ?_)
            · exact ⟨cell_call hbwa hHeld.1, range_call hbwa hHeld.2.1, there_call hbwa hHeld.2.2⟩
            clear hK K
            try simp only [Act.put, List.getElem_toArray, List.getElem_cons_zero, List.getElem_cons_succ, List.setIfInBounds_toArray, List.set_cons_zero, List.set_cons_succ]
            refine wpAnyH_ready (rs := [2]) (by kernel_rfl) (by simp) ?_
            refine AllReadyH.cons rfl (fun K hK => ?_) (AllReadyH.nil)
            · try simp only [List.getElem_toArray, List.getElem_cons_zero, List.getElem_cons_succ]
              go_simp
              refine (moved1_any (sMap gs f) _).mono ?_
              rintro e wb ⟨rfl, hbwb⟩
              have hdwb : Below wr.heap.size wr wb := hdwa.trans (hbwb.mono hdwa.size)
              refine hK.out _ _ ?_ (fun hHeld => ?_)
              · exact ⟨cell_call hbwb hHeld.1, range_call hbwb hHeld.2.1, there_call hbwb hHeld.2.2⟩
              clear hK K
              try simp only [Act.put, List.getElem_toArray, List.getElem_cons_zero, List.getElem_cons_succ, List.setIfInBounds_toArray, List.set_cons_zero, List.set_cons_succ]
              refine wpAnyH_ready (rs := [3]) (by kernel_rfl) (by simp) ?_
              refine AllReadyH.cons rfl (fun K hK => ?_) (AllReadyH.nil)
              · try simp only [List.getElem_toArray, List.getElem_cons_zero, List.getElem_cons_succ]
                go_simp
                refine (columns_mix (sMov y1 (sMap gs f)) _ (sMov_lt _ (sMap_lt _ gs_lt HF8.out))).mono ?_
                rintro e wd ⟨rfl, hbwd⟩
                have hdwd : Below wr.heap.size wr wd := hdwb.trans (hbwd.mono hdwb.size)
                refine hK.out _ _ ?_ (fun hHeld => ?_)
                · exact ⟨cell_call hbwd hHeld.1, range_call hbwd hHeld.2.1, there_call hbwd hHeld.2.2⟩
                clear hK K
                try simp only [Act.put, List.getElem_toArray, List.getElem_cons_zero, List.getElem_cons_succ, List.setIfInBounds_toArray, List.set_cons_zero, List.set_cons_succ]
                refine wpAnyH_ready (rs := [11]) (by kernel_rfl) (by simp) ?_
                refine AllReadyH.cons rfl (fun K hK => ?_) (AllReadyH.nil)
                · try simp only [List.getElem_toArray, List.getElem_cons_zero, List.getElem_cons_succ]
                  go_simp
                  refine (plus_any (sMix mixR (sMov y1 (sMap gs f))) (rk F j) _ (sMix_lt _ (sMov_lt _ (sMap_lt _ gs_lt HF8.out))) HK8.out).mono ?_
                  rintro e we ⟨rfl, hbwe⟩
                  rw [aN_vl 16 (sAdd (sMix mixR (sMov y1 (sMap gs f))) (rk F j))]
                  have hdwe : Below wr.heap.size wr we := hdwd.trans (hbwe.mono hdwd.size)
                  refine hK.out _ _ ?_ (fun hHeld => ?_)
                  · exact ⟨cell_call hbwe hHeld.1, range_call hbwe hHeld.2.1, there_call hbwe hHeld.2.2⟩
                  clear hK K
                  try simp only [Act.put, List.getElem_toArray, List.getElem_cons_zero, List.getElem_cons_succ, List.setIfInBounds_toArray, List.set_cons_zero, List.set_cons_succ]
                  refine wpAnyH_ready (rs := [12]) (by kernel_rfl) (by simp) ?_
                  refine AllReadyH.cons rfl (fun K hK => ?_) (AllReadyH.nil)
                  · try simp only [List.getElem_toArray, List.getElem_cons_zero, List.getElem_cons_succ]
                    rw [if_pos (by rfl)]
                    refine wp_store_mid 66 (.tmp 7) (.tmp 42) rfl (b7) (0) (vl 16 (sAdd (sMix mixR (sMov y1 (sMap gs f))) (rk F j))).toArray rfl rfl hHeld.2.2 (by rw [List.size_toArray, vl_len]; exact state_size) (all_oneCell_toArray (vl_one _ _)) ?_
                    simp only [Act.put, List.getElem_toArray, List.getElem_cons_zero, List.getElem_cons_succ, List.setIfInBounds_toArray, List.set_cons_zero, List.set_cons_succ, List.toList_toArray]
                    refine hK.out _ _ ?_ (fun hHeld => ?_)
                    · exact round_store HNE.out.1 HNE.out.2.1 hHeld
                    clear hK K
                    try simp only [Act.put, List.getElem_toArray, List.getElem_cons_zero, List.getElem_cons_succ, List.setIfInBounds_toArray, List.set_cons_zero, List.set_cons_succ]
                    refine wpAnyH_done (by kernel_rfl) ?_ _
                    refine NoPanic.normal ?_
                    have e7 : E16 (sAdd (sMix mixR (sMov y1 (sMap gs f))) (rk F j)) (eN F r b (j + 1 - 1)) := by
                        have hj := HF.out
                        obtain ⟨m, rfl⟩ : ∃ m, j = m + 1 := ⟨j - 1, by omega⟩
                        rw [show m + 1 - 1 = m from rfl] at hj
                        intro i hi
                        show _ = eRnd F r (m + 1) (eN F r b m) i
                        unfold eRnd
                        rw [if_pos hlt, ← hj]
                        rfl
                    have H7' : Hid (HT 66 (we.setCells b7 0 (vl 16 (sAdd (sMix mixR (sMov y1 (sMap gs f))) (rk F j)))) b7 (eN F r b (j + 1 - 1))) := Lib.hid ((HT.setCells (H7.out.below hdwe H7.out.lt) _).congr e7)
                    have HC2' : Hid ((we.setCells b7 0 (vl 16 (sAdd (sMix mixR (sMov y1 (sMap gs f))) (rk F j)))).heap[c]? = some (.cells #[.slice (some ⟨g, 0, none⟩) s s] 68 (0, 0))) := Lib.hid ((heap_setCells_far _ HNE.out.1 0 we).trans ((hdwe.block c (Array.getElem?_eq_some_iff.1 HC2.out).1).trans HC2.out))
                    have HK2' : Hid (HV (16 * (r + 1)) 66 (we.setCells b7 0 (vl 16 (sAdd (sMix mixR (sMov y1 (sMap gs f))) (rk F j)))) g F) := Lib.hid ((heap_setCells_far _ HNE.out.2.1 0 we).trans (HK2.out.below hdwe HK2.out.lt))
                    have H4' : Hid (HT 35 (we.setCells b7 0 (vl 16 (sAdd (sMix mixR (sMov y1 (sMap gs f))) (rk F j)))) (w.heap.size + 1) fun _ => 0) := Lib.hid ((heap_setCells_far _ HNE.out.2.2.1 0 we).trans (H4.out.below hdwe H4.out.lt))
                    have HB' : Hid (Below w.heap.size w (we.setCells b7 0 (vl 16 (sAdd (sMix mixR (sMov y1 (sMap gs f))) (rk F j))))) := Lib.hid (below_setCells (HB.out.trans (hdwe.mono HB.out.size)) HNE.out.2.2.2 _ 0)
                    clear hHeld H7 HC2 HK2 H4 HB HCC e7 hbwa hbwb hbwd hbwe hdwa hdwb hdwd hdwe
                    generalize we.setCells b7 0 (vl 16 (sAdd (sMix mixR (sMov y1 (sMap gs f))) (rk F j))) = wz at *
                    go_wp2_with fail
                    go_roundw
                    case rel => exact ⟨j + 1, by omega, by omega, by go_num, H7', HC2', HK2', H4', HB'⟩
                    case measure => simp [intOf]; omega
      · have hlt' : ¬ (j : Int) < (r : Int) := by omega
        obtain rfl : j = r := by omega
        go_upto_region 9 with fail
        refine wp_region_noPanic ?_
        refine wp_region_held_drew (S := (fun w' => w'.cell? ⟨c, 0, none⟩ = some (.slice (some ⟨g, 0, none⟩) s s) ∧ w'.rangeAt g (j * 16) (vl 16 (rk F j)) ∧ w'.there b7 0 16)) (by kernel_rfl) ?_ (fun hHeld => ?_)
        · exact round_start HCC HK2 H7 (by omega)
        refine wpAnyH_take (i := 3) (v := ?_) rfl (by kernel_rfl) (by kernel_rfl) (by kernel_rfl) (fun _ _ _ h => h) (Or.inl ⟨by rfl, ?_⟩) hHeld ?_
        rotate_left
        · intro w' hSw
          (try dsimp only at hSw)
          go_simp
          try with_reducible rfl
        try simp only [Act.put, List.getElem_toArray, List.getElem_cons_zero, List.getElem_cons_succ, List.setIfInBounds_toArray, List.set_cons_zero, List.set_cons_succ]
        refine wpAnyH_take (i := 4) (v := ?_) rfl (by kernel_rfl) (by kernel_rfl) (by kernel_rfl) (fun _ _ _ h => h) (Or.inl ⟨by rfl, ?_⟩) hHeld ?_
        rotate_left
        · intro w' hSw
          (try dsimp only at hSw)
          go_simp
          try with_reducible rfl
        try simp only [Act.put, List.getElem_toArray, List.getElem_cons_zero, List.getElem_cons_succ, List.setIfInBounds_toArray, List.set_cons_zero, List.set_cons_succ]
        refine wpAnyH_take (i := 5) (v := ?_) rfl (by kernel_rfl) (by kernel_rfl) (by kernel_rfl) (fun _ _ _ h => h) (Or.inl ⟨by rfl, ?_⟩) hHeld ?_
        rotate_left
        · intro w' hSw
          (try dsimp only at hSw)
          go_simp
          try with_reducible rfl
        try simp only [Act.put, List.getElem_toArray, List.getElem_cons_zero, List.getElem_cons_succ, List.setIfInBounds_toArray, List.set_cons_zero, List.set_cons_succ]
        refine wpAnyH_take (i := 6) (v := ?_) rfl (by kernel_rfl) (by kernel_rfl) (by kernel_rfl) (fun _ _ _ h => h) (Or.inl ⟨by rfl, ?_⟩) hHeld ?_
        rotate_left
        · intro w' hSw
          (try dsimp only at hSw)
          go_simp
          try with_reducible rfl
        try simp only [Act.put, List.getElem_toArray, List.getElem_cons_zero, List.getElem_cons_succ, List.setIfInBounds_toArray, List.set_cons_zero, List.set_cons_succ]
        refine wpAnyH_take (i := 7) (v := ?_) rfl (by kernel_rfl) (by kernel_rfl) (by kernel_rfl) (fun _ _ _ h => h) (Or.inl ⟨by rfl, ?_⟩) hHeld ?_
        rotate_left
        · intro w' hSw
          (try dsimp only at hSw)
          go_simp
          try with_reducible rfl
        try simp only [Act.put, List.getElem_toArray, List.getElem_cons_zero, List.getElem_cons_succ, List.setIfInBounds_toArray, List.set_cons_zero, List.set_cons_succ]
        refine wpAnyH_take (i := 8) (v := ?_) rfl (by kernel_rfl) (by kernel_rfl) (by kernel_rfl) (fun _ _ _ h => h) (Or.inl ⟨by rfl, ?_⟩) hHeld ?_
        rotate_left
        · intro w' hSw
          (try dsimp only at hSw)
          go_simp
          try with_reducible rfl
        try simp only [Act.put, List.getElem_toArray, List.getElem_cons_zero, List.getElem_cons_succ, List.setIfInBounds_toArray, List.set_cons_zero, List.set_cons_succ]
        refine wpAnyH_take (i := 9) rfl (by kernel_rfl) (by kernel_rfl) (by kernel_rfl) (fun _ _ _ h => h) (yieldsIf_load_mid (by rfl) 66 (.tmp 51) rfl (g) (j * 16) rfl (vl 16 (rk F j)) (.array 16 5) (fun _ h => h.2.1) Try.underlying66 rfl (by rw [vl_len]; exact state_size)) hHeld ?_
        try simp only [Act.put, List.getElem_toArray, List.getElem_cons_zero, List.getElem_cons_succ, List.setIfInBounds_toArray, List.set_cons_zero, List.set_cons_succ]
        refine wpAnyH_ready (rs := [0]) (by kernel_rfl) (by simp) ?_
        refine AllReadyH.cons rfl (fun K hK => ?_) (AllReadyH.nil)
        · try simp only [List.getElem_toArray, List.getElem_cons_zero, List.getElem_cons_succ]
          rw [if_pos (by rfl)]
          have hrange := (HT.range H7.out.drew)
          have hinfo : (Try.prog.info? 66).map (·.size) = some (vl 16 f).length := (by rw [vl_len]; exact state_size)
          refine wp_load_mid 66 (.tmp 7) ?hop (b7) (0) ?hx (vl 16 f) (.array 16 5) ?hr ?hu rfl ?hi ?_
          case hop => rfl
          case hx => rfl
          case hr => exact hrange
          case hu => exact Try.underlying66
          case hi => exact hinfo
          clear hrange hinfo
          try simp only [Act.put, List.getElem_toArray, List.getElem_cons_zero, List.getElem_cons_succ, List.setIfInBounds_toArray, List.set_cons_zero, List.set_cons_succ]
          refine hK.out _ _ ?_ (fun hHeld => ?_)
          · exact hHeld
          clear hK K
          try simp only [Act.put, List.getElem_toArray, List.getElem_cons_zero, List.getElem_cons_succ, List.setIfInBounds_toArray, List.set_cons_zero, List.set_cons_succ]
          refine wpAnyH_ready (rs := [1]) (by kernel_rfl) (by simp) ?_
          refine AllReadyH.cons rfl (fun K hK => ?_) (AllReadyH.nil)
          · try simp only [List.getElem_toArray, List.getElem_cons_zero, List.getElem_cons_succ]
            go_simp
            refine (each_sub f _ HF8.out).mono ?_
            rintro e wa ⟨rfl, hbwa⟩
            have hdwa : Below wr.heap.size wr wa := (Below.refl _ wr).drew.trans hbwa
            refine hK.out _ _ ?_ (fun hHeld => ?_)
            · exact ⟨cell_call hbwa hHeld.1, range_call hbwa hHeld.2.1, there_call hbwa hHeld.2.2⟩
            clear hK K
            try simp only [Act.put, List.getElem_toArray, List.getElem_cons_zero, List.getElem_cons_succ, List.setIfInBounds_toArray, List.set_cons_zero, List.set_cons_succ]
            refine wpAnyH_ready (rs := [2]) (by kernel_rfl) (by simp) ?_
            refine AllReadyH.cons rfl (fun K hK => ?_) (AllReadyH.nil)
            · try simp only [List.getElem_toArray, List.getElem_cons_zero, List.getElem_cons_succ]
              go_simp
              refine (moved1_any (sMap gs f) _).mono ?_
              rintro e wb ⟨rfl, hbwb⟩
              have hdwb : Below wr.heap.size wr wb := hdwa.trans (hbwb.mono hdwa.size)
              refine hK.out _ _ ?_ (fun hHeld => ?_)
              · exact ⟨cell_call hbwb hHeld.1, range_call hbwb hHeld.2.1, there_call hbwb hHeld.2.2⟩
              clear hK K
              try simp only [Act.put, List.getElem_toArray, List.getElem_cons_zero, List.getElem_cons_succ, List.setIfInBounds_toArray, List.set_cons_zero, List.set_cons_succ]
              refine wpAnyH_ready (rs := [10]) (by kernel_rfl) (by simp) ?_
              refine AllReadyH.cons rfl (fun K hK => ?_) (AllReadyH.nil)
              · try simp only [List.getElem_toArray, List.getElem_cons_zero, List.getElem_cons_succ]
                go_simp
                refine (plus_any (sMov y1 (sMap gs f)) (rk F j) _ (sMov_lt _ (sMap_lt _ gs_lt HF8.out)) HK8.out).mono ?_
                rintro e we ⟨rfl, hbwe⟩
                rw [aN_vl 16 (sAdd (sMov y1 (sMap gs f)) (rk F j))]
                have hdwe : Below wr.heap.size wr we := hdwb.trans (hbwe.mono hdwb.size)
                refine hK.out _ _ ?_ (fun hHeld => ?_)
                · exact ⟨cell_call hbwe hHeld.1, range_call hbwe hHeld.2.1, there_call hbwe hHeld.2.2⟩
                clear hK K
                try simp only [Act.put, List.getElem_toArray, List.getElem_cons_zero, List.getElem_cons_succ, List.setIfInBounds_toArray, List.set_cons_zero, List.set_cons_succ]
                refine wpAnyH_ready (rs := [11]) (by kernel_rfl) (by simp) ?_
                refine AllReadyH.cons rfl (fun K hK => ?_) (AllReadyH.nil)
                · try simp only [List.getElem_toArray, List.getElem_cons_zero, List.getElem_cons_succ]
                  rw [if_pos (by rfl)]
                  refine wp_store_mid 66 (.tmp 7) (.tmp 53) rfl (b7) (0) (vl 16 (sAdd (sMov y1 (sMap gs f)) (rk F j))).toArray rfl rfl hHeld.2.2 (by rw [List.size_toArray, vl_len]; exact state_size) (all_oneCell_toArray (vl_one _ _)) ?_
                  simp only [Act.put, List.getElem_toArray, List.getElem_cons_zero, List.getElem_cons_succ, List.setIfInBounds_toArray, List.set_cons_zero, List.set_cons_succ, List.toList_toArray]
                  refine hK.out _ _ ?_ (fun hHeld => ?_)
                  · exact round_store HNE.out.1 HNE.out.2.1 hHeld
                  clear hK K
                  try simp only [Act.put, List.getElem_toArray, List.getElem_cons_zero, List.getElem_cons_succ, List.setIfInBounds_toArray, List.set_cons_zero, List.set_cons_succ]
                  refine wpAnyH_done (by kernel_rfl) ?_ _
                  refine NoPanic.normal ?_
                  have e7 : E16 (sAdd (sMov y1 (sMap gs f)) (rk F j)) (enc F j b) := by
                      have hj := HF.out
                      obtain ⟨m, rfl⟩ : ∃ m, j = m + 1 := ⟨j - 1, by omega⟩
                      rw [show m + 1 - 1 = m from rfl] at hj
                      intro i hi
                      show _ = eRnd F (m + 1) (m + 1) (eN F (m + 1) b m) i
                      unfold eRnd
                      rw [if_neg (by omega), ← hj]
                      rfl
                  have H7' : Hid (HT 66 (we.setCells b7 0 (vl 16 (sAdd (sMov y1 (sMap gs f)) (rk F j)))) b7 (enc F j b)) := Lib.hid ((HT.setCells (H7.out.below hdwe H7.out.lt) _).congr e7)
                  have HC2' : Hid ((we.setCells b7 0 (vl 16 (sAdd (sMov y1 (sMap gs f)) (rk F j)))).heap[c]? = some (.cells #[.slice (some ⟨g, 0, none⟩) s s] 68 (0, 0))) := Lib.hid ((heap_setCells_far _ HNE.out.1 0 we).trans ((hdwe.block c (Array.getElem?_eq_some_iff.1 HC2.out).1).trans HC2.out))
                  have HK2' : Hid (HV (16 * (j + 1)) 66 (we.setCells b7 0 (vl 16 (sAdd (sMov y1 (sMap gs f)) (rk F j)))) g F) := Lib.hid ((heap_setCells_far _ HNE.out.2.1 0 we).trans (HK2.out.below hdwe HK2.out.lt))
                  have H4' : Hid (HT 35 (we.setCells b7 0 (vl 16 (sAdd (sMov y1 (sMap gs f)) (rk F j)))) (w.heap.size + 1) fun _ => 0) := Lib.hid ((heap_setCells_far _ HNE.out.2.2.1 0 we).trans (H4.out.below hdwe H4.out.lt))
                  have HB' : Hid (Below w.heap.size w (we.setCells b7 0 (vl 16 (sAdd (sMov y1 (sMap gs f)) (rk F j))))) := Lib.hid (below_setCells (HB.out.trans (hdwe.mono HB.out.size)) HNE.out.2.2.2 _ 0)
                  clear hHeld H7 HC2 HK2 H4 HB HCC e7 hbwa hbwb  hbwe hdwa hdwb  hdwe
                  generalize we.setCells b7 0 (vl 16 (sAdd (sMov y1 (sMap gs f)) (rk F j))) = wz at *
                  have d7 := H7'.out
                  have d4 := H4'.out
                  go_wp2_with (first
                    | (refine wpList_load_row rfl 66 (.tmp 7) rfl b7 rfl 66 (aN 16 (enc F j b)) (0, 0) (.array 16 5) d7 Try.underlying66 rfl (by rw [aN_size]; kernel_rfl) ?_)
                    | (refine wpList_store_row rfl 35 (.tmp 4) (.tmp 54) rfl (w.heap.size + 1) (aN 16 (enc F j b)) rfl rfl 35 _ d4 (by rw [aN_size]; kernel_rfl) (by rw [aN_size, aN_size]) (aN_one _ _) ?_))
                  refine bodyPost_ret (v := .tuple #[.agg (aN 16 (enc F j b)), .int .i64 0]) (results_two_row (p := 4) (u := 5) (ty := 35) (by kernel_rfl) _ _ (w.heap.size + 1) 35 (aN 16 (enc F j b)) (0, 0) 16 5 (.int .i64 0) rfl rfl ?_ Try.underlying35 (by rw [aN_size]; kernel_rfl)) rfl ⟨rfl, ?_⟩
                  · exact setRow_heap _ _ _ _ _ _ d4
                  · exact below_setRow HB'.out _ (by omega) _

end Go.Proofs.Ytkfmgjipocmkjaa
