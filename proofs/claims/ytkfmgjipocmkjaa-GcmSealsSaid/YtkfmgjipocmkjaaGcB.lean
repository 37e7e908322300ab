/-
  The document's May, Seal and Open (layer 6), over whatever enciphers and whatever tags.
-/
import Derived.Test.YtkfmgjipocmkjaaFoldB
import Derived.Test.YtkfmgjipocmkjaaFoldA
import Derived.WalkLawsBesides
namespace Go.Proofs.Ytkfmgjipocmkjaa
open Go Go.RowKit
set_option linter.unusedVariables false
set_option linter.unusedSimpArgs false

set_option maxRecDepth 100000 in
theorem rmay6_any (K N : Option Addr) (nk nn ck cn : Nat) (w : World) :
    Calls Try.prog 16 #[.slice K nk ck, .slice N nn cn] w fun e w' => e = .returned (.bool (decide ((nk = 16 ∨ nk = 32) ∧ nn = 12))) ∧ w' = w := by
  have hm := fun w => may_any K nk ck w
  by_cases h1 : nk = 16 ∨ nk = 32
  · rw [decide_eq_true h1] at hm
    have HM := Lib.hid hm; clear hm
    have e : decide ((nk = 16 ∨ nk = 32) ∧ nn = 12) = decide (nn = 12) := by simp [h1]
    rw [e]
    clear e h1
    by_cases h2 : nn = 12
    · subst h2
      go_enter Try.func16, Try.ntmps16
      go_wp2_with fail
      refine (HM.out w).mono ?_
      rintro e w1 ⟨rfl, rfl⟩
      go_wp2_with fail
      go_ret
      exact ⟨rfl, rfl⟩
    · rw [decide_eq_false h2]
      have h3 : ((nn : Int) == 12) = false := by rw [beq_eq_false_iff_ne]; omega
      go_enter Try.func16, Try.ntmps16
      go_wp2_with fail
      refine (HM.out w).mono ?_
      rintro e w1 ⟨rfl, rfl⟩
      go_wp2_with fail
      go_ret
      exact ⟨by rw [← h3]; rfl, rfl⟩
  · rw [decide_eq_false h1] at hm
    have HM := Lib.hid hm; clear hm
    have e : decide ((nk = 16 ∨ nk = 32) ∧ nn = 12) = false := by simp [h1]
    rw [e]
    clear e h1
    go_enter Try.func16, Try.ntmps16
    go_wp2_with fail
    refine (HM.out w).mono ?_
    rintro e w1 ⟨rfl, rfl⟩
    go_wp2_with fail
    go_ret
    exact ⟨rfl, rfl⟩
/-- What Seal refuses; what Open refuses before it looks at the tag. -/
def selE (nk nn na nt : Nat) : Nat := if (nk = 16 ∨ nk = 32) ∧ nn = 12 then (if 65536 < na ∨ 65536 < nt then 3 else 0) else 2
def opnE (nk nn na ns : Nat) : Nat := if (nk = 16 ∨ nk = 32) ∧ nn = 12 then (if 65536 < na ∨ 65552 < ns then 3 else if ns < 16 then 4 else 0) else 2

set_option maxRecDepth 100000 in
set_option maxHeartbeats 4000000 in
theorem rseal_no (K N A B : Option Addr) (nk nn na nt ck cn ca ct : Nat) (h : selE nk nn na nt ≠ 0) (w : World) :
    Calls Try.prog 12 #[.slice K nk ck, .slice N nn cn, .slice A na ca, .slice B nt ct] w fun e w' => e = .returned (.tuple #[.slice none 0 0, .int .i64 (selE nk nn na nt : Int)]) ∧ w' = w := by
  have hm := rmay6_any K N nk nn ck cn w
  by_cases h1 : (nk = 16 ∨ nk = 32) ∧ nn = 12
  · rw [decide_eq_true h1] at hm
    have HM := Lib.hid hm; clear hm
    by_cases ha : 65536 < na
    · have e : selE nk nn na nt = 3 := by unfold selE; rw [if_pos h1, if_pos (.inl ha)]
      rw [e]
      have hai : (65536 : Int) < (na : Int) := by omega
      clear e h h1
      go_enter Try.func12, Try.ntmps12
      go_wp2_with fail
      refine HM.out.mono ?_
      rintro e w1 ⟨rfl, rfl⟩
      go_wp2_with fail
      go_ret2
      exact ⟨rfl, rfl⟩
    · by_cases ht : 65536 < nt
      · have e : selE nk nn na nt = 3 := by unfold selE; rw [if_pos h1, if_pos (.inr ht)]
        rw [e]
        have hai : ¬ (65536 : Int) < (na : Int) := by omega
        have hti : (65536 : Int) < (nt : Int) := by omega
        clear e h h1
        go_enter Try.func12, Try.ntmps12
        go_wp2_with fail
        refine HM.out.mono ?_
        rintro e w1 ⟨rfl, rfl⟩
        go_wp2_with fail
        go_ret2
        exact ⟨rfl, rfl⟩
      · exact absurd (by unfold selE; rw [if_pos h1, if_neg (by omega)]) h
  · rw [decide_eq_false h1] at hm
    have HM := Lib.hid hm; clear hm
    have e : selE nk nn na nt = 2 := by unfold selE; rw [if_neg h1]
    rw [e]
    clear e h h1
    go_enter Try.func12, Try.ntmps12
    go_wp2_with fail
    refine HM.out.mono ?_
    rintro e w1 ⟨rfl, rfl⟩
    go_wp2_with fail
    go_ret2
    exact ⟨rfl, rfl⟩

set_option maxRecDepth 100000 in
set_option maxHeartbeats 4000000 in
theorem rseal_any (K N A B : Option Addr) (nk na nt ck cn ca ct : Nat) (hk16 : nk = 16 ∨ nk = 32) (hna : na ≤ 65536) (hnt : nt ≤ 65536) (cl tl : List Value) (hcl : cl.length = nt) (htl : tl.length = 16) (ht1 : ∀ u ∈ tl, u.oneCell' = true) (w : World)
    (hC : Calls Try.prog 20 #[.slice K nk ck, .slice N 12 cn, .slice B nt ct] w fun e w' => ∃ v, e = .returned v ∧ w'.ownsRow w.heap.size 5 1 v nt cl ∧ Below w.heap.size w w')
    (hT : ∀ (W : World) (C : Option Addr) (c : Nat), Below w.heap.size w W → Rd W W.heap.size C cl → Calls Try.prog 21 #[.slice K nk ck, .slice N 12 cn, .slice A na ca, .slice C nt c] W fun e w' => ∃ v, e = .returned v ∧ w'.ownsRow W.heap.size 5 1 v 16 tl ∧ Below W.heap.size W w') :
    Calls Try.prog 12 #[.slice K nk ck, .slice N 12 cn, .slice A na ca, .slice B nt ct] w fun e w' => ∃ v, e = .returned (.tuple #[v, .int .i64 0]) ∧ w'.ownsRow w.heap.size 5 1 v (nt + 16) (cl ++ tl) ∧ Below w.heap.size w w' := by
  obtain ⟨j0, hi, hz0, hz1, hz2⟩ := info_parts info_b
  have hm := rmay6_any K N nk 12 ck cn w
  rw [decide_eq_true ⟨hk16, rfl⟩] at hm
  have HM := Lib.hid hm; clear hm
  have HC := Lib.hid hC; clear hC
  have HT := Lib.hid hT; clear hT
  have hai : ¬ (65536 : Int) < (na : Int) := by omega
  have hti : ¬ (65536 : Int) < (nt : Int) := by omega
  clear hk16
  go_enter Try.func12, Try.ntmps12
  go_wp2_with fail
  refine HM.out.mono ?_
  rintro e w1 ⟨rfl, rfl⟩
  go_wp2_with fail
  refine HC.out.mono ?_
  rintro e w2 ⟨v, rfl, hown, hb⟩
  obtain ⟨C, c, rfl, _, hr⟩ := Rd.of_own hown
  have HO := Lib.hid hown; clear hown
  have HB := Lib.hid hb; clear hb
  go_wp2_with fail
  refine (HT.out w2 C c HB.out hr).mono ?_
  rintro e w3 ⟨t, rfl, hown3, hb3⟩
  obtain ⟨D, d, rfl, hD, hr3⟩ := Rd.of_own hown3
  obtain ⟨ad, rfl, hab, hac⟩ := hr3 (by rw [htl]; decide)
  have hown := own_below HO.out hb3
  have hsz := hb3.size
  replace HB : Hid (Below w1.heap.size w1 w3) := Lib.hid (HB.out.trans (hb3.mono HB.out.size))
  have hsz1 := HB.out.size
  clear hr hr3 HO
  go_wp2_with (at_builtin; go_loud (refine wpList_append_own _ rfl _ _ _ rfl w1.heap.size 5 j0 (.int .u8 0) 1 1 Try.underlying22 hi hz0 hz1 hz2 rfl (by omega) (.slice C nt c) nt _ rfl hown ad 16 d tl rfl (by rw [htl]) (fun j u hj => hac j u hj) ht1 (by unfold maxLen; omega) (by omega) (by omega) ?_; intro v' w' hown' hgrow' hnil'))
  go_ret2
  exact ⟨_, rfl, hown', HB.out.grown hgrow' hsz1 (fun k hk => (hown.lt k hk).1)⟩

set_option maxRecDepth 100000 in
set_option maxHeartbeats 4000000 in
theorem ropen_no (K N A B : Option Addr) (nk nn na ns ck cn ca cs : Nat) (h : opnE nk nn na ns ≠ 0) (w : World) :
    Calls Try.prog 15 #[.slice K nk ck, .slice N nn cn, .slice A na ca, .slice B ns cs] w fun e w' => e = .returned (.tuple #[.slice none 0 0, .int .i64 (opnE nk nn na ns : Int)]) ∧ w' = w := by
  have hm := rmay6_any K N nk nn ck cn w
  by_cases h1 : (nk = 16 ∨ nk = 32) ∧ nn = 12
  · rw [decide_eq_true h1] at hm
    have HM := Lib.hid hm; clear hm
    by_cases ha : 65536 < na
    · have e : opnE nk nn na ns = 3 := by unfold opnE; rw [if_pos h1, if_pos (.inl ha)]
      rw [e]
      have hai : (65536 : Int) < (na : Int) := by omega
      clear e h h1
      go_enter Try.func15, Try.ntmps15
      go_wp2_with fail
      refine HM.out.mono ?_
      rintro e w1 ⟨rfl, rfl⟩
      go_wp2_with fail
      go_ret2
      exact ⟨rfl, rfl⟩
    · have hai : ¬ (65536 : Int) < (na : Int) := by omega
      by_cases ht : 65552 < ns
      · have e : opnE nk nn na ns = 3 := by unfold opnE; rw [if_pos h1, if_pos (.inr ht)]
        rw [e]
        have hti : (65552 : Int) < (ns : Int) := by omega
        clear e h h1
        go_enter Try.func15, Try.ntmps15
        go_wp2_with fail
        refine HM.out.mono ?_
        rintro e w1 ⟨rfl, rfl⟩
        go_wp2_with fail
        go_ret2
        exact ⟨rfl, rfl⟩
      · have hti : ¬ (65552 : Int) < (ns : Int) := by omega
        by_cases hs : ns < 16
        · have e : opnE nk nn na ns = 4 := by unfold opnE; rw [if_pos h1, if_neg (by omega), if_pos hs]
          rw [e]
          have hsi : (ns : Int) < 16 := by omega
          clear e h h1
          go_enter Try.func15, Try.ntmps15
          go_wp2_with fail
          refine HM.out.mono ?_
          rintro e w1 ⟨rfl, rfl⟩
          go_wp2_with fail
          go_ret2
          exact ⟨rfl, rfl⟩
        · exact absurd (by unfold opnE; rw [if_pos h1, if_neg (by omega), if_neg hs]) h
  · rw [decide_eq_false h1] at hm
    have HM := Lib.hid hm; clear hm
    have e : opnE nk nn na ns = 2 := by unfold opnE; rw [if_neg h1]
    rw [e]
    clear e h h1
    go_enter Try.func15, Try.ntmps15
    go_wp2_with fail
    refine HM.out.mono ?_
    rintro e w1 ⟨rfl, rfl⟩
    go_wp2_with fail
    go_ret2
    exact ⟨rfl, rfl⟩


theorem same_bool (A B : Option Addr) (a b : List UInt8) (n m ca cb : Nat) (hn : a.length = n) (hm : b.length = m) (w : World) {BA BB : Nat} (h : Rd w BA A (vb a)) (h' : Rd w BB B (vb b)) :
    Calls Try.prog 13 #[.slice A n ca, .slice B m cb] w fun e w' => e = .returned (.bool (a == b)) ∧ Below w.heap.size w w' := by
  refine (rsamev_any A B a b n m ca cb hn hm w h h').mono ?_
  rintro e w' ⟨rfl, rfl⟩
  exact ⟨rfl, Below.refl _ _⟩
theorem run_tailB {P : Program} (t e : TypeId) (i : TypeInfo) (ht : P.underlying t = some (.slice e)) (hi : P.info? e = some i) (hs : i.size = 1) (bd : Addr) (len cap n : Nat) (hn : n ≤ len) (hl : len ≤ cap) (hc : n < cap) (w : World) :
    (Instr.slice t (.slice (some bd) len cap) (some (.int .i64 (n : Int))) none none).run P w = .ok (.slice (some (bd.add n)) (len - n) (cap - n)) w := by
  have h1 : cap ≠ n := by omega
  have h2 : ¬ len < n := by omega
  have h3 : ¬ cap < len := by omega
  simp [Instr.slice, run_underlying ht, Instr.sliceBounds, Instr.sliceBound, asIntOf, sizeOf, typeInfo, hi, hs, h1]
  omega
theorem Rd.tail {w : World} {B : Nat} {bd : Addr} {xs : List Value} (h : Rd w B (some bd) xs) (n : Nat) : Rd w B (some (bd.add n)) (xs.drop n) := fun h0 => by
  rw [List.length_drop] at h0
  obtain ⟨ad, e, hb, hc⟩ := h (by omega)
  cases e
  refine ⟨bd.add n, rfl, by rw [add_block]; exact hb, fun j v hj => ?_⟩
  rw [List.getElem?_drop] at hj
  rw [show (bd.add n).add j = bd.add (n + j) from by unfold Addr.add; split <;> split <;> simp_all <;> omega]
  exact hc _ _ hj

set_option maxRecDepth 100000 in
set_option maxHeartbeats 4000000 in
theorem ropen_any (K N A B : Option Addr) (nk na ns m ck cn ca cs : Nat) (hk16 : nk = 16 ∨ nk = 32) (hna : na ≤ 65536) (hns : ns ≤ 65552) (hm : ns = m + 16) (hcs : ns ≤ cs) (sl : List UInt8) (hsl : sl.length = ns) (tb : List UInt8) (htb : tb.length = 16) (pl : List Value) (w : World)
    (hB : Rd w w.heap.size B (vb sl))
    (hT : ∀ W : World, Below w.heap.size w W → Calls Try.prog 21 #[.slice K nk ck, .slice N 12 cn, .slice A na ca, .slice B m cs] W fun e w' => ∃ v, e = .returned v ∧ w'.ownsRow W.heap.size 5 1 v 16 (vb tb) ∧ Below W.heap.size W w')
    (hC : ∀ W : World, Below w.heap.size w W → Calls Try.prog 20 #[.slice K nk ck, .slice N 12 cn, .slice B m cs] W fun e w' => ∃ v, e = .returned v ∧ w'.ownsRow W.heap.size 5 1 v m pl ∧ Below W.heap.size W w') :
    Calls Try.prog 15 #[.slice K nk ck, .slice N 12 cn, .slice A na ca, .slice B ns cs] w fun e w' =>
      (tb = sl.drop m → ∃ v, e = .returned (.tuple #[v, .int .i64 0]) ∧ w'.ownsRow w.heap.size 5 1 v m pl) ∧ (tb ≠ sl.drop m → e = .returned (.tuple #[.slice none 0 0, .int .i64 60])) ∧ Below w.heap.size w w' := by
  obtain ⟨j0, hi, hz0, hz1, hz2⟩ := info_parts info_b
  obtain ⟨bd, rfl, hbd, hbc⟩ := hB (by simp [vb]; omega)
  clear hbd hbc
  have hmay := rmay6_any K N nk 12 ck cn w
  rw [decide_eq_true ⟨hk16, rfl⟩] at hmay
  have HM := Lib.hid hmay; clear hmay
  have hT2 : ∀ W : World, Below w.heap.size w W → Calls Try.prog 21 #[.slice K nk ck, .slice N 12 cn, .slice A na ca, .slice (some bd) m cs] W fun e w' => ∃ C c, e = .returned (.slice C 16 c) ∧ Rd w' w'.heap.size C (vb tb) ∧ Below W.heap.size W w' := fun W hb => (hT W hb).mono (by
    rintro e w' ⟨v, rfl, hown, hb⟩
    obtain ⟨C, c, rfl, _, hr⟩ := Rd.of_own hown
    exact ⟨C, c, rfl, hr, hb⟩)
  have HT := Lib.hid hT2; clear hT hT2
  have HC := Lib.hid hC; clear hC
  have HB := Lib.hid hB; clear hB
  have r1 := fun w : World => run_head (P := Try.prog) 22 5 j0 Try.underlying22 hi (some bd) ns cs m (by omega) w
  have r2 := fun w : World => run_tailB (P := Try.prog) 22 5 j0 Try.underlying22 hi hz1 bd ns cs m (by omega) hcs (by omega) w
  rw [show ns - m = 16 from by omega] at r2
  have hai : ¬ (65536 : Int) < (na : Int) := by omega
  have hti : ¬ (65552 : Int) < (ns : Int) := by omega
  have hsi : ¬ (ns : Int) < 16 := by omega
  have hsub : IntKind.i64.wrap ((ns : Int) - 16) = (m : Int) := by rw [show (ns : Int) - 16 = (m : Int) from by omega]; exact IntWalk.i64_in _ (by omega)
  have hsub2 : (ns : Int) - 16 = (m : Int) := by omega
  have hdl : (sl.drop m).length = 16 := by rw [List.length_drop]; omega
  have hvd : (vb sl).drop m = vb (sl.drop m) := by simp [vb]
  have hRt := HB.out.tail m
  rw [hvd] at hRt
  have HRT := Lib.hid hRt; clear hRt hvd
  clear hi hz0 hz1 hz2 hk16 hsl
  obtain ⟨dl, hdd⟩ : ∃ dl, dl = sl.drop m := ⟨_, rfl⟩
  rw [← hdd] at hdl HRT
  rw [← hdd]
  have HM2 := Lib.hid hm; clear hm hdd
  go_enter Try.func15, Try.ntmps15
  go_wp2_with fail
  refine HM.out.mono ?_
  rintro e w1 ⟨rfl, rfl⟩
  go_wp2_with fail
  refine wp_region_noPanic ?_
  refine wp_region_held_drew (S := (fun w' => Below w1.heap.size w1 w')) (by kernel_rfl) ?_ (fun hHeld => ?_)
  · exact (Below.refl w1.heap.size w1).drew
  have hs2 : Below w1.heap.size w1 w1.drew := (Below.refl w1.heap.size w1).drew
  generalize w1.drew = ws1 at *
  refine wpAnyH_take (i := 0) (v := ?_) rfl (by kernel_rfl) (by kernel_rfl) (by kernel_rfl) (fun _ _ _ h => h) (Or.inl ⟨by rfl, ?_⟩) hHeld ?_
  rotate_left
  · intro w' hSw
    (try dsimp only at hSw)
    go_simp
    try with_reducible rfl
  try simp only [Act.put, zq1, zq2, zq3, zq4, zq5, zq6]
  refine wpAnyH_take (i := 1) (v := ?_) rfl (by kernel_rfl) (by kernel_rfl) (by kernel_rfl) (fun _ _ _ h => h) (Or.inl ⟨by rfl, ?_⟩) hHeld ?_
  rotate_left
  · intro w' hSw
    (try dsimp only at hSw)
    go_simp
    try with_reducible rfl
  try simp only [Act.put, zq1, zq2, zq3, zq4, zq5, zq6]
  refine wpAnyH_take (i := 2) (v := ?_) rfl (by kernel_rfl) (by kernel_rfl) (by kernel_rfl) (fun _ _ _ h => h) (Or.inl ⟨by rfl, ?_⟩) hHeld ?_
  rotate_left
  · intro w' hSw
    (try dsimp only at hSw)
    go_simp
    try with_reducible rfl
  try simp only [Act.put, zq1, zq2, zq3, zq4, zq5, zq6]
  refine wpAnyH_take (i := 3) (v := ?_) rfl (by kernel_rfl) (by kernel_rfl) (by kernel_rfl) (fun _ _ _ h => h) (Or.inl ⟨by rfl, ?_⟩) hHeld ?_
  rotate_left
  · intro w' hSw
    (try dsimp only at hSw)
    go_simp
    try with_reducible rfl
  try simp only [Act.put, zq1, zq2, zq3, zq4, zq5, zq6]
  refine wpAnyH_take (i := 4) (v := ?_) rfl (by kernel_rfl) (by kernel_rfl) (by kernel_rfl) (fun _ _ _ h => h) (Or.inl ⟨by rfl, ?_⟩) hHeld ?_
  rotate_left
  · intro w' hSw
    (try dsimp only at hSw)
    go_simp
    try with_reducible rfl
  try simp only [Act.put, zq1, zq2, zq3, zq4, zq5, zq6]
  refine wpAnyH_take (i := 5) (v := ?_) rfl (by kernel_rfl) (by kernel_rfl) (by kernel_rfl) (fun _ _ _ h => h) (Or.inl ⟨by rfl, ?_⟩) hHeld ?_
  rotate_left
  · intro w' hSw
    (try dsimp only at hSw)
    go_simp
    try with_reducible rfl
  try simp only [Act.put, zq1, zq2, zq3, zq4, zq5, zq6]
  refine wpAnyH_take (i := 7) (v := ?_) rfl (by kernel_rfl) (by kernel_rfl) (by kernel_rfl) (fun _ _ _ h => h) (Or.inl ⟨by rfl, ?_⟩) hHeld ?_
  rotate_left
  · intro w' hSw
    (try dsimp only at hSw)
    go_simp
    try with_reducible rfl
  try simp only [Act.put, zq1, zq2, zq3, zq4, zq5, zq6]
  refine wpAnyH_take (i := 8) (v := ?_) rfl (by kernel_rfl) (by kernel_rfl) (by kernel_rfl) (fun _ _ _ h => h) (Or.inl ⟨by rfl, ?_⟩) hHeld ?_
  rotate_left
  · intro w' hSw
    (try dsimp only at hSw)
    go_simp
    try with_reducible rfl
  try simp only [Act.put, zq1, zq2, zq3, zq4, zq5, zq6]
  refine wpAnyH_take (i := 9) (v := ?_) rfl (by kernel_rfl) (by kernel_rfl) (by kernel_rfl) (fun _ _ _ h => h) (Or.inl ⟨by rfl, ?_⟩) hHeld ?_
  rotate_left
  · intro w' hSw
    (try dsimp only at hSw)
    go_simp
    try with_reducible rfl
  try simp only [Act.put, zq1, zq2, zq3, zq4, zq5, zq6]
  refine wpAnyH_ready (rs := [6]) (by kernel_rfl) (by simp) ?_
  refine AllReadyH.cons rfl (fun K hK => ?_) (AllReadyH.nil)
  try simp only [zq1, zq2, zq3]
  go_simp
  refine (HT.out ws1 (hs2)).mono ?_
  rintro e w3 ⟨C, c, rfl, hr, hb4⟩
  have hw5 : Below w1.heap.size w1 w3 := hs2.trans (hb4.mono hs2.size)
  refine hK.out _ _ ?_ (fun hHeld => ?_)
  · exact hw5
  clear hK K
  try simp only [Act.put, zq1, zq2, zq3, zq4, zq5, zq6]
  clear hb4
  refine wpAnyH_ready (rs := [10]) (by kernel_rfl) (by simp) ?_
  refine AllReadyH.cons rfl (fun K hK => ?_) (AllReadyH.nil)
  try simp only [zq1, zq2, zq3]
  go_simp
  refine (same_bool C (some (bd.add m)) tb dl 16 16 c (cs - m) htb hdl w3 hr (HRT.out.go (hw5))).mono ?_
  rintro e w6 ⟨rfl, hb7⟩
  have hw8 : Below w1.heap.size w1 w6 := hw5.trans (hb7.mono hw5.size)
  refine hK.out _ _ ?_ (fun hHeld => ?_)
  · exact hw8
  clear hK K
  try simp only [Act.put, zq1, zq2, zq3, zq4, zq5, zq6]
  clear hb7
  refine wpAnyH_take (i := 11) (v := ?_) rfl (by kernel_rfl) (by kernel_rfl) (by kernel_rfl) (fun _ _ _ h => h) (Or.inl ⟨by rfl, ?_⟩) hHeld ?_
  rotate_left
  · intro w' hSw
    (try dsimp only at hSw)
    go_simp
    try with_reducible rfl
  try simp only [Act.put, zq1, zq2, zq3, zq4, zq5, zq6]
  refine wpAnyH_done (by kernel_rfl) ?_ _
  refine NoPanic.normal ?_
  have HBB : Hid (Below w1.heap.size w1 w6) := Lib.hid hw8
  by_cases hq : tb = dl
  · have hqb : (tb == dl) = true := by simp [hq]
    rw [hqb]
    clear hqb r2
    go_wp2_with fail
    refine (HC.out _ HBB.out).mono ?_
    rintro e w4 ⟨v, rfl, ho4, hb4⟩
    go_wp2_with fail
    go_ret2
    exact ⟨fun _ => ⟨_, rfl, own_lowerG ho4 HBB.out.size⟩, fun h => absurd hq h, HBB.out.trans (hb4.mono HBB.out.size)⟩
  · have hqb : (tb == dl) = false := by simp [hq]
    rw [hqb]
    clear hqb r2 r1
    go_wp2_with fail
    go_ret2
    exact ⟨fun h => absurd h hq, fun _ => rfl, HBB.out⟩
end Go.Proofs.Ytkfmgjipocmkjaa
