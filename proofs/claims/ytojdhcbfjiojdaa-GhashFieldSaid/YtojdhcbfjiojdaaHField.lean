/-
  The field: products hang on no order and on no brackets, spread over sums, and one element changes nothing: GhashField, for every input.
-/
import Derived.Test.YtojdhcbfjiojdaaLaw
import Derived.Test.YtojdhcbfjiojdaaGhL
namespace Go.Proofs.Ytojdhcbfjiojdaa
open Go Go.RowKit Go.ChangeShapes Go.WideShapes Go.ChangeAt
set_option linter.unusedVariables false
set_option linter.unusedSimpArgs false

theorem hby_xor (a b i : Nat) : hby (a ^^^ b) i = hby a i ^^^ hby b i := by
  unfold hby
  rw [show (256 : Nat) = 2 ^ 8 from rfl, ← Nat.pow_mul, ← Nat.shiftRight_eq_div_pow, ← Nat.shiftRight_eq_div_pow, ← Nat.shiftRight_eq_div_pow, Nat.shiftRight_xor_distrib, Nat.xor_mod_two_pow]
theorem fl_comm (f g : Nat → Nat) (hf : B16 f) (hg : B16 g) : sameB (hby (hm (hof (f)) (hof (g)))) (hby (hm (hof (g)) (hof (f)))) = true := by
  rw [hm_comm _ _ (hof_lt f hf) (hof_lt g hg)]; exact sameB_true (E16.refl _)
theorem fl_assoc (f g k : Nat → Nat) (hf : B16 f) (hg : B16 g) (hk : B16 k) : sameB (hby (hm (hof (hby (hm (hof (f)) (hof (g))))) (hof (k)))) (hby (hm (hof (f)) (hof (hby (hm (hof (g)) (hof (k))))))) = true := by
  rw [hby_hof _ (hm_lt _ _ (hof_lt g hg)), hby_hof _ (hm_lt _ _ (hof_lt k hk)), hm_assoc _ _ _ (hof_lt g hg) (hof_lt k hk)]; exact sameB_true (E16.refl _)
theorem fl_sum (f g k : Nat → Nat) (hf : B16 f) (hg : B16 g) (hk : B16 k) : sameB (hby (hm (hof (f)) (hof (fun i => g i ^^^ k i)))) (fun i => hby (hm (hof (f)) (hof (g))) i ^^^ hby (hm (hof (f)) (hof (k))) i) = true := by
  rw [hof_xor g k hg hk, hm_add_r]
  exact sameB_true fun i _ => hby_xor _ _ i
theorem fl_one (f : Nat → Nat) (hf : B16 f) : sameB (hby (hm (hof (f)) (hof (oneF)))) f = true := by
  rw [oneF_hof, hm_one _ (hof_lt f hf)]
  exact sameB_true fun i hi => hof_hby f hf i hi
theorem hby_nought (i : Nat) : hby 0 i = 0 := by simp [hby]
theorem fl_none (f : Nat → Nat) : sameB (hby (hm (hof (f)) (hof (fun _ => 0)))) (fun _ => 0) = true := by
  rw [hof_nought, hm_nought_r]
  exact sameB_true fun i _ => hby_nought i
theorem fl_zero (f : Nat → Nat) (hf : B16 f) : sameB f (fun _ => 0) = decide (hof f = 0) := by
  rw [Bool.eq_iff_iff, sameB_iff, decide_eq_true_iff]
  constructor
  · intro h
    rw [hof_congr fun i hi => h i hi, hof_nought]
  · intro h i hi
    have := hof_hby f hf i hi
    rw [h, hby_nought] at this
    exact this.symm
theorem eqz (f : Nat → Nat) (s : Bool) (h : sameB f (fun _ => 0) = s) (w : World) : (Op.equalIn 10000 22 (.agg (vl 16 f).toArray) (.agg #[.int .u8 0, .int .u8 0, .int .u8 0, .int .u8 0, .int .u8 0, .int .u8 0, .int .u8 0, .int .u8 0, .int .u8 0, .int .u8 0, .int .u8 0, .int .u8 0, .int .u8 0, .int .u8 0, .int .u8 0, .int .u8 0])).run Try.prog w = .ok s w := by
  rw [zero16, ← h]; exact eqin16 f _ w

set_option maxRecDepth 100000 in
set_option maxHeartbeats 20000000 in
theorem hfield_any (f g k : Nat → Nat) (w : World) (hf : ∀ i, i < 16 → f i < 256) (hg : ∀ i, i < 16 → g i < 256) (hk : ∀ i, i < 16 → k i < 256) :
    Calls Try.prog 5 #[.agg (aN 16 f), .agg (aN 16 g), .agg (aN 16 k)] w fun e w' => e = .returned (.bool true) ∧ Below w.heap.size w w' := by
  have HF : Hid (B16 f) := Lib.hid hf; clear hf
  have HG : Hid (B16 g) := Lib.hid hg; clear hg
  have HK : Hid (B16 k) := Lib.hid hk; clear hk
  have X3 : Hid (H16 (((w.alloc (.cells (aN 16 f) 22)).alloc (.cells (aN 16 g) 22)).alloc (.cells (aN 16 k) 22)) w.heap.size f) := Lib.hid (H16.alloc _ (H16.alloc _ (H16.newAt rfl)))
  have X4 : Hid (H16 (((w.alloc (.cells (aN 16 f) 22)).alloc (.cells (aN 16 g) 22)).alloc (.cells (aN 16 k) 22)) (w.heap.size + 1) g) := Lib.hid (H16.alloc _ (H16.newAt (w := w.alloc (.cells (aN 16 f) 22)) (by rw [World.size_alloc])))
  have X5 : Hid (H16 (((w.alloc (.cells (aN 16 f) 22)).alloc (.cells (aN 16 g) 22)).alloc (.cells (aN 16 k) 22)) (w.heap.size + 1 + 1) k) := Lib.hid (H16.newAt (w := (w.alloc (.cells (aN 16 f) 22)).alloc (.cells (aN 16 g) 22)) (by rw [World.size_alloc, World.size_alloc]))
  have HB : Hid (Below w.heap.size w (((w.alloc (.cells (aN 16 f) 22)).alloc (.cells (aN 16 g) 22)).alloc (.cells (aN 16 k) 22))) := Lib.hid ((((Below.refl _ _).alloc (Nat.le_refl _) _).alloc (by simp) _).alloc (by simp; omega) _)
  go_enter Try.func5, Try.ntmps5
  go_upto_region 1 with fail
  generalize ((w.alloc (.cells (aN 16 f) 22)).alloc (.cells (aN 16 g) 22)).alloc (.cells (aN 16 k) 22) = u1 at *
  generalize w.heap.size + 1 + 1 = c5 at *
  obtain ⟨c4, hc4⟩ : ∃ c4, c4 = w.heap.size + 1 := ⟨_, rfl⟩
  rw [← hc4] at X4
  rw [← hc4]
  clear hc4
  obtain ⟨c3, hc3⟩ : ∃ c3, c3 = w.heap.size := ⟨_, rfl⟩
  rw [← hc3] at X3
  rw [← hc3]
  clear hc3
  obtain ⟨pa, hpa⟩ : ∃ F : Nat → Nat, F = (hby (hm (hof (f)) (hof (g)))) := ⟨_, rfl⟩
  have HPa : Hid (B16 pa) := Lib.hid (by rw [hpa]; exact (fun i _ => hby_lt _ i))
  have Ca : Hid (∀ w : World, Calls Try.prog 8 #[.agg (aN 16 (f)), .agg (aN 16 (g))] w fun e w' => e = .returned (.agg (aN 16 pa)) ∧ Below w.heap.size w w') := Lib.hid fun w => by rw [hpa]; exact cmul_any f g w HF.out HG.out
  obtain ⟨pb, hpb⟩ : ∃ F : Nat → Nat, F = (hby (hm (hof (g)) (hof (f)))) := ⟨_, rfl⟩
  have HPb : Hid (B16 pb) := Lib.hid (by rw [hpb]; exact (fun i _ => hby_lt _ i))
  have Cb : Hid (∀ w : World, Calls Try.prog 8 #[.agg (aN 16 (g)), .agg (aN 16 (f))] w fun e w' => e = .returned (.agg (aN 16 pb)) ∧ Below w.heap.size w w') := Lib.hid fun w => by rw [hpb]; exact cmul_any g f w HG.out HF.out
  obtain ⟨pc, hpc⟩ : ∃ F : Nat → Nat, F = (hby (hm (hof (pa)) (hof (k)))) := ⟨_, rfl⟩
  have HPc : Hid (B16 pc) := Lib.hid (by rw [hpc]; exact (fun i _ => hby_lt _ i))
  have Cc : Hid (∀ w : World, Calls Try.prog 8 #[.agg (aN 16 (pa)), .agg (aN 16 (k))] w fun e w' => e = .returned (.agg (aN 16 pc)) ∧ Below w.heap.size w w') := Lib.hid fun w => by rw [hpc]; exact cmul_any pa k w HPa.out HK.out
  obtain ⟨pd, hpd⟩ : ∃ F : Nat → Nat, F = (hby (hm (hof (g)) (hof (k)))) := ⟨_, rfl⟩
  have HPd : Hid (B16 pd) := Lib.hid (by rw [hpd]; exact (fun i _ => hby_lt _ i))
  have Cd : Hid (∀ w : World, Calls Try.prog 8 #[.agg (aN 16 (g)), .agg (aN 16 (k))] w fun e w' => e = .returned (.agg (aN 16 pd)) ∧ Below w.heap.size w w') := Lib.hid fun w => by rw [hpd]; exact cmul_any g k w HG.out HK.out
  obtain ⟨pe, hpe⟩ : ∃ F : Nat → Nat, F = (hby (hm (hof (f)) (hof (pd)))) := ⟨_, rfl⟩
  have HPe : Hid (B16 pe) := Lib.hid (by rw [hpe]; exact (fun i _ => hby_lt _ i))
  have Ce : Hid (∀ w : World, Calls Try.prog 8 #[.agg (aN 16 (f)), .agg (aN 16 (pd))] w fun e w' => e = .returned (.agg (aN 16 pe)) ∧ Below w.heap.size w w') := Lib.hid fun w => by rw [hpe]; exact cmul_any f pd w HF.out HPd.out
  obtain ⟨pg, hpg⟩ : ∃ F : Nat → Nat, F = (fun i => g i ^^^ k i) := ⟨_, rfl⟩
  have HPg : Hid (B16 pg) := Lib.hid (by rw [hpg]; exact (fun i hi => Nat.xor_lt_two_pow (n := 8) (HG.out i hi) (HK.out i hi)))
  have Cg : Hid (∀ w : World, Calls Try.prog 15 #[.agg (aN 16 (g)), .agg (aN 16 (k))] w fun e w' => e = .returned (.agg (aN 16 pg)) ∧ Below w.heap.size w w') := Lib.hid fun w => by rw [hpg]; exact lplus_any g k w HG.out HK.out
  obtain ⟨ph, hph⟩ : ∃ F : Nat → Nat, F = (hby (hm (hof (f)) (hof (pg)))) := ⟨_, rfl⟩
  have HPh : Hid (B16 ph) := Lib.hid (by rw [hph]; exact (fun i _ => hby_lt _ i))
  have Ch : Hid (∀ w : World, Calls Try.prog 8 #[.agg (aN 16 (f)), .agg (aN 16 (pg))] w fun e w' => e = .returned (.agg (aN 16 ph)) ∧ Below w.heap.size w w') := Lib.hid fun w => by rw [hph]; exact cmul_any f pg w HF.out HPg.out
  obtain ⟨pi, hpi⟩ : ∃ F : Nat → Nat, F = (hby (hm (hof (f)) (hof (k)))) := ⟨_, rfl⟩
  have HPi : Hid (B16 pi) := Lib.hid (by rw [hpi]; exact (fun i _ => hby_lt _ i))
  have Ci : Hid (∀ w : World, Calls Try.prog 8 #[.agg (aN 16 (f)), .agg (aN 16 (k))] w fun e w' => e = .returned (.agg (aN 16 pi)) ∧ Below w.heap.size w w') := Lib.hid fun w => by rw [hpi]; exact cmul_any f k w HF.out HK.out
  obtain ⟨pj, hpj⟩ : ∃ F : Nat → Nat, F = (fun i => pa i ^^^ pi i) := ⟨_, rfl⟩
  have HPj : Hid (B16 pj) := Lib.hid (by rw [hpj]; exact (fun i hi => Nat.xor_lt_two_pow (n := 8) (HPa.out i hi) (HPi.out i hi)))
  have Cj : Hid (∀ w : World, Calls Try.prog 15 #[.agg (aN 16 (pa)), .agg (aN 16 (pi))] w fun e w' => e = .returned (.agg (aN 16 pj)) ∧ Below w.heap.size w w') := Lib.hid fun w => by rw [hpj]; exact lplus_any pa pi w HPa.out HPi.out
  obtain ⟨pn, hpn⟩ : ∃ F : Nat → Nat, F = (hby (hm (hof (f)) (hof (fun _ => 0)))) := ⟨_, rfl⟩
  have HPn : Hid (B16 pn) := Lib.hid (by rw [hpn]; exact (fun i _ => hby_lt _ i))
  have Cn : Hid (∀ w : World, Calls Try.prog 8 #[.agg (aN 16 (f)), .agg (aN 16 (fun _ => 0))] w fun e w' => e = .returned (.agg (aN 16 pn)) ∧ Below w.heap.size w w') := Lib.hid fun w => by rw [hpn]; exact cmul_any f (fun _ => 0) w HF.out (fun _ _ => (by decide : (0 : Nat) < 256))
  obtain ⟨po, hpo⟩ : ∃ F : Nat → Nat, F = (hby (hm (hof (f)) (hof (oneF)))) := ⟨_, rfl⟩
  have HPo : Hid (B16 po) := Lib.hid (by rw [hpo]; exact (fun i _ => hby_lt _ i))
  have Co : Hid (∀ w : World, Calls Try.prog 8 #[.agg (aN 16 (f)), .agg (aN 16 (oneF))] w fun e w' => e = .returned (.agg (aN 16 po)) ∧ Below w.heap.size w w') := Lib.hid fun w => by rw [hpo]; exact cmul_any f oneF w HF.out oneF_lt
  have q1 := eqv pa pb true (by rw [hpa, hpb]; exact fl_comm f g HF.out HG.out)
  have q2 := eqv pc pe true (by rw [hpc, hpe, hpd, hpa]; exact fl_assoc f g k HF.out HG.out HK.out)
  have q3 := eqv ph pj true (by rw [hph, hpj, hpg, hpa, hpi]; exact fl_sum f g k HF.out HG.out HK.out)
  have q4 := eqv po f true (by rw [hpo]; exact fl_one f HF.out)
  have q5 := eqz pn true (by rw [hpn]; exact fl_none f)
  have HPA : Hid (sameB pa (fun _ => 0) = decide (hm (hof f) (hof g) = 0)) := Lib.hid (by rw [hpa, fl_zero _ (fun i _ => hby_lt _ i), hby_hof _ (hm_lt _ _ (hof_lt g HG.out))])
  have hg16 := guard16
  clear hpa hpb hpc hpd hpe hpg hph hpi hpj hpn hpo
  go_cut [7, 8] (fun s7 s8 wx => ∃ b7 b8 : Nat, s7 = .pointer (some ⟨b7, 0, none⟩) ∧ s8 = .pointer (some ⟨b8, 0, none⟩) ∧ Hid (H16 wx b7 (pa)) ∧ Hid (H16 wx b8 (pb)) ∧ Hid (Below u1.heap.size u1 wx))
  case first =>
    refine wp_region_noPanic ?_
    refine wp_region_held_drew (S := (fun w' => w'.rangeAt (c3) 0 (vl 16 (f)) ∧ w'.rangeAt (c4) 0 (vl 16 (g)) ∧ Below u1.heap.size u1 w')) (by kernel_rfl) ?_ (fun hHeld => ?_)
    · exact ⟨range_kept ((Below.refl u1.heap.size u1).drew) (row16_range X3.out), range_kept ((Below.refl u1.heap.size u1).drew) (row16_range X4.out), (Below.refl u1.heap.size u1).drew⟩
    have hs2 : Below u1.heap.size u1 u1.drew := (Below.refl u1.heap.size u1).drew
    generalize u1.drew = ws1 at *
    refine wpAnyH_take (i := 0) rfl (by kernel_rfl) (by kernel_rfl) (by kernel_rfl) (fun _ _ _ h => h) (yieldsIf_load_mid (by rfl) 22 (.tmp 3) rfl (c3) (0) rfl (vl 16 (f)) (.array 16 5) (fun _ h => h.1) Try.underlying22 rfl (vln _)) hHeld ?_
    try simp only [Act.put, y1, y2, y3, y4, y5, y6]
    refine wpAnyH_take (i := 1) rfl (by kernel_rfl) (by kernel_rfl) (by kernel_rfl) (fun _ _ _ h => h) (yieldsIf_load_mid (by rfl) 22 (.tmp 4) rfl (c4) (0) rfl (vl 16 (g)) (.array 16 5) (fun _ h => h.2.1) Try.underlying22 rfl (vln _)) hHeld ?_
    try simp only [Act.put, y1, y2, y3, y4, y5, y6]
    refine wpAnyH_take (i := 3) rfl (by kernel_rfl) (by kernel_rfl) (by kernel_rfl) (fun _ _ _ h => h) (yieldsIf_load_mid (by rfl) 22 (.tmp 4) rfl (c4) (0) rfl (vl 16 (g)) (.array 16 5) (fun _ h => h.2.1) Try.underlying22 rfl (vln _)) hHeld ?_
    try simp only [Act.put, y1, y2, y3, y4, y5, y6]
    refine wpAnyH_take (i := 4) rfl (by kernel_rfl) (by kernel_rfl) (by kernel_rfl) (fun _ _ _ h => h) (yieldsIf_load_mid (by rfl) 22 (.tmp 3) rfl (c3) (0) rfl (vl 16 (f)) (.array 16 5) (fun _ h => h.1) Try.underlying22 rfl (vln _)) hHeld ?_
    try simp only [Act.put, y1, y2, y3, y4, y5, y6]
    refine wpAnyH_ready (rs := [2, 6, 7]) (by kernel_rfl) (by simp) ?_
    refine AllReadyH.cons rfl (fun K hK => ?_) (AllReadyH.cons rfl (fun K hK => ?_) (AllReadyH.cons rfl (fun K hK => ?_) (AllReadyH.nil)))
    · try simp only [y1, y2, y3]
      go_simp
      refine (Ca.out _).mono ?_
      rintro e w3 ⟨rfl, hb4⟩
      rw [aN_vl 16 (pa)]
      have hw5 : Below u1.heap.size u1 w3 := hs2.trans (hb4.mono hs2.size)
      refine hK.out _ _ ?_ (fun hHeld => ?_)
      · exact ⟨range_kept (hw5) (row16_range X3.out), range_kept (hw5) (row16_range X4.out), hw5⟩
      clear hK K
      try simp only [Act.put, y1, y2, y3, y4, y5, y6]
      clear hb4
      refine wpAnyH_ready (rs := [5, 6, 7]) (by kernel_rfl) (by simp) ?_
      refine AllReadyH.cons rfl (fun K hK => ?_) (AllReadyH.cons rfl (fun K hK => ?_) (AllReadyH.cons rfl (fun K hK => ?_) (AllReadyH.nil)))
      · try simp only [y1, y2, y3]
        go_simp
        refine (Cb.out _).mono ?_
        rintro e w6 ⟨rfl, hb7⟩
        rw [aN_vl 16 (pb)]
        have hw8 : Below u1.heap.size u1 w6 := hw5.trans (hb7.mono hw5.size)
        refine hK.out _ _ ?_ (fun hHeld => ?_)
        · exact ⟨range_kept (hw8) (row16_range X3.out), range_kept (hw8) (row16_range X4.out), hw8⟩
        clear hK K
        try simp only [Act.put, y1, y2, y3, y4, y5, y6]
        clear hb7
        refine wpAnyH_ready (rs := [6, 7]) (by kernel_rfl) (by simp) ?_
        refine AllReadyH.cons rfl (fun K hK => ?_) (AllReadyH.cons rfl (fun K hK => ?_) (AllReadyH.nil))
        · try simp only [y1, y2, y3]
          go_simp
          have hw10 : Below u1.heap.size u1 (w6.alloc zO) := hw8.alloc hw8.size _
          have hz11 : H16 (w6.alloc zO) w6.heap.size fun _ => 0 := new_h w6
          have hl13 : u1.heap.size ≤ w6.heap.size := hw8.size
          refine hK.out _ _ ?_ (fun hHeld => ?_)
          · exact ⟨range_kept (hw10) (row16_range X3.out), range_kept (hw10) (row16_range X4.out), hw10⟩
          clear hK K
          try simp only [Act.put, y1, y2, y3, y4, y5, y6]
          generalize w6.alloc zO = w9 at *
          generalize w6.heap.size = b12 at *
          refine wpAnyH_ready (rs := [7]) (by kernel_rfl) (by simp) ?_
          refine AllReadyH.cons rfl (fun K hK => ?_) (AllReadyH.nil)
          try simp only [y1, y2, y3]
          go_simp
          have hw15 : Below u1.heap.size u1 (w9.alloc zO) := hw10.alloc hw10.size _
          have hz16 : H16 (w9.alloc zO) w9.heap.size fun _ => 0 := new_h w9
          have hl18 : u1.heap.size ≤ w9.heap.size := hw10.size
          have hz19 := H16.alloc zO hz11
          have hne20 : b12 < w9.heap.size := hz11.lt
          refine hK.out _ _ ?_ (fun hHeld => ?_)
          · exact ⟨range_kept (hw15) (row16_range X3.out), range_kept (hw15) (row16_range X4.out), hw15⟩
          clear hK K
          try simp only [Act.put, y1, y2, y3, y4, y5, y6]
          generalize w9.alloc zO = w14 at *
          generalize w9.heap.size = b17 at *
          refine wpAnyH_ready (rs := [8]) (by kernel_rfl) (by simp) ?_
          refine AllReadyH.cons rfl (fun K hK => ?_) (AllReadyH.nil)
          try simp only [y1, y2, y3]
          rw [if_pos (by rfl)]
          refine wp_store_mid 22 (.tmp 7) (.tmp 16) rfl (b12) (0) (vl 16 (pa)).toArray rfl rfl (H16.there hz19) (vsz _) (von _) ?_
          simp only [Act.put, y1, y2, y3, y4, y5, y6, List.toList_toArray]
          have hw22 : Below u1.heap.size u1 (w14.setCells b12 0 (vl 16 (pa))) := below_store hw15 (by omega) _ 0
          have hz23 : H16 (w14.setCells b12 0 (vl 16 (pa))) b12 (pa) := H16.store hz19 _
          have hz24 : H16 (w14.setCells b12 0 (vl 16 (pa))) b17 _ := H16.storeOther hz16 (by omega) _
          refine hK.out _ _ ?_ (fun hHeld => ?_)
          · exact ⟨range_kept (hw22) (row16_range X3.out), range_kept (hw22) (row16_range X4.out), hw22⟩
          clear hK K
          try simp only [Act.put, y1, y2, y3, y4, y5, y6]
          generalize w14.setCells b12 0 (vl 16 (pa)) = w21 at *
          refine wpAnyH_ready (rs := [9]) (by kernel_rfl) (by simp) ?_
          refine AllReadyH.cons rfl (fun K hK => ?_) (AllReadyH.nil)
          try simp only [y1, y2, y3]
          rw [if_pos (by rfl)]
          refine wp_store_mid 22 (.tmp 8) (.tmp 19) rfl (b17) (0) (vl 16 (pb)).toArray rfl rfl (H16.there hz24) (vsz _) (von _) ?_
          simp only [Act.put, y1, y2, y3, y4, y5, y6, List.toList_toArray]
          have hw26 : Below u1.heap.size u1 (w21.setCells b17 0 (vl 16 (pb))) := below_store hw22 (by omega) _ 0
          have hz27 : H16 (w21.setCells b17 0 (vl 16 (pb))) b17 (pb) := H16.store hz24 _
          have hz28 : H16 (w21.setCells b17 0 (vl 16 (pb))) b12 _ := H16.storeOther hz23 (by omega) _
          refine hK.out _ _ ?_ (fun hHeld => ?_)
          · exact ⟨range_kept (hw26) (row16_range X3.out), range_kept (hw26) (row16_range X4.out), hw26⟩
          clear hK K
          try simp only [Act.put, y1, y2, y3, y4, y5, y6]
          generalize w21.setCells b17 0 (vl 16 (pb)) = w25 at *
          refine wpAnyH_done (by kernel_rfl) ?_ _
          refine NoPanic.normal ?_
          go_wp2_with fail
          go_meet
          refine ⟨_, _, rfl, rfl, Lib.hid hz28, Lib.hid hz27, Lib.hid hw26⟩
        · try simp only [y1, y2, y3]
          go_simp
          have hw30 : Below u1.heap.size u1 (w6.alloc zO) := hw8.alloc hw8.size _
          have hz31 : H16 (w6.alloc zO) w6.heap.size fun _ => 0 := new_h w6
          have hl33 : u1.heap.size ≤ w6.heap.size := hw8.size
          refine hK.out _ _ ?_ (fun hHeld => ?_)
          · exact ⟨range_kept (hw30) (row16_range X3.out), range_kept (hw30) (row16_range X4.out), hw30⟩
          clear hK K
          try simp only [Act.put, y1, y2, y3, y4, y5, y6]
          generalize w6.alloc zO = w29 at *
          generalize w6.heap.size = b32 at *
          refine wpAnyH_ready (rs := [6]) (by kernel_rfl) (by simp) ?_
          refine AllReadyH.cons rfl (fun K hK => ?_) (AllReadyH.nil)
          try simp only [y1, y2, y3]
          go_simp
          have hw35 : Below u1.heap.size u1 (w29.alloc zO) := hw30.alloc hw30.size _
          have hz36 : H16 (w29.alloc zO) w29.heap.size fun _ => 0 := new_h w29
          have hl38 : u1.heap.size ≤ w29.heap.size := hw30.size
          have hz39 := H16.alloc zO hz31
          have hne40 : b32 < w29.heap.size := hz31.lt
          refine hK.out _ _ ?_ (fun hHeld => ?_)
          · exact ⟨range_kept (hw35) (row16_range X3.out), range_kept (hw35) (row16_range X4.out), hw35⟩
          clear hK K
          try simp only [Act.put, y1, y2, y3, y4, y5, y6]
          generalize w29.alloc zO = w34 at *
          generalize w29.heap.size = b37 at *
          refine wpAnyH_ready (rs := [8]) (by kernel_rfl) (by simp) ?_
          refine AllReadyH.cons rfl (fun K hK => ?_) (AllReadyH.nil)
          try simp only [y1, y2, y3]
          rw [if_pos (by rfl)]
          refine wp_store_mid 22 (.tmp 7) (.tmp 16) rfl (b37) (0) (vl 16 (pa)).toArray rfl rfl (H16.there hz36) (vsz _) (von _) ?_
          simp only [Act.put, y1, y2, y3, y4, y5, y6, List.toList_toArray]
          have hw42 : Below u1.heap.size u1 (w34.setCells b37 0 (vl 16 (pa))) := below_store hw35 (by omega) _ 0
          have hz43 : H16 (w34.setCells b37 0 (vl 16 (pa))) b37 (pa) := H16.store hz36 _
          have hz44 : H16 (w34.setCells b37 0 (vl 16 (pa))) b32 _ := H16.storeOther hz39 (by omega) _
          refine hK.out _ _ ?_ (fun hHeld => ?_)
          · exact ⟨range_kept (hw42) (row16_range X3.out), range_kept (hw42) (row16_range X4.out), hw42⟩
          clear hK K
          try simp only [Act.put, y1, y2, y3, y4, y5, y6]
          generalize w34.setCells b37 0 (vl 16 (pa)) = w41 at *
          refine wpAnyH_ready (rs := [9]) (by kernel_rfl) (by simp) ?_
          refine AllReadyH.cons rfl (fun K hK => ?_) (AllReadyH.nil)
          try simp only [y1, y2, y3]
          rw [if_pos (by rfl)]
          refine wp_store_mid 22 (.tmp 8) (.tmp 19) rfl (b32) (0) (vl 16 (pb)).toArray rfl rfl (H16.there hz44) (vsz _) (von _) ?_
          simp only [Act.put, y1, y2, y3, y4, y5, y6, List.toList_toArray]
          have hw46 : Below u1.heap.size u1 (w41.setCells b32 0 (vl 16 (pb))) := below_store hw42 (by omega) _ 0
          have hz47 : H16 (w41.setCells b32 0 (vl 16 (pb))) b32 (pb) := H16.store hz44 _
          have hz48 : H16 (w41.setCells b32 0 (vl 16 (pb))) b37 _ := H16.storeOther hz43 (by omega) _
          refine hK.out _ _ ?_ (fun hHeld => ?_)
          · exact ⟨range_kept (hw46) (row16_range X3.out), range_kept (hw46) (row16_range X4.out), hw46⟩
          clear hK K
          try simp only [Act.put, y1, y2, y3, y4, y5, y6]
          generalize w41.setCells b32 0 (vl 16 (pb)) = w45 at *
          refine wpAnyH_done (by kernel_rfl) ?_ _
          refine NoPanic.normal ?_
          go_wp2_with fail
          go_meet
          refine ⟨_, _, rfl, rfl, Lib.hid hz48, Lib.hid hz47, Lib.hid hw46⟩
      · try simp only [y1, y2, y3]
        go_simp
        have hw50 : Below u1.heap.size u1 (w3.alloc zO) := hw5.alloc hw5.size _
        have hz51 : H16 (w3.alloc zO) w3.heap.size fun _ => 0 := new_h w3
        have hl53 : u1.heap.size ≤ w3.heap.size := hw5.size
        refine hK.out _ _ ?_ (fun hHeld => ?_)
        · exact ⟨range_kept (hw50) (row16_range X3.out), range_kept (hw50) (row16_range X4.out), hw50⟩
        clear hK K
        try simp only [Act.put, y1, y2, y3, y4, y5, y6]
        generalize w3.alloc zO = w49 at *
        generalize w3.heap.size = b52 at *
        refine wpAnyH_ready (rs := [5, 7]) (by kernel_rfl) (by simp) ?_
        refine AllReadyH.cons rfl (fun K hK => ?_) (AllReadyH.cons rfl (fun K hK => ?_) (AllReadyH.nil))
        · try simp only [y1, y2, y3]
          go_simp
          refine (Cb.out _).mono ?_
          rintro e w54 ⟨rfl, hb55⟩
          rw [aN_vl 16 (pb)]
          have hw56 : Below u1.heap.size u1 w54 := hw50.trans (hb55.mono hw50.size)
          have hz57 := H16.call hb55 hz51
          refine hK.out _ _ ?_ (fun hHeld => ?_)
          · exact ⟨range_kept (hw56) (row16_range X3.out), range_kept (hw56) (row16_range X4.out), hw56⟩
          clear hK K
          try simp only [Act.put, y1, y2, y3, y4, y5, y6]
          clear hb55
          refine wpAnyH_ready (rs := [7]) (by kernel_rfl) (by simp) ?_
          refine AllReadyH.cons rfl (fun K hK => ?_) (AllReadyH.nil)
          try simp only [y1, y2, y3]
          go_simp
          have hw59 : Below u1.heap.size u1 (w54.alloc zO) := hw56.alloc hw56.size _
          have hz60 : H16 (w54.alloc zO) w54.heap.size fun _ => 0 := new_h w54
          have hl62 : u1.heap.size ≤ w54.heap.size := hw56.size
          have hz63 := H16.alloc zO hz57
          have hne64 : b52 < w54.heap.size := hz57.lt
          refine hK.out _ _ ?_ (fun hHeld => ?_)
          · exact ⟨range_kept (hw59) (row16_range X3.out), range_kept (hw59) (row16_range X4.out), hw59⟩
          clear hK K
          try simp only [Act.put, y1, y2, y3, y4, y5, y6]
          generalize w54.alloc zO = w58 at *
          generalize w54.heap.size = b61 at *
          refine wpAnyH_ready (rs := [8]) (by kernel_rfl) (by simp) ?_
          refine AllReadyH.cons rfl (fun K hK => ?_) (AllReadyH.nil)
          try simp only [y1, y2, y3]
          rw [if_pos (by rfl)]
          refine wp_store_mid 22 (.tmp 7) (.tmp 16) rfl (b52) (0) (vl 16 (pa)).toArray rfl rfl (H16.there hz63) (vsz _) (von _) ?_
          simp only [Act.put, y1, y2, y3, y4, y5, y6, List.toList_toArray]
          have hw66 : Below u1.heap.size u1 (w58.setCells b52 0 (vl 16 (pa))) := below_store hw59 (by omega) _ 0
          have hz67 : H16 (w58.setCells b52 0 (vl 16 (pa))) b52 (pa) := H16.store hz63 _
          have hz68 : H16 (w58.setCells b52 0 (vl 16 (pa))) b61 _ := H16.storeOther hz60 (by omega) _
          refine hK.out _ _ ?_ (fun hHeld => ?_)
          · exact ⟨range_kept (hw66) (row16_range X3.out), range_kept (hw66) (row16_range X4.out), hw66⟩
          clear hK K
          try simp only [Act.put, y1, y2, y3, y4, y5, y6]
          generalize w58.setCells b52 0 (vl 16 (pa)) = w65 at *
          refine wpAnyH_ready (rs := [9]) (by kernel_rfl) (by simp) ?_
          refine AllReadyH.cons rfl (fun K hK => ?_) (AllReadyH.nil)
          try simp only [y1, y2, y3]
          rw [if_pos (by rfl)]
          refine wp_store_mid 22 (.tmp 8) (.tmp 19) rfl (b61) (0) (vl 16 (pb)).toArray rfl rfl (H16.there hz68) (vsz _) (von _) ?_
          simp only [Act.put, y1, y2, y3, y4, y5, y6, List.toList_toArray]
          have hw70 : Below u1.heap.size u1 (w65.setCells b61 0 (vl 16 (pb))) := below_store hw66 (by omega) _ 0
          have hz71 : H16 (w65.setCells b61 0 (vl 16 (pb))) b61 (pb) := H16.store hz68 _
          have hz72 : H16 (w65.setCells b61 0 (vl 16 (pb))) b52 _ := H16.storeOther hz67 (by omega) _
          refine hK.out _ _ ?_ (fun hHeld => ?_)
          · exact ⟨range_kept (hw70) (row16_range X3.out), range_kept (hw70) (row16_range X4.out), hw70⟩
          clear hK K
          try simp only [Act.put, y1, y2, y3, y4, y5, y6]
          generalize w65.setCells b61 0 (vl 16 (pb)) = w69 at *
          refine wpAnyH_done (by kernel_rfl) ?_ _
          refine NoPanic.normal ?_
          go_wp2_with fail
          go_meet
          refine ⟨_, _, rfl, rfl, Lib.hid hz72, Lib.hid hz71, Lib.hid hw70⟩
        · try simp only [y1, y2, y3]
          go_simp
          have hw74 : Below u1.heap.size u1 (w49.alloc zO) := hw50.alloc hw50.size _
          have hz75 : H16 (w49.alloc zO) w49.heap.size fun _ => 0 := new_h w49
          have hl77 : u1.heap.size ≤ w49.heap.size := hw50.size
          have hz78 := H16.alloc zO hz51
          have hne79 : b52 < w49.heap.size := hz51.lt
          refine hK.out _ _ ?_ (fun hHeld => ?_)
          · exact ⟨range_kept (hw74) (row16_range X3.out), range_kept (hw74) (row16_range X4.out), hw74⟩
          clear hK K
          try simp only [Act.put, y1, y2, y3, y4, y5, y6]
          generalize w49.alloc zO = w73 at *
          generalize w49.heap.size = b76 at *
          refine wpAnyH_ready (rs := [5]) (by kernel_rfl) (by simp) ?_
          refine AllReadyH.cons rfl (fun K hK => ?_) (AllReadyH.nil)
          try simp only [y1, y2, y3]
          go_simp
          refine (Cb.out _).mono ?_
          rintro e w80 ⟨rfl, hb81⟩
          rw [aN_vl 16 (pb)]
          have hw82 : Below u1.heap.size u1 w80 := hw74.trans (hb81.mono hw74.size)
          have hz83 := H16.call hb81 hz78
          have hz84 := H16.call hb81 hz75
          refine hK.out _ _ ?_ (fun hHeld => ?_)
          · exact ⟨range_kept (hw82) (row16_range X3.out), range_kept (hw82) (row16_range X4.out), hw82⟩
          clear hK K
          try simp only [Act.put, y1, y2, y3, y4, y5, y6]
          clear hb81
          refine wpAnyH_ready (rs := [8]) (by kernel_rfl) (by simp) ?_
          refine AllReadyH.cons rfl (fun K hK => ?_) (AllReadyH.nil)
          try simp only [y1, y2, y3]
          rw [if_pos (by rfl)]
          refine wp_store_mid 22 (.tmp 7) (.tmp 16) rfl (b52) (0) (vl 16 (pa)).toArray rfl rfl (H16.there hz83) (vsz _) (von _) ?_
          simp only [Act.put, y1, y2, y3, y4, y5, y6, List.toList_toArray]
          have hw86 : Below u1.heap.size u1 (w80.setCells b52 0 (vl 16 (pa))) := below_store hw82 (by omega) _ 0
          have hz87 : H16 (w80.setCells b52 0 (vl 16 (pa))) b52 (pa) := H16.store hz83 _
          have hz88 : H16 (w80.setCells b52 0 (vl 16 (pa))) b76 _ := H16.storeOther hz84 (by omega) _
          refine hK.out _ _ ?_ (fun hHeld => ?_)
          · exact ⟨range_kept (hw86) (row16_range X3.out), range_kept (hw86) (row16_range X4.out), hw86⟩
          clear hK K
          try simp only [Act.put, y1, y2, y3, y4, y5, y6]
          generalize w80.setCells b52 0 (vl 16 (pa)) = w85 at *
          refine wpAnyH_ready (rs := [9]) (by kernel_rfl) (by simp) ?_
          refine AllReadyH.cons rfl (fun K hK => ?_) (AllReadyH.nil)
          try simp only [y1, y2, y3]
          rw [if_pos (by rfl)]
          refine wp_store_mid 22 (.tmp 8) (.tmp 19) rfl (b76) (0) (vl 16 (pb)).toArray rfl rfl (H16.there hz88) (vsz _) (von _) ?_
          simp only [Act.put, y1, y2, y3, y4, y5, y6, List.toList_toArray]
          have hw90 : Below u1.heap.size u1 (w85.setCells b76 0 (vl 16 (pb))) := below_store hw86 (by omega) _ 0
          have hz91 : H16 (w85.setCells b76 0 (vl 16 (pb))) b76 (pb) := H16.store hz88 _
          have hz92 : H16 (w85.setCells b76 0 (vl 16 (pb))) b52 _ := H16.storeOther hz87 (by omega) _
          refine hK.out _ _ ?_ (fun hHeld => ?_)
          · exact ⟨range_kept (hw90) (row16_range X3.out), range_kept (hw90) (row16_range X4.out), hw90⟩
          clear hK K
          try simp only [Act.put, y1, y2, y3, y4, y5, y6]
          generalize w85.setCells b76 0 (vl 16 (pb)) = w89 at *
          refine wpAnyH_done (by kernel_rfl) ?_ _
          refine NoPanic.normal ?_
          go_wp2_with fail
          go_meet
          refine ⟨_, _, rfl, rfl, Lib.hid hz92, Lib.hid hz91, Lib.hid hw90⟩
      · try simp only [y1, y2, y3]
        go_simp
        have hw94 : Below u1.heap.size u1 (w3.alloc zO) := hw5.alloc hw5.size _
        have hz95 : H16 (w3.alloc zO) w3.heap.size fun _ => 0 := new_h w3
        have hl97 : u1.heap.size ≤ w3.heap.size := hw5.size
        refine hK.out _ _ ?_ (fun hHeld => ?_)
        · exact ⟨range_kept (hw94) (row16_range X3.out), range_kept (hw94) (row16_range X4.out), hw94⟩
        clear hK K
        try simp only [Act.put, y1, y2, y3, y4, y5, y6]
        generalize w3.alloc zO = w93 at *
        generalize w3.heap.size = b96 at *
        refine wpAnyH_ready (rs := [5, 6]) (by kernel_rfl) (by simp) ?_
        refine AllReadyH.cons rfl (fun K hK => ?_) (AllReadyH.cons rfl (fun K hK => ?_) (AllReadyH.nil))
        · try simp only [y1, y2, y3]
          go_simp
          refine (Cb.out _).mono ?_
          rintro e w98 ⟨rfl, hb99⟩
          rw [aN_vl 16 (pb)]
          have hw100 : Below u1.heap.size u1 w98 := hw94.trans (hb99.mono hw94.size)
          have hz101 := H16.call hb99 hz95
          refine hK.out _ _ ?_ (fun hHeld => ?_)
          · exact ⟨range_kept (hw100) (row16_range X3.out), range_kept (hw100) (row16_range X4.out), hw100⟩
          clear hK K
          try simp only [Act.put, y1, y2, y3, y4, y5, y6]
          clear hb99
          refine wpAnyH_ready (rs := [6]) (by kernel_rfl) (by simp) ?_
          refine AllReadyH.cons rfl (fun K hK => ?_) (AllReadyH.nil)
          try simp only [y1, y2, y3]
          go_simp
          have hw103 : Below u1.heap.size u1 (w98.alloc zO) := hw100.alloc hw100.size _
          have hz104 : H16 (w98.alloc zO) w98.heap.size fun _ => 0 := new_h w98
          have hl106 : u1.heap.size ≤ w98.heap.size := hw100.size
          have hz107 := H16.alloc zO hz101
          have hne108 : b96 < w98.heap.size := hz101.lt
          refine hK.out _ _ ?_ (fun hHeld => ?_)
          · exact ⟨range_kept (hw103) (row16_range X3.out), range_kept (hw103) (row16_range X4.out), hw103⟩
          clear hK K
          try simp only [Act.put, y1, y2, y3, y4, y5, y6]
          generalize w98.alloc zO = w102 at *
          generalize w98.heap.size = b105 at *
          refine wpAnyH_ready (rs := [8]) (by kernel_rfl) (by simp) ?_
          refine AllReadyH.cons rfl (fun K hK => ?_) (AllReadyH.nil)
          try simp only [y1, y2, y3]
          rw [if_pos (by rfl)]
          refine wp_store_mid 22 (.tmp 7) (.tmp 16) rfl (b105) (0) (vl 16 (pa)).toArray rfl rfl (H16.there hz104) (vsz _) (von _) ?_
          simp only [Act.put, y1, y2, y3, y4, y5, y6, List.toList_toArray]
          have hw110 : Below u1.heap.size u1 (w102.setCells b105 0 (vl 16 (pa))) := below_store hw103 (by omega) _ 0
          have hz111 : H16 (w102.setCells b105 0 (vl 16 (pa))) b105 (pa) := H16.store hz104 _
          have hz112 : H16 (w102.setCells b105 0 (vl 16 (pa))) b96 _ := H16.storeOther hz107 (by omega) _
          refine hK.out _ _ ?_ (fun hHeld => ?_)
          · exact ⟨range_kept (hw110) (row16_range X3.out), range_kept (hw110) (row16_range X4.out), hw110⟩
          clear hK K
          try simp only [Act.put, y1, y2, y3, y4, y5, y6]
          generalize w102.setCells b105 0 (vl 16 (pa)) = w109 at *
          refine wpAnyH_ready (rs := [9]) (by kernel_rfl) (by simp) ?_
          refine AllReadyH.cons rfl (fun K hK => ?_) (AllReadyH.nil)
          try simp only [y1, y2, y3]
          rw [if_pos (by rfl)]
          refine wp_store_mid 22 (.tmp 8) (.tmp 19) rfl (b96) (0) (vl 16 (pb)).toArray rfl rfl (H16.there hz112) (vsz _) (von _) ?_
          simp only [Act.put, y1, y2, y3, y4, y5, y6, List.toList_toArray]
          have hw114 : Below u1.heap.size u1 (w109.setCells b96 0 (vl 16 (pb))) := below_store hw110 (by omega) _ 0
          have hz115 : H16 (w109.setCells b96 0 (vl 16 (pb))) b96 (pb) := H16.store hz112 _
          have hz116 : H16 (w109.setCells b96 0 (vl 16 (pb))) b105 _ := H16.storeOther hz111 (by omega) _
          refine hK.out _ _ ?_ (fun hHeld => ?_)
          · exact ⟨range_kept (hw114) (row16_range X3.out), range_kept (hw114) (row16_range X4.out), hw114⟩
          clear hK K
          try simp only [Act.put, y1, y2, y3, y4, y5, y6]
          generalize w109.setCells b96 0 (vl 16 (pb)) = w113 at *
          refine wpAnyH_done (by kernel_rfl) ?_ _
          refine NoPanic.normal ?_
          go_wp2_with fail
          go_meet
          refine ⟨_, _, rfl, rfl, Lib.hid hz116, Lib.hid hz115, Lib.hid hw114⟩
        · try simp only [y1, y2, y3]
          go_simp
          have hw118 : Below u1.heap.size u1 (w93.alloc zO) := hw94.alloc hw94.size _
          have hz119 : H16 (w93.alloc zO) w93.heap.size fun _ => 0 := new_h w93
          have hl121 : u1.heap.size ≤ w93.heap.size := hw94.size
          have hz122 := H16.alloc zO hz95
          have hne123 : b96 < w93.heap.size := hz95.lt
          refine hK.out _ _ ?_ (fun hHeld => ?_)
          · exact ⟨range_kept (hw118) (row16_range X3.out), range_kept (hw118) (row16_range X4.out), hw118⟩
          clear hK K
          try simp only [Act.put, y1, y2, y3, y4, y5, y6]
          generalize w93.alloc zO = w117 at *
          generalize w93.heap.size = b120 at *
          refine wpAnyH_ready (rs := [5]) (by kernel_rfl) (by simp) ?_
          refine AllReadyH.cons rfl (fun K hK => ?_) (AllReadyH.nil)
          try simp only [y1, y2, y3]
          go_simp
          refine (Cb.out _).mono ?_
          rintro e w124 ⟨rfl, hb125⟩
          rw [aN_vl 16 (pb)]
          have hw126 : Below u1.heap.size u1 w124 := hw118.trans (hb125.mono hw118.size)
          have hz127 := H16.call hb125 hz122
          have hz128 := H16.call hb125 hz119
          refine hK.out _ _ ?_ (fun hHeld => ?_)
          · exact ⟨range_kept (hw126) (row16_range X3.out), range_kept (hw126) (row16_range X4.out), hw126⟩
          clear hK K
          try simp only [Act.put, y1, y2, y3, y4, y5, y6]
          clear hb125
          refine wpAnyH_ready (rs := [8]) (by kernel_rfl) (by simp) ?_
          refine AllReadyH.cons rfl (fun K hK => ?_) (AllReadyH.nil)
          try simp only [y1, y2, y3]
          rw [if_pos (by rfl)]
          refine wp_store_mid 22 (.tmp 7) (.tmp 16) rfl (b120) (0) (vl 16 (pa)).toArray rfl rfl (H16.there hz128) (vsz _) (von _) ?_
          simp only [Act.put, y1, y2, y3, y4, y5, y6, List.toList_toArray]
          have hw130 : Below u1.heap.size u1 (w124.setCells b120 0 (vl 16 (pa))) := below_store hw126 (by omega) _ 0
          have hz131 : H16 (w124.setCells b120 0 (vl 16 (pa))) b120 (pa) := H16.store hz128 _
          have hz132 : H16 (w124.setCells b120 0 (vl 16 (pa))) b96 _ := H16.storeOther hz127 (by omega) _
          refine hK.out _ _ ?_ (fun hHeld => ?_)
          · exact ⟨range_kept (hw130) (row16_range X3.out), range_kept (hw130) (row16_range X4.out), hw130⟩
          clear hK K
          try simp only [Act.put, y1, y2, y3, y4, y5, y6]
          generalize w124.setCells b120 0 (vl 16 (pa)) = w129 at *
          refine wpAnyH_ready (rs := [9]) (by kernel_rfl) (by simp) ?_
          refine AllReadyH.cons rfl (fun K hK => ?_) (AllReadyH.nil)
          try simp only [y1, y2, y3]
          rw [if_pos (by rfl)]
          refine wp_store_mid 22 (.tmp 8) (.tmp 19) rfl (b96) (0) (vl 16 (pb)).toArray rfl rfl (H16.there hz132) (vsz _) (von _) ?_
          simp only [Act.put, y1, y2, y3, y4, y5, y6, List.toList_toArray]
          have hw134 : Below u1.heap.size u1 (w129.setCells b96 0 (vl 16 (pb))) := below_store hw130 (by omega) _ 0
          have hz135 : H16 (w129.setCells b96 0 (vl 16 (pb))) b96 (pb) := H16.store hz132 _
          have hz136 : H16 (w129.setCells b96 0 (vl 16 (pb))) b120 _ := H16.storeOther hz131 (by omega) _
          refine hK.out _ _ ?_ (fun hHeld => ?_)
          · exact ⟨range_kept (hw134) (row16_range X3.out), range_kept (hw134) (row16_range X4.out), hw134⟩
          clear hK K
          try simp only [Act.put, y1, y2, y3, y4, y5, y6]
          generalize w129.setCells b96 0 (vl 16 (pb)) = w133 at *
          refine wpAnyH_done (by kernel_rfl) ?_ _
          refine NoPanic.normal ?_
          go_wp2_with fail
          go_meet
          refine ⟨_, _, rfl, rfl, Lib.hid hz136, Lib.hid hz135, Lib.hid hw134⟩
    · try simp only [y1, y2, y3]
      go_simp
      have hw138 : Below u1.heap.size u1 (ws1.alloc zO) := hs2.alloc hs2.size _
      have hz139 : H16 (ws1.alloc zO) ws1.heap.size fun _ => 0 := new_h ws1
      have hl141 : u1.heap.size ≤ ws1.heap.size := hs2.size
      refine hK.out _ _ ?_ (fun hHeld => ?_)
      · exact ⟨range_kept (hw138) (row16_range X3.out), range_kept (hw138) (row16_range X4.out), hw138⟩
      clear hK K
      try simp only [Act.put, y1, y2, y3, y4, y5, y6]
      generalize ws1.alloc zO = w137 at *
      generalize ws1.heap.size = b140 at *
      refine wpAnyH_ready (rs := [2, 7]) (by kernel_rfl) (by simp) ?_
      refine AllReadyH.cons rfl (fun K hK => ?_) (AllReadyH.cons rfl (fun K hK => ?_) (AllReadyH.nil))
      · try simp only [y1, y2, y3]
        go_simp
        refine (Ca.out _).mono ?_
        rintro e w142 ⟨rfl, hb143⟩
        rw [aN_vl 16 (pa)]
        have hw144 : Below u1.heap.size u1 w142 := hw138.trans (hb143.mono hw138.size)
        have hz145 := H16.call hb143 hz139
        refine hK.out _ _ ?_ (fun hHeld => ?_)
        · exact ⟨range_kept (hw144) (row16_range X3.out), range_kept (hw144) (row16_range X4.out), hw144⟩
        clear hK K
        try simp only [Act.put, y1, y2, y3, y4, y5, y6]
        clear hb143
        refine wpAnyH_ready (rs := [5, 7]) (by kernel_rfl) (by simp) ?_
        refine AllReadyH.cons rfl (fun K hK => ?_) (AllReadyH.cons rfl (fun K hK => ?_) (AllReadyH.nil))
        · try simp only [y1, y2, y3]
          go_simp
          refine (Cb.out _).mono ?_
          rintro e w146 ⟨rfl, hb147⟩
          rw [aN_vl 16 (pb)]
          have hw148 : Below u1.heap.size u1 w146 := hw144.trans (hb147.mono hw144.size)
          have hz149 := H16.call hb147 hz145
          refine hK.out _ _ ?_ (fun hHeld => ?_)
          · exact ⟨range_kept (hw148) (row16_range X3.out), range_kept (hw148) (row16_range X4.out), hw148⟩
          clear hK K
          try simp only [Act.put, y1, y2, y3, y4, y5, y6]
          clear hb147
          refine wpAnyH_ready (rs := [7]) (by kernel_rfl) (by simp) ?_
          refine AllReadyH.cons rfl (fun K hK => ?_) (AllReadyH.nil)
          try simp only [y1, y2, y3]
          go_simp
          have hw151 : Below u1.heap.size u1 (w146.alloc zO) := hw148.alloc hw148.size _
          have hz152 : H16 (w146.alloc zO) w146.heap.size fun _ => 0 := new_h w146
          have hl154 : u1.heap.size ≤ w146.heap.size := hw148.size
          have hz155 := H16.alloc zO hz149
          have hne156 : b140 < w146.heap.size := hz149.lt
          refine hK.out _ _ ?_ (fun hHeld => ?_)
          · exact ⟨range_kept (hw151) (row16_range X3.out), range_kept (hw151) (row16_range X4.out), hw151⟩
          clear hK K
          try simp only [Act.put, y1, y2, y3, y4, y5, y6]
          generalize w146.alloc zO = w150 at *
          generalize w146.heap.size = b153 at *
          refine wpAnyH_ready (rs := [8]) (by kernel_rfl) (by simp) ?_
          refine AllReadyH.cons rfl (fun K hK => ?_) (AllReadyH.nil)
          try simp only [y1, y2, y3]
          rw [if_pos (by rfl)]
          refine wp_store_mid 22 (.tmp 7) (.tmp 16) rfl (b140) (0) (vl 16 (pa)).toArray rfl rfl (H16.there hz155) (vsz _) (von _) ?_
          simp only [Act.put, y1, y2, y3, y4, y5, y6, List.toList_toArray]
          have hw158 : Below u1.heap.size u1 (w150.setCells b140 0 (vl 16 (pa))) := below_store hw151 (by omega) _ 0
          have hz159 : H16 (w150.setCells b140 0 (vl 16 (pa))) b140 (pa) := H16.store hz155 _
          have hz160 : H16 (w150.setCells b140 0 (vl 16 (pa))) b153 _ := H16.storeOther hz152 (by omega) _
          refine hK.out _ _ ?_ (fun hHeld => ?_)
          · exact ⟨range_kept (hw158) (row16_range X3.out), range_kept (hw158) (row16_range X4.out), hw158⟩
          clear hK K
          try simp only [Act.put, y1, y2, y3, y4, y5, y6]
          generalize w150.setCells b140 0 (vl 16 (pa)) = w157 at *
          refine wpAnyH_ready (rs := [9]) (by kernel_rfl) (by simp) ?_
          refine AllReadyH.cons rfl (fun K hK => ?_) (AllReadyH.nil)
          try simp only [y1, y2, y3]
          rw [if_pos (by rfl)]
          refine wp_store_mid 22 (.tmp 8) (.tmp 19) rfl (b153) (0) (vl 16 (pb)).toArray rfl rfl (H16.there hz160) (vsz _) (von _) ?_
          simp only [Act.put, y1, y2, y3, y4, y5, y6, List.toList_toArray]
          have hw162 : Below u1.heap.size u1 (w157.setCells b153 0 (vl 16 (pb))) := below_store hw158 (by omega) _ 0
          have hz163 : H16 (w157.setCells b153 0 (vl 16 (pb))) b153 (pb) := H16.store hz160 _
          have hz164 : H16 (w157.setCells b153 0 (vl 16 (pb))) b140 _ := H16.storeOther hz159 (by omega) _
          refine hK.out _ _ ?_ (fun hHeld => ?_)
          · exact ⟨range_kept (hw162) (row16_range X3.out), range_kept (hw162) (row16_range X4.out), hw162⟩
          clear hK K
          try simp only [Act.put, y1, y2, y3, y4, y5, y6]
          generalize w157.setCells b153 0 (vl 16 (pb)) = w161 at *
          refine wpAnyH_done (by kernel_rfl) ?_ _
          refine NoPanic.normal ?_
          go_wp2_with fail
          go_meet
          refine ⟨_, _, rfl, rfl, Lib.hid hz164, Lib.hid hz163, Lib.hid hw162⟩
        · try simp only [y1, y2, y3]
          go_simp
          have hw166 : Below u1.heap.size u1 (w142.alloc zO) := hw144.alloc hw144.size _
          have hz167 : H16 (w142.alloc zO) w142.heap.size fun _ => 0 := new_h w142
          have hl169 : u1.heap.size ≤ w142.heap.size := hw144.size
          have hz170 := H16.alloc zO hz145
          have hne171 : b140 < w142.heap.size := hz145.lt
          refine hK.out _ _ ?_ (fun hHeld => ?_)
          · exact ⟨range_kept (hw166) (row16_range X3.out), range_kept (hw166) (row16_range X4.out), hw166⟩
          clear hK K
          try simp only [Act.put, y1, y2, y3, y4, y5, y6]
          generalize w142.alloc zO = w165 at *
          generalize w142.heap.size = b168 at *
          refine wpAnyH_ready (rs := [5]) (by kernel_rfl) (by simp) ?_
          refine AllReadyH.cons rfl (fun K hK => ?_) (AllReadyH.nil)
          try simp only [y1, y2, y3]
          go_simp
          refine (Cb.out _).mono ?_
          rintro e w172 ⟨rfl, hb173⟩
          rw [aN_vl 16 (pb)]
          have hw174 : Below u1.heap.size u1 w172 := hw166.trans (hb173.mono hw166.size)
          have hz175 := H16.call hb173 hz170
          have hz176 := H16.call hb173 hz167
          refine hK.out _ _ ?_ (fun hHeld => ?_)
          · exact ⟨range_kept (hw174) (row16_range X3.out), range_kept (hw174) (row16_range X4.out), hw174⟩
          clear hK K
          try simp only [Act.put, y1, y2, y3, y4, y5, y6]
          clear hb173
          refine wpAnyH_ready (rs := [8]) (by kernel_rfl) (by simp) ?_
          refine AllReadyH.cons rfl (fun K hK => ?_) (AllReadyH.nil)
          try simp only [y1, y2, y3]
          rw [if_pos (by rfl)]
          refine wp_store_mid 22 (.tmp 7) (.tmp 16) rfl (b140) (0) (vl 16 (pa)).toArray rfl rfl (H16.there hz175) (vsz _) (von _) ?_
          simp only [Act.put, y1, y2, y3, y4, y5, y6, List.toList_toArray]
          have hw178 : Below u1.heap.size u1 (w172.setCells b140 0 (vl 16 (pa))) := below_store hw174 (by omega) _ 0
          have hz179 : H16 (w172.setCells b140 0 (vl 16 (pa))) b140 (pa) := H16.store hz175 _
          have hz180 : H16 (w172.setCells b140 0 (vl 16 (pa))) b168 _ := H16.storeOther hz176 (by omega) _
          refine hK.out _ _ ?_ (fun hHeld => ?_)
          · exact ⟨range_kept (hw178) (row16_range X3.out), range_kept (hw178) (row16_range X4.out), hw178⟩
          clear hK K
          try simp only [Act.put, y1, y2, y3, y4, y5, y6]
          generalize w172.setCells b140 0 (vl 16 (pa)) = w177 at *
          refine wpAnyH_ready (rs := [9]) (by kernel_rfl) (by simp) ?_
          refine AllReadyH.cons rfl (fun K hK => ?_) (AllReadyH.nil)
          try simp only [y1, y2, y3]
          rw [if_pos (by rfl)]
          refine wp_store_mid 22 (.tmp 8) (.tmp 19) rfl (b168) (0) (vl 16 (pb)).toArray rfl rfl (H16.there hz180) (vsz _) (von _) ?_
          simp only [Act.put, y1, y2, y3, y4, y5, y6, List.toList_toArray]
          have hw182 : Below u1.heap.size u1 (w177.setCells b168 0 (vl 16 (pb))) := below_store hw178 (by omega) _ 0
          have hz183 : H16 (w177.setCells b168 0 (vl 16 (pb))) b168 (pb) := H16.store hz180 _
          have hz184 : H16 (w177.setCells b168 0 (vl 16 (pb))) b140 _ := H16.storeOther hz179 (by omega) _
          refine hK.out _ _ ?_ (fun hHeld => ?_)
          · exact ⟨range_kept (hw182) (row16_range X3.out), range_kept (hw182) (row16_range X4.out), hw182⟩
          clear hK K
          try simp only [Act.put, y1, y2, y3, y4, y5, y6]
          generalize w177.setCells b168 0 (vl 16 (pb)) = w181 at *
          refine wpAnyH_done (by kernel_rfl) ?_ _
          refine NoPanic.normal ?_
          go_wp2_with fail
          go_meet
          refine ⟨_, _, rfl, rfl, Lib.hid hz184, Lib.hid hz183, Lib.hid hw182⟩
      · try simp only [y1, y2, y3]
        go_simp
        have hw186 : Below u1.heap.size u1 (w137.alloc zO) := hw138.alloc hw138.size _
        have hz187 : H16 (w137.alloc zO) w137.heap.size fun _ => 0 := new_h w137
        have hl189 : u1.heap.size ≤ w137.heap.size := hw138.size
        have hz190 := H16.alloc zO hz139
        have hne191 : b140 < w137.heap.size := hz139.lt
        refine hK.out _ _ ?_ (fun hHeld => ?_)
        · exact ⟨range_kept (hw186) (row16_range X3.out), range_kept (hw186) (row16_range X4.out), hw186⟩
        clear hK K
        try simp only [Act.put, y1, y2, y3, y4, y5, y6]
        generalize w137.alloc zO = w185 at *
        generalize w137.heap.size = b188 at *
        refine wpAnyH_ready (rs := [2]) (by kernel_rfl) (by simp) ?_
        refine AllReadyH.cons rfl (fun K hK => ?_) (AllReadyH.nil)
        try simp only [y1, y2, y3]
        go_simp
        refine (Ca.out _).mono ?_
        rintro e w192 ⟨rfl, hb193⟩
        rw [aN_vl 16 (pa)]
        have hw194 : Below u1.heap.size u1 w192 := hw186.trans (hb193.mono hw186.size)
        have hz195 := H16.call hb193 hz190
        have hz196 := H16.call hb193 hz187
        refine hK.out _ _ ?_ (fun hHeld => ?_)
        · exact ⟨range_kept (hw194) (row16_range X3.out), range_kept (hw194) (row16_range X4.out), hw194⟩
        clear hK K
        try simp only [Act.put, y1, y2, y3, y4, y5, y6]
        clear hb193
        refine wpAnyH_ready (rs := [5]) (by kernel_rfl) (by simp) ?_
        refine AllReadyH.cons rfl (fun K hK => ?_) (AllReadyH.nil)
        try simp only [y1, y2, y3]
        go_simp
        refine (Cb.out _).mono ?_
        rintro e w197 ⟨rfl, hb198⟩
        rw [aN_vl 16 (pb)]
        have hw199 : Below u1.heap.size u1 w197 := hw194.trans (hb198.mono hw194.size)
        have hz200 := H16.call hb198 hz195
        have hz201 := H16.call hb198 hz196
        refine hK.out _ _ ?_ (fun hHeld => ?_)
        · exact ⟨range_kept (hw199) (row16_range X3.out), range_kept (hw199) (row16_range X4.out), hw199⟩
        clear hK K
        try simp only [Act.put, y1, y2, y3, y4, y5, y6]
        clear hb198
        refine wpAnyH_ready (rs := [8]) (by kernel_rfl) (by simp) ?_
        refine AllReadyH.cons rfl (fun K hK => ?_) (AllReadyH.nil)
        try simp only [y1, y2, y3]
        rw [if_pos (by rfl)]
        refine wp_store_mid 22 (.tmp 7) (.tmp 16) rfl (b140) (0) (vl 16 (pa)).toArray rfl rfl (H16.there hz200) (vsz _) (von _) ?_
        simp only [Act.put, y1, y2, y3, y4, y5, y6, List.toList_toArray]
        have hw203 : Below u1.heap.size u1 (w197.setCells b140 0 (vl 16 (pa))) := below_store hw199 (by omega) _ 0
        have hz204 : H16 (w197.setCells b140 0 (vl 16 (pa))) b140 (pa) := H16.store hz200 _
        have hz205 : H16 (w197.setCells b140 0 (vl 16 (pa))) b188 _ := H16.storeOther hz201 (by omega) _
        refine hK.out _ _ ?_ (fun hHeld => ?_)
        · exact ⟨range_kept (hw203) (row16_range X3.out), range_kept (hw203) (row16_range X4.out), hw203⟩
        clear hK K
        try simp only [Act.put, y1, y2, y3, y4, y5, y6]
        generalize w197.setCells b140 0 (vl 16 (pa)) = w202 at *
        refine wpAnyH_ready (rs := [9]) (by kernel_rfl) (by simp) ?_
        refine AllReadyH.cons rfl (fun K hK => ?_) (AllReadyH.nil)
        try simp only [y1, y2, y3]
        rw [if_pos (by rfl)]
        refine wp_store_mid 22 (.tmp 8) (.tmp 19) rfl (b188) (0) (vl 16 (pb)).toArray rfl rfl (H16.there hz205) (vsz _) (von _) ?_
        simp only [Act.put, y1, y2, y3, y4, y5, y6, List.toList_toArray]
        have hw207 : Below u1.heap.size u1 (w202.setCells b188 0 (vl 16 (pb))) := below_store hw203 (by omega) _ 0
        have hz208 : H16 (w202.setCells b188 0 (vl 16 (pb))) b188 (pb) := H16.store hz205 _
        have hz209 : H16 (w202.setCells b188 0 (vl 16 (pb))) b140 _ := H16.storeOther hz204 (by omega) _
        refine hK.out _ _ ?_ (fun hHeld => ?_)
        · exact ⟨range_kept (hw207) (row16_range X3.out), range_kept (hw207) (row16_range X4.out), hw207⟩
        clear hK K
        try simp only [Act.put, y1, y2, y3, y4, y5, y6]
        generalize w202.setCells b188 0 (vl 16 (pb)) = w206 at *
        refine wpAnyH_done (by kernel_rfl) ?_ _
        refine NoPanic.normal ?_
        go_wp2_with fail
        go_meet
        refine ⟨_, _, rfl, rfl, Lib.hid hz209, Lib.hid hz208, Lib.hid hw207⟩
    · try simp only [y1, y2, y3]
      go_simp
      have hw211 : Below u1.heap.size u1 (ws1.alloc zO) := hs2.alloc hs2.size _
      have hz212 : H16 (ws1.alloc zO) ws1.heap.size fun _ => 0 := new_h ws1
      have hl214 : u1.heap.size ≤ ws1.heap.size := hs2.size
      refine hK.out _ _ ?_ (fun hHeld => ?_)
      · exact ⟨range_kept (hw211) (row16_range X3.out), range_kept (hw211) (row16_range X4.out), hw211⟩
      clear hK K
      try simp only [Act.put, y1, y2, y3, y4, y5, y6]
      generalize ws1.alloc zO = w210 at *
      generalize ws1.heap.size = b213 at *
      refine wpAnyH_ready (rs := [2, 6]) (by kernel_rfl) (by simp) ?_
      refine AllReadyH.cons rfl (fun K hK => ?_) (AllReadyH.cons rfl (fun K hK => ?_) (AllReadyH.nil))
      · try simp only [y1, y2, y3]
        go_simp
        refine (Ca.out _).mono ?_
        rintro e w215 ⟨rfl, hb216⟩
        rw [aN_vl 16 (pa)]
        have hw217 : Below u1.heap.size u1 w215 := hw211.trans (hb216.mono hw211.size)
        have hz218 := H16.call hb216 hz212
        refine hK.out _ _ ?_ (fun hHeld => ?_)
        · exact ⟨range_kept (hw217) (row16_range X3.out), range_kept (hw217) (row16_range X4.out), hw217⟩
        clear hK K
        try simp only [Act.put, y1, y2, y3, y4, y5, y6]
        clear hb216
        refine wpAnyH_ready (rs := [5, 6]) (by kernel_rfl) (by simp) ?_
        refine AllReadyH.cons rfl (fun K hK => ?_) (AllReadyH.cons rfl (fun K hK => ?_) (AllReadyH.nil))
        · try simp only [y1, y2, y3]
          go_simp
          refine (Cb.out _).mono ?_
          rintro e w219 ⟨rfl, hb220⟩
          rw [aN_vl 16 (pb)]
          have hw221 : Below u1.heap.size u1 w219 := hw217.trans (hb220.mono hw217.size)
          have hz222 := H16.call hb220 hz218
          refine hK.out _ _ ?_ (fun hHeld => ?_)
          · exact ⟨range_kept (hw221) (row16_range X3.out), range_kept (hw221) (row16_range X4.out), hw221⟩
          clear hK K
          try simp only [Act.put, y1, y2, y3, y4, y5, y6]
          clear hb220
          refine wpAnyH_ready (rs := [6]) (by kernel_rfl) (by simp) ?_
          refine AllReadyH.cons rfl (fun K hK => ?_) (AllReadyH.nil)
          try simp only [y1, y2, y3]
          go_simp
          have hw224 : Below u1.heap.size u1 (w219.alloc zO) := hw221.alloc hw221.size _
          have hz225 : H16 (w219.alloc zO) w219.heap.size fun _ => 0 := new_h w219
          have hl227 : u1.heap.size ≤ w219.heap.size := hw221.size
          have hz228 := H16.alloc zO hz222
          have hne229 : b213 < w219.heap.size := hz222.lt
          refine hK.out _ _ ?_ (fun hHeld => ?_)
          · exact ⟨range_kept (hw224) (row16_range X3.out), range_kept (hw224) (row16_range X4.out), hw224⟩
          clear hK K
          try simp only [Act.put, y1, y2, y3, y4, y5, y6]
          generalize w219.alloc zO = w223 at *
          generalize w219.heap.size = b226 at *
          refine wpAnyH_ready (rs := [8]) (by kernel_rfl) (by simp) ?_
          refine AllReadyH.cons rfl (fun K hK => ?_) (AllReadyH.nil)
          try simp only [y1, y2, y3]
          rw [if_pos (by rfl)]
          refine wp_store_mid 22 (.tmp 7) (.tmp 16) rfl (b226) (0) (vl 16 (pa)).toArray rfl rfl (H16.there hz225) (vsz _) (von _) ?_
          simp only [Act.put, y1, y2, y3, y4, y5, y6, List.toList_toArray]
          have hw231 : Below u1.heap.size u1 (w223.setCells b226 0 (vl 16 (pa))) := below_store hw224 (by omega) _ 0
          have hz232 : H16 (w223.setCells b226 0 (vl 16 (pa))) b226 (pa) := H16.store hz225 _
          have hz233 : H16 (w223.setCells b226 0 (vl 16 (pa))) b213 _ := H16.storeOther hz228 (by omega) _
          refine hK.out _ _ ?_ (fun hHeld => ?_)
          · exact ⟨range_kept (hw231) (row16_range X3.out), range_kept (hw231) (row16_range X4.out), hw231⟩
          clear hK K
          try simp only [Act.put, y1, y2, y3, y4, y5, y6]
          generalize w223.setCells b226 0 (vl 16 (pa)) = w230 at *
          refine wpAnyH_ready (rs := [9]) (by kernel_rfl) (by simp) ?_
          refine AllReadyH.cons rfl (fun K hK => ?_) (AllReadyH.nil)
          try simp only [y1, y2, y3]
          rw [if_pos (by rfl)]
          refine wp_store_mid 22 (.tmp 8) (.tmp 19) rfl (b213) (0) (vl 16 (pb)).toArray rfl rfl (H16.there hz233) (vsz _) (von _) ?_
          simp only [Act.put, y1, y2, y3, y4, y5, y6, List.toList_toArray]
          have hw235 : Below u1.heap.size u1 (w230.setCells b213 0 (vl 16 (pb))) := below_store hw231 (by omega) _ 0
          have hz236 : H16 (w230.setCells b213 0 (vl 16 (pb))) b213 (pb) := H16.store hz233 _
          have hz237 : H16 (w230.setCells b213 0 (vl 16 (pb))) b226 _ := H16.storeOther hz232 (by omega) _
          refine hK.out _ _ ?_ (fun hHeld => ?_)
          · exact ⟨range_kept (hw235) (row16_range X3.out), range_kept (hw235) (row16_range X4.out), hw235⟩
          clear hK K
          try simp only [Act.put, y1, y2, y3, y4, y5, y6]
          generalize w230.setCells b213 0 (vl 16 (pb)) = w234 at *
          refine wpAnyH_done (by kernel_rfl) ?_ _
          refine NoPanic.normal ?_
          go_wp2_with fail
          go_meet
          refine ⟨_, _, rfl, rfl, Lib.hid hz237, Lib.hid hz236, Lib.hid hw235⟩
        · try simp only [y1, y2, y3]
          go_simp
          have hw239 : Below u1.heap.size u1 (w215.alloc zO) := hw217.alloc hw217.size _
          have hz240 : H16 (w215.alloc zO) w215.heap.size fun _ => 0 := new_h w215
          have hl242 : u1.heap.size ≤ w215.heap.size := hw217.size
          have hz243 := H16.alloc zO hz218
          have hne244 : b213 < w215.heap.size := hz218.lt
          refine hK.out _ _ ?_ (fun hHeld => ?_)
          · exact ⟨range_kept (hw239) (row16_range X3.out), range_kept (hw239) (row16_range X4.out), hw239⟩
          clear hK K
          try simp only [Act.put, y1, y2, y3, y4, y5, y6]
          generalize w215.alloc zO = w238 at *
          generalize w215.heap.size = b241 at *
          refine wpAnyH_ready (rs := [5]) (by kernel_rfl) (by simp) ?_
          refine AllReadyH.cons rfl (fun K hK => ?_) (AllReadyH.nil)
          try simp only [y1, y2, y3]
          go_simp
          refine (Cb.out _).mono ?_
          rintro e w245 ⟨rfl, hb246⟩
          rw [aN_vl 16 (pb)]
          have hw247 : Below u1.heap.size u1 w245 := hw239.trans (hb246.mono hw239.size)
          have hz248 := H16.call hb246 hz243
          have hz249 := H16.call hb246 hz240
          refine hK.out _ _ ?_ (fun hHeld => ?_)
          · exact ⟨range_kept (hw247) (row16_range X3.out), range_kept (hw247) (row16_range X4.out), hw247⟩
          clear hK K
          try simp only [Act.put, y1, y2, y3, y4, y5, y6]
          clear hb246
          refine wpAnyH_ready (rs := [8]) (by kernel_rfl) (by simp) ?_
          refine AllReadyH.cons rfl (fun K hK => ?_) (AllReadyH.nil)
          try simp only [y1, y2, y3]
          rw [if_pos (by rfl)]
          refine wp_store_mid 22 (.tmp 7) (.tmp 16) rfl (b241) (0) (vl 16 (pa)).toArray rfl rfl (H16.there hz249) (vsz _) (von _) ?_
          simp only [Act.put, y1, y2, y3, y4, y5, y6, List.toList_toArray]
          have hw251 : Below u1.heap.size u1 (w245.setCells b241 0 (vl 16 (pa))) := below_store hw247 (by omega) _ 0
          have hz252 : H16 (w245.setCells b241 0 (vl 16 (pa))) b241 (pa) := H16.store hz249 _
          have hz253 : H16 (w245.setCells b241 0 (vl 16 (pa))) b213 _ := H16.storeOther hz248 (by omega) _
          refine hK.out _ _ ?_ (fun hHeld => ?_)
          · exact ⟨range_kept (hw251) (row16_range X3.out), range_kept (hw251) (row16_range X4.out), hw251⟩
          clear hK K
          try simp only [Act.put, y1, y2, y3, y4, y5, y6]
          generalize w245.setCells b241 0 (vl 16 (pa)) = w250 at *
          refine wpAnyH_ready (rs := [9]) (by kernel_rfl) (by simp) ?_
          refine AllReadyH.cons rfl (fun K hK => ?_) (AllReadyH.nil)
          try simp only [y1, y2, y3]
          rw [if_pos (by rfl)]
          refine wp_store_mid 22 (.tmp 8) (.tmp 19) rfl (b213) (0) (vl 16 (pb)).toArray rfl rfl (H16.there hz253) (vsz _) (von _) ?_
          simp only [Act.put, y1, y2, y3, y4, y5, y6, List.toList_toArray]
          have hw255 : Below u1.heap.size u1 (w250.setCells b213 0 (vl 16 (pb))) := below_store hw251 (by omega) _ 0
          have hz256 : H16 (w250.setCells b213 0 (vl 16 (pb))) b213 (pb) := H16.store hz253 _
          have hz257 : H16 (w250.setCells b213 0 (vl 16 (pb))) b241 _ := H16.storeOther hz252 (by omega) _
          refine hK.out _ _ ?_ (fun hHeld => ?_)
          · exact ⟨range_kept (hw255) (row16_range X3.out), range_kept (hw255) (row16_range X4.out), hw255⟩
          clear hK K
          try simp only [Act.put, y1, y2, y3, y4, y5, y6]
          generalize w250.setCells b213 0 (vl 16 (pb)) = w254 at *
          refine wpAnyH_done (by kernel_rfl) ?_ _
          refine NoPanic.normal ?_
          go_wp2_with fail
          go_meet
          refine ⟨_, _, rfl, rfl, Lib.hid hz257, Lib.hid hz256, Lib.hid hw255⟩
      · try simp only [y1, y2, y3]
        go_simp
        have hw259 : Below u1.heap.size u1 (w210.alloc zO) := hw211.alloc hw211.size _
        have hz260 : H16 (w210.alloc zO) w210.heap.size fun _ => 0 := new_h w210
        have hl262 : u1.heap.size ≤ w210.heap.size := hw211.size
        have hz263 := H16.alloc zO hz212
        have hne264 : b213 < w210.heap.size := hz212.lt
        refine hK.out _ _ ?_ (fun hHeld => ?_)
        · exact ⟨range_kept (hw259) (row16_range X3.out), range_kept (hw259) (row16_range X4.out), hw259⟩
        clear hK K
        try simp only [Act.put, y1, y2, y3, y4, y5, y6]
        generalize w210.alloc zO = w258 at *
        generalize w210.heap.size = b261 at *
        refine wpAnyH_ready (rs := [2]) (by kernel_rfl) (by simp) ?_
        refine AllReadyH.cons rfl (fun K hK => ?_) (AllReadyH.nil)
        try simp only [y1, y2, y3]
        go_simp
        refine (Ca.out _).mono ?_
        rintro e w265 ⟨rfl, hb266⟩
        rw [aN_vl 16 (pa)]
        have hw267 : Below u1.heap.size u1 w265 := hw259.trans (hb266.mono hw259.size)
        have hz268 := H16.call hb266 hz263
        have hz269 := H16.call hb266 hz260
        refine hK.out _ _ ?_ (fun hHeld => ?_)
        · exact ⟨range_kept (hw267) (row16_range X3.out), range_kept (hw267) (row16_range X4.out), hw267⟩
        clear hK K
        try simp only [Act.put, y1, y2, y3, y4, y5, y6]
        clear hb266
        refine wpAnyH_ready (rs := [5]) (by kernel_rfl) (by simp) ?_
        refine AllReadyH.cons rfl (fun K hK => ?_) (AllReadyH.nil)
        try simp only [y1, y2, y3]
        go_simp
        refine (Cb.out _).mono ?_
        rintro e w270 ⟨rfl, hb271⟩
        rw [aN_vl 16 (pb)]
        have hw272 : Below u1.heap.size u1 w270 := hw267.trans (hb271.mono hw267.size)
        have hz273 := H16.call hb271 hz268
        have hz274 := H16.call hb271 hz269
        refine hK.out _ _ ?_ (fun hHeld => ?_)
        · exact ⟨range_kept (hw272) (row16_range X3.out), range_kept (hw272) (row16_range X4.out), hw272⟩
        clear hK K
        try simp only [Act.put, y1, y2, y3, y4, y5, y6]
        clear hb271
        refine wpAnyH_ready (rs := [8]) (by kernel_rfl) (by simp) ?_
        refine AllReadyH.cons rfl (fun K hK => ?_) (AllReadyH.nil)
        try simp only [y1, y2, y3]
        rw [if_pos (by rfl)]
        refine wp_store_mid 22 (.tmp 7) (.tmp 16) rfl (b261) (0) (vl 16 (pa)).toArray rfl rfl (H16.there hz274) (vsz _) (von _) ?_
        simp only [Act.put, y1, y2, y3, y4, y5, y6, List.toList_toArray]
        have hw276 : Below u1.heap.size u1 (w270.setCells b261 0 (vl 16 (pa))) := below_store hw272 (by omega) _ 0
        have hz277 : H16 (w270.setCells b261 0 (vl 16 (pa))) b261 (pa) := H16.store hz274 _
        have hz278 : H16 (w270.setCells b261 0 (vl 16 (pa))) b213 _ := H16.storeOther hz273 (by omega) _
        refine hK.out _ _ ?_ (fun hHeld => ?_)
        · exact ⟨range_kept (hw276) (row16_range X3.out), range_kept (hw276) (row16_range X4.out), hw276⟩
        clear hK K
        try simp only [Act.put, y1, y2, y3, y4, y5, y6]
        generalize w270.setCells b261 0 (vl 16 (pa)) = w275 at *
        refine wpAnyH_ready (rs := [9]) (by kernel_rfl) (by simp) ?_
        refine AllReadyH.cons rfl (fun K hK => ?_) (AllReadyH.nil)
        try simp only [y1, y2, y3]
        rw [if_pos (by rfl)]
        refine wp_store_mid 22 (.tmp 8) (.tmp 19) rfl (b213) (0) (vl 16 (pb)).toArray rfl rfl (H16.there hz278) (vsz _) (von _) ?_
        simp only [Act.put, y1, y2, y3, y4, y5, y6, List.toList_toArray]
        have hw280 : Below u1.heap.size u1 (w275.setCells b213 0 (vl 16 (pb))) := below_store hw276 (by omega) _ 0
        have hz281 : H16 (w275.setCells b213 0 (vl 16 (pb))) b213 (pb) := H16.store hz278 _
        have hz282 : H16 (w275.setCells b213 0 (vl 16 (pb))) b261 _ := H16.storeOther hz277 (by omega) _
        refine hK.out _ _ ?_ (fun hHeld => ?_)
        · exact ⟨range_kept (hw280) (row16_range X3.out), range_kept (hw280) (row16_range X4.out), hw280⟩
        clear hK K
        try simp only [Act.put, y1, y2, y3, y4, y5, y6]
        generalize w275.setCells b213 0 (vl 16 (pb)) = w279 at *
        refine wpAnyH_done (by kernel_rfl) ?_ _
        refine NoPanic.normal ?_
        go_wp2_with fail
        go_meet
        refine ⟨_, _, rfl, rfl, Lib.hid hz282, Lib.hid hz281, Lib.hid hw280⟩
  case rest =>
    obtain ⟨b7, b8, rfl, rfl, X7, X8, HW⟩ := hcut
    obtain ⟨u2, rfl⟩ : ∃ u2 : World, u2 = wc := ⟨_, rfl⟩
    replace X3 := Lib.hid (H16.call HW.out X3.out)
    replace X4 := Lib.hid (H16.call HW.out X4.out)
    replace X5 := Lib.hid (H16.call HW.out X5.out)
    replace HB : Hid (Below w.heap.size w u2) := Lib.hid (HB.out.trans (HW.out.mono HB.out.size))
    clear HW
    try clear u1
    go_upto_region 2 with fail
    go_cut [9, 10] (fun s9 s10 wx => ∃ b9 b10 : Nat, s9 = .pointer (some ⟨b9, 0, none⟩) ∧ s10 = .pointer (some ⟨b10, 0, none⟩) ∧ Hid (H16 wx b9 (pc)) ∧ Hid (H16 wx b10 (pe)) ∧ Hid (Below u2.heap.size u2 wx))
    case first =>
      refine wp_region_noPanic ?_
      refine wp_region_held_drew (S := (fun w' => w'.rangeAt (c3) 0 (vl 16 (f)) ∧ w'.rangeAt (c4) 0 (vl 16 (g)) ∧ w'.rangeAt (c5) 0 (vl 16 (k)) ∧ w'.rangeAt (b7) 0 (vl 16 (pa)) ∧ Below u2.heap.size u2 w')) (by kernel_rfl) ?_ (fun hHeld => ?_)
      · exact ⟨range_kept ((Below.refl u2.heap.size u2).drew) (row16_range X3.out), range_kept ((Below.refl u2.heap.size u2).drew) (row16_range X4.out), range_kept ((Below.refl u2.heap.size u2).drew) (row16_range X5.out), range_kept ((Below.refl u2.heap.size u2).drew) (row16_range X7.out), (Below.refl u2.heap.size u2).drew⟩
      have hs2 : Below u2.heap.size u2 u2.drew := (Below.refl u2.heap.size u2).drew
      generalize u2.drew = ws1 at *
      refine wpAnyH_take (i := 0) rfl (by kernel_rfl) (by kernel_rfl) (by kernel_rfl) (fun _ _ _ h => h) (yieldsIf_load_mid (by rfl) 22 (.tmp 7) rfl (b7) (0) rfl (vl 16 (pa)) (.array 16 5) (fun _ h => h.2.2.2.1) Try.underlying22 rfl (vln _)) hHeld ?_
      try simp only [Act.put, y1, y2, y3, y4, y5, y6]
      refine wpAnyH_take (i := 1) rfl (by kernel_rfl) (by kernel_rfl) (by kernel_rfl) (fun _ _ _ h => h) (yieldsIf_load_mid (by rfl) 22 (.tmp 5) rfl (c5) (0) rfl (vl 16 (k)) (.array 16 5) (fun _ h => h.2.2.1) Try.underlying22 rfl (vln _)) hHeld ?_
      try simp only [Act.put, y1, y2, y3, y4, y5, y6]
      refine wpAnyH_take (i := 3) rfl (by kernel_rfl) (by kernel_rfl) (by kernel_rfl) (fun _ _ _ h => h) (yieldsIf_load_mid (by rfl) 22 (.tmp 3) rfl (c3) (0) rfl (vl 16 (f)) (.array 16 5) (fun _ h => h.1) Try.underlying22 rfl (vln _)) hHeld ?_
      try simp only [Act.put, y1, y2, y3, y4, y5, y6]
      refine wpAnyH_take (i := 4) rfl (by kernel_rfl) (by kernel_rfl) (by kernel_rfl) (fun _ _ _ h => h) (yieldsIf_load_mid (by rfl) 22 (.tmp 4) rfl (c4) (0) rfl (vl 16 (g)) (.array 16 5) (fun _ h => h.2.1) Try.underlying22 rfl (vln _)) hHeld ?_
      try simp only [Act.put, y1, y2, y3, y4, y5, y6]
      refine wpAnyH_take (i := 5) rfl (by kernel_rfl) (by kernel_rfl) (by kernel_rfl) (fun _ _ _ h => h) (yieldsIf_load_mid (by rfl) 22 (.tmp 5) rfl (c5) (0) rfl (vl 16 (k)) (.array 16 5) (fun _ h => h.2.2.1) Try.underlying22 rfl (vln _)) hHeld ?_
      try simp only [Act.put, y1, y2, y3, y4, y5, y6]
      refine wpAnyH_ready (rs := [2, 8, 9]) (by kernel_rfl) (by simp) ?_
      refine AllReadyH.cons rfl (fun K hK => ?_) (AllReadyH.cons rfl (fun K hK => ?_) (AllReadyH.cons rfl (fun K hK => ?_) (AllReadyH.nil)))
      · try simp only [y1, y2, y3]
        go_simp
        refine (Cc.out _).mono ?_
        rintro e w3 ⟨rfl, hb4⟩
        rw [aN_vl 16 (pc)]
        have hw5 : Below u2.heap.size u2 w3 := hs2.trans (hb4.mono hs2.size)
        refine hK.out _ _ ?_ (fun hHeld => ?_)
        · exact ⟨range_kept (hw5) (row16_range X3.out), range_kept (hw5) (row16_range X4.out), range_kept (hw5) (row16_range X5.out), range_kept (hw5) (row16_range X7.out), hw5⟩
        clear hK K
        try simp only [Act.put, y1, y2, y3, y4, y5, y6]
        clear hb4
        refine wpAnyH_ready (rs := [6, 8, 9]) (by kernel_rfl) (by simp) ?_
        refine AllReadyH.cons rfl (fun K hK => ?_) (AllReadyH.cons rfl (fun K hK => ?_) (AllReadyH.cons rfl (fun K hK => ?_) (AllReadyH.nil)))
        · try simp only [y1, y2, y3]
          go_simp
          refine (Cd.out _).mono ?_
          rintro e w6 ⟨rfl, hb7⟩
          rw [aN_vl 16 (pd)]
          have hw8 : Below u2.heap.size u2 w6 := hw5.trans (hb7.mono hw5.size)
          refine hK.out _ _ ?_ (fun hHeld => ?_)
          · exact ⟨range_kept (hw8) (row16_range X3.out), range_kept (hw8) (row16_range X4.out), range_kept (hw8) (row16_range X5.out), range_kept (hw8) (row16_range X7.out), hw8⟩
          clear hK K
          try simp only [Act.put, y1, y2, y3, y4, y5, y6]
          clear hb7
          refine wpAnyH_ready (rs := [7, 8, 9]) (by kernel_rfl) (by simp) ?_
          refine AllReadyH.cons rfl (fun K hK => ?_) (AllReadyH.cons rfl (fun K hK => ?_) (AllReadyH.cons rfl (fun K hK => ?_) (AllReadyH.nil)))
          · try simp only [y1, y2, y3]
            go_simp
            refine (Ce.out _).mono ?_
            rintro e w9 ⟨rfl, hb10⟩
            rw [aN_vl 16 (pe)]
            have hw11 : Below u2.heap.size u2 w9 := hw8.trans (hb10.mono hw8.size)
            refine hK.out _ _ ?_ (fun hHeld => ?_)
            · exact ⟨range_kept (hw11) (row16_range X3.out), range_kept (hw11) (row16_range X4.out), range_kept (hw11) (row16_range X5.out), range_kept (hw11) (row16_range X7.out), hw11⟩
            clear hK K
            try simp only [Act.put, y1, y2, y3, y4, y5, y6]
            clear hb10
            refine wpAnyH_ready (rs := [8, 9]) (by kernel_rfl) (by simp) ?_
            refine AllReadyH.cons rfl (fun K hK => ?_) (AllReadyH.cons rfl (fun K hK => ?_) (AllReadyH.nil))
            · try simp only [y1, y2, y3]
              go_simp
              have hw13 : Below u2.heap.size u2 (w9.alloc zO) := hw11.alloc hw11.size _
              have hz14 : H16 (w9.alloc zO) w9.heap.size fun _ => 0 := new_h w9
              have hl16 : u2.heap.size ≤ w9.heap.size := hw11.size
              refine hK.out _ _ ?_ (fun hHeld => ?_)
              · exact ⟨range_kept (hw13) (row16_range X3.out), range_kept (hw13) (row16_range X4.out), range_kept (hw13) (row16_range X5.out), range_kept (hw13) (row16_range X7.out), hw13⟩
              clear hK K
              try simp only [Act.put, y1, y2, y3, y4, y5, y6]
              generalize w9.alloc zO = w12 at *
              generalize w9.heap.size = b15 at *
              refine wpAnyH_ready (rs := [9]) (by kernel_rfl) (by simp) ?_
              refine AllReadyH.cons rfl (fun K hK => ?_) (AllReadyH.nil)
              try simp only [y1, y2, y3]
              go_simp
              have hw18 : Below u2.heap.size u2 (w12.alloc zO) := hw13.alloc hw13.size _
              have hz19 : H16 (w12.alloc zO) w12.heap.size fun _ => 0 := new_h w12
              have hl21 : u2.heap.size ≤ w12.heap.size := hw13.size
              have hz22 := H16.alloc zO hz14
              have hne23 : b15 < w12.heap.size := hz14.lt
              refine hK.out _ _ ?_ (fun hHeld => ?_)
              · exact ⟨range_kept (hw18) (row16_range X3.out), range_kept (hw18) (row16_range X4.out), range_kept (hw18) (row16_range X5.out), range_kept (hw18) (row16_range X7.out), hw18⟩
              clear hK K
              try simp only [Act.put, y1, y2, y3, y4, y5, y6]
              generalize w12.alloc zO = w17 at *
              generalize w12.heap.size = b20 at *
              refine wpAnyH_ready (rs := [10]) (by kernel_rfl) (by simp) ?_
              refine AllReadyH.cons rfl (fun K hK => ?_) (AllReadyH.nil)
              try simp only [y1, y2, y3]
              rw [if_pos (by rfl)]
              refine wp_store_mid 22 (.tmp 9) (.tmp 22) rfl (b15) (0) (vl 16 (pc)).toArray rfl rfl (H16.there hz22) (vsz _) (von _) ?_
              simp only [Act.put, y1, y2, y3, y4, y5, y6, List.toList_toArray]
              have hw25 : Below u2.heap.size u2 (w17.setCells b15 0 (vl 16 (pc))) := below_store hw18 (by omega) _ 0
              have hz26 : H16 (w17.setCells b15 0 (vl 16 (pc))) b15 (pc) := H16.store hz22 _
              have hz27 : H16 (w17.setCells b15 0 (vl 16 (pc))) b20 _ := H16.storeOther hz19 (by omega) _
              refine hK.out _ _ ?_ (fun hHeld => ?_)
              · exact ⟨range_kept (hw25) (row16_range X3.out), range_kept (hw25) (row16_range X4.out), range_kept (hw25) (row16_range X5.out), range_kept (hw25) (row16_range X7.out), hw25⟩
              clear hK K
              try simp only [Act.put, y1, y2, y3, y4, y5, y6]
              generalize w17.setCells b15 0 (vl 16 (pc)) = w24 at *
              refine wpAnyH_ready (rs := [11]) (by kernel_rfl) (by simp) ?_
              refine AllReadyH.cons rfl (fun K hK => ?_) (AllReadyH.nil)
              try simp only [y1, y2, y3]
              rw [if_pos (by rfl)]
              refine wp_store_mid 22 (.tmp 10) (.tmp 27) rfl (b20) (0) (vl 16 (pe)).toArray rfl rfl (H16.there hz27) (vsz _) (von _) ?_
              simp only [Act.put, y1, y2, y3, y4, y5, y6, List.toList_toArray]
              have hw29 : Below u2.heap.size u2 (w24.setCells b20 0 (vl 16 (pe))) := below_store hw25 (by omega) _ 0
              have hz30 : H16 (w24.setCells b20 0 (vl 16 (pe))) b20 (pe) := H16.store hz27 _
              have hz31 : H16 (w24.setCells b20 0 (vl 16 (pe))) b15 _ := H16.storeOther hz26 (by omega) _
              refine hK.out _ _ ?_ (fun hHeld => ?_)
              · exact ⟨range_kept (hw29) (row16_range X3.out), range_kept (hw29) (row16_range X4.out), range_kept (hw29) (row16_range X5.out), range_kept (hw29) (row16_range X7.out), hw29⟩
              clear hK K
              try simp only [Act.put, y1, y2, y3, y4, y5, y6]
              generalize w24.setCells b20 0 (vl 16 (pe)) = w28 at *
              refine wpAnyH_done (by kernel_rfl) ?_ _
              refine NoPanic.normal ?_
              go_wp2_with fail
              go_meet
              refine ⟨_, _, rfl, rfl, Lib.hid hz31, Lib.hid hz30, Lib.hid hw29⟩
            · try simp only [y1, y2, y3]
              go_simp
              have hw33 : Below u2.heap.size u2 (w9.alloc zO) := hw11.alloc hw11.size _
              have hz34 : H16 (w9.alloc zO) w9.heap.size fun _ => 0 := new_h w9
              have hl36 : u2.heap.size ≤ w9.heap.size := hw11.size
              refine hK.out _ _ ?_ (fun hHeld => ?_)
              · exact ⟨range_kept (hw33) (row16_range X3.out), range_kept (hw33) (row16_range X4.out), range_kept (hw33) (row16_range X5.out), range_kept (hw33) (row16_range X7.out), hw33⟩
              clear hK K
              try simp only [Act.put, y1, y2, y3, y4, y5, y6]
              generalize w9.alloc zO = w32 at *
              generalize w9.heap.size = b35 at *
              refine wpAnyH_ready (rs := [8]) (by kernel_rfl) (by simp) ?_
              refine AllReadyH.cons rfl (fun K hK => ?_) (AllReadyH.nil)
              try simp only [y1, y2, y3]
              go_simp
              have hw38 : Below u2.heap.size u2 (w32.alloc zO) := hw33.alloc hw33.size _
              have hz39 : H16 (w32.alloc zO) w32.heap.size fun _ => 0 := new_h w32
              have hl41 : u2.heap.size ≤ w32.heap.size := hw33.size
              have hz42 := H16.alloc zO hz34
              have hne43 : b35 < w32.heap.size := hz34.lt
              refine hK.out _ _ ?_ (fun hHeld => ?_)
              · exact ⟨range_kept (hw38) (row16_range X3.out), range_kept (hw38) (row16_range X4.out), range_kept (hw38) (row16_range X5.out), range_kept (hw38) (row16_range X7.out), hw38⟩
              clear hK K
              try simp only [Act.put, y1, y2, y3, y4, y5, y6]
              generalize w32.alloc zO = w37 at *
              generalize w32.heap.size = b40 at *
              refine wpAnyH_ready (rs := [10]) (by kernel_rfl) (by simp) ?_
              refine AllReadyH.cons rfl (fun K hK => ?_) (AllReadyH.nil)
              try simp only [y1, y2, y3]
              rw [if_pos (by rfl)]
              refine wp_store_mid 22 (.tmp 9) (.tmp 22) rfl (b40) (0) (vl 16 (pc)).toArray rfl rfl (H16.there hz39) (vsz _) (von _) ?_
              simp only [Act.put, y1, y2, y3, y4, y5, y6, List.toList_toArray]
              have hw45 : Below u2.heap.size u2 (w37.setCells b40 0 (vl 16 (pc))) := below_store hw38 (by omega) _ 0
              have hz46 : H16 (w37.setCells b40 0 (vl 16 (pc))) b40 (pc) := H16.store hz39 _
              have hz47 : H16 (w37.setCells b40 0 (vl 16 (pc))) b35 _ := H16.storeOther hz42 (by omega) _
              refine hK.out _ _ ?_ (fun hHeld => ?_)
              · exact ⟨range_kept (hw45) (row16_range X3.out), range_kept (hw45) (row16_range X4.out), range_kept (hw45) (row16_range X5.out), range_kept (hw45) (row16_range X7.out), hw45⟩
              clear hK K
              try simp only [Act.put, y1, y2, y3, y4, y5, y6]
              generalize w37.setCells b40 0 (vl 16 (pc)) = w44 at *
              refine wpAnyH_ready (rs := [11]) (by kernel_rfl) (by simp) ?_
              refine AllReadyH.cons rfl (fun K hK => ?_) (AllReadyH.nil)
              try simp only [y1, y2, y3]
              rw [if_pos (by rfl)]
              refine wp_store_mid 22 (.tmp 10) (.tmp 27) rfl (b35) (0) (vl 16 (pe)).toArray rfl rfl (H16.there hz47) (vsz _) (von _) ?_
              simp only [Act.put, y1, y2, y3, y4, y5, y6, List.toList_toArray]
              have hw49 : Below u2.heap.size u2 (w44.setCells b35 0 (vl 16 (pe))) := below_store hw45 (by omega) _ 0
              have hz50 : H16 (w44.setCells b35 0 (vl 16 (pe))) b35 (pe) := H16.store hz47 _
              have hz51 : H16 (w44.setCells b35 0 (vl 16 (pe))) b40 _ := H16.storeOther hz46 (by omega) _
              refine hK.out _ _ ?_ (fun hHeld => ?_)
              · exact ⟨range_kept (hw49) (row16_range X3.out), range_kept (hw49) (row16_range X4.out), range_kept (hw49) (row16_range X5.out), range_kept (hw49) (row16_range X7.out), hw49⟩
              clear hK K
              try simp only [Act.put, y1, y2, y3, y4, y5, y6]
              generalize w44.setCells b35 0 (vl 16 (pe)) = w48 at *
              refine wpAnyH_done (by kernel_rfl) ?_ _
              refine NoPanic.normal ?_
              go_wp2_with fail
              go_meet
              refine ⟨_, _, rfl, rfl, Lib.hid hz51, Lib.hid hz50, Lib.hid hw49⟩
          · try simp only [y1, y2, y3]
            go_simp
            have hw53 : Below u2.heap.size u2 (w6.alloc zO) := hw8.alloc hw8.size _
            have hz54 : H16 (w6.alloc zO) w6.heap.size fun _ => 0 := new_h w6
            have hl56 : u2.heap.size ≤ w6.heap.size := hw8.size
            refine hK.out _ _ ?_ (fun hHeld => ?_)
            · exact ⟨range_kept (hw53) (row16_range X3.out), range_kept (hw53) (row16_range X4.out), range_kept (hw53) (row16_range X5.out), range_kept (hw53) (row16_range X7.out), hw53⟩
            clear hK K
            try simp only [Act.put, y1, y2, y3, y4, y5, y6]
            generalize w6.alloc zO = w52 at *
            generalize w6.heap.size = b55 at *
            refine wpAnyH_ready (rs := [7, 9]) (by kernel_rfl) (by simp) ?_
            refine AllReadyH.cons rfl (fun K hK => ?_) (AllReadyH.cons rfl (fun K hK => ?_) (AllReadyH.nil))
            · try simp only [y1, y2, y3]
              go_simp
              refine (Ce.out _).mono ?_
              rintro e w57 ⟨rfl, hb58⟩
              rw [aN_vl 16 (pe)]
              have hw59 : Below u2.heap.size u2 w57 := hw53.trans (hb58.mono hw53.size)
              have hz60 := H16.call hb58 hz54
              refine hK.out _ _ ?_ (fun hHeld => ?_)
              · exact ⟨range_kept (hw59) (row16_range X3.out), range_kept (hw59) (row16_range X4.out), range_kept (hw59) (row16_range X5.out), range_kept (hw59) (row16_range X7.out), hw59⟩
              clear hK K
              try simp only [Act.put, y1, y2, y3, y4, y5, y6]
              clear hb58
              refine wpAnyH_ready (rs := [9]) (by kernel_rfl) (by simp) ?_
              refine AllReadyH.cons rfl (fun K hK => ?_) (AllReadyH.nil)
              try simp only [y1, y2, y3]
              go_simp
              have hw62 : Below u2.heap.size u2 (w57.alloc zO) := hw59.alloc hw59.size _
              have hz63 : H16 (w57.alloc zO) w57.heap.size fun _ => 0 := new_h w57
              have hl65 : u2.heap.size ≤ w57.heap.size := hw59.size
              have hz66 := H16.alloc zO hz60
              have hne67 : b55 < w57.heap.size := hz60.lt
              refine hK.out _ _ ?_ (fun hHeld => ?_)
              · exact ⟨range_kept (hw62) (row16_range X3.out), range_kept (hw62) (row16_range X4.out), range_kept (hw62) (row16_range X5.out), range_kept (hw62) (row16_range X7.out), hw62⟩
              clear hK K
              try simp only [Act.put, y1, y2, y3, y4, y5, y6]
              generalize w57.alloc zO = w61 at *
              generalize w57.heap.size = b64 at *
              refine wpAnyH_ready (rs := [10]) (by kernel_rfl) (by simp) ?_
              refine AllReadyH.cons rfl (fun K hK => ?_) (AllReadyH.nil)
              try simp only [y1, y2, y3]
              rw [if_pos (by rfl)]
              refine wp_store_mid 22 (.tmp 9) (.tmp 22) rfl (b55) (0) (vl 16 (pc)).toArray rfl rfl (H16.there hz66) (vsz _) (von _) ?_
              simp only [Act.put, y1, y2, y3, y4, y5, y6, List.toList_toArray]
              have hw69 : Below u2.heap.size u2 (w61.setCells b55 0 (vl 16 (pc))) := below_store hw62 (by omega) _ 0
              have hz70 : H16 (w61.setCells b55 0 (vl 16 (pc))) b55 (pc) := H16.store hz66 _
              have hz71 : H16 (w61.setCells b55 0 (vl 16 (pc))) b64 _ := H16.storeOther hz63 (by omega) _
              refine hK.out _ _ ?_ (fun hHeld => ?_)
              · exact ⟨range_kept (hw69) (row16_range X3.out), range_kept (hw69) (row16_range X4.out), range_kept (hw69) (row16_range X5.out), range_kept (hw69) (row16_range X7.out), hw69⟩
              clear hK K
              try simp only [Act.put, y1, y2, y3, y4, y5, y6]
              generalize w61.setCells b55 0 (vl 16 (pc)) = w68 at *
              refine wpAnyH_ready (rs := [11]) (by kernel_rfl) (by simp) ?_
              refine AllReadyH.cons rfl (fun K hK => ?_) (AllReadyH.nil)
              try simp only [y1, y2, y3]
              rw [if_pos (by rfl)]
              refine wp_store_mid 22 (.tmp 10) (.tmp 27) rfl (b64) (0) (vl 16 (pe)).toArray rfl rfl (H16.there hz71) (vsz _) (von _) ?_
              simp only [Act.put, y1, y2, y3, y4, y5, y6, List.toList_toArray]
              have hw73 : Below u2.heap.size u2 (w68.setCells b64 0 (vl 16 (pe))) := below_store hw69 (by omega) _ 0
              have hz74 : H16 (w68.setCells b64 0 (vl 16 (pe))) b64 (pe) := H16.store hz71 _
              have hz75 : H16 (w68.setCells b64 0 (vl 16 (pe))) b55 _ := H16.storeOther hz70 (by omega) _
              refine hK.out _ _ ?_ (fun hHeld => ?_)
              · exact ⟨range_kept (hw73) (row16_range X3.out), range_kept (hw73) (row16_range X4.out), range_kept (hw73) (row16_range X5.out), range_kept (hw73) (row16_range X7.out), hw73⟩
              clear hK K
              try simp only [Act.put, y1, y2, y3, y4, y5, y6]
              generalize w68.setCells b64 0 (vl 16 (pe)) = w72 at *
              refine wpAnyH_done (by kernel_rfl) ?_ _
              refine NoPanic.normal ?_
              go_wp2_with fail
              go_meet
              refine ⟨_, _, rfl, rfl, Lib.hid hz75, Lib.hid hz74, Lib.hid hw73⟩
            · try simp only [y1, y2, y3]
              go_simp
              have hw77 : Below u2.heap.size u2 (w52.alloc zO) := hw53.alloc hw53.size _
              have hz78 : H16 (w52.alloc zO) w52.heap.size fun _ => 0 := new_h w52
              have hl80 : u2.heap.size ≤ w52.heap.size := hw53.size
              have hz81 := H16.alloc zO hz54
              have hne82 : b55 < w52.heap.size := hz54.lt
              refine hK.out _ _ ?_ (fun hHeld => ?_)
              · exact ⟨range_kept (hw77) (row16_range X3.out), range_kept (hw77) (row16_range X4.out), range_kept (hw77) (row16_range X5.out), range_kept (hw77) (row16_range X7.out), hw77⟩
              clear hK K
              try simp only [Act.put, y1, y2, y3, y4, y5, y6]
              generalize w52.alloc zO = w76 at *
              generalize w52.heap.size = b79 at *
              refine wpAnyH_ready (rs := [7]) (by kernel_rfl) (by simp) ?_
              refine AllReadyH.cons rfl (fun K hK => ?_) (AllReadyH.nil)
              try simp only [y1, y2, y3]
              go_simp
              refine (Ce.out _).mono ?_
              rintro e w83 ⟨rfl, hb84⟩
              rw [aN_vl 16 (pe)]
              have hw85 : Below u2.heap.size u2 w83 := hw77.trans (hb84.mono hw77.size)
              have hz86 := H16.call hb84 hz81
              have hz87 := H16.call hb84 hz78
              refine hK.out _ _ ?_ (fun hHeld => ?_)
              · exact ⟨range_kept (hw85) (row16_range X3.out), range_kept (hw85) (row16_range X4.out), range_kept (hw85) (row16_range X5.out), range_kept (hw85) (row16_range X7.out), hw85⟩
              clear hK K
              try simp only [Act.put, y1, y2, y3, y4, y5, y6]
              clear hb84
              refine wpAnyH_ready (rs := [10]) (by kernel_rfl) (by simp) ?_
              refine AllReadyH.cons rfl (fun K hK => ?_) (AllReadyH.nil)
              try simp only [y1, y2, y3]
              rw [if_pos (by rfl)]
              refine wp_store_mid 22 (.tmp 9) (.tmp 22) rfl (b55) (0) (vl 16 (pc)).toArray rfl rfl (H16.there hz86) (vsz _) (von _) ?_
              simp only [Act.put, y1, y2, y3, y4, y5, y6, List.toList_toArray]
              have hw89 : Below u2.heap.size u2 (w83.setCells b55 0 (vl 16 (pc))) := below_store hw85 (by omega) _ 0
              have hz90 : H16 (w83.setCells b55 0 (vl 16 (pc))) b55 (pc) := H16.store hz86 _
              have hz91 : H16 (w83.setCells b55 0 (vl 16 (pc))) b79 _ := H16.storeOther hz87 (by omega) _
              refine hK.out _ _ ?_ (fun hHeld => ?_)
              · exact ⟨range_kept (hw89) (row16_range X3.out), range_kept (hw89) (row16_range X4.out), range_kept (hw89) (row16_range X5.out), range_kept (hw89) (row16_range X7.out), hw89⟩
              clear hK K
              try simp only [Act.put, y1, y2, y3, y4, y5, y6]
              generalize w83.setCells b55 0 (vl 16 (pc)) = w88 at *
              refine wpAnyH_ready (rs := [11]) (by kernel_rfl) (by simp) ?_
              refine AllReadyH.cons rfl (fun K hK => ?_) (AllReadyH.nil)
              try simp only [y1, y2, y3]
              rw [if_pos (by rfl)]
              refine wp_store_mid 22 (.tmp 10) (.tmp 27) rfl (b79) (0) (vl 16 (pe)).toArray rfl rfl (H16.there hz91) (vsz _) (von _) ?_
              simp only [Act.put, y1, y2, y3, y4, y5, y6, List.toList_toArray]
              have hw93 : Below u2.heap.size u2 (w88.setCells b79 0 (vl 16 (pe))) := below_store hw89 (by omega) _ 0
              have hz94 : H16 (w88.setCells b79 0 (vl 16 (pe))) b79 (pe) := H16.store hz91 _
              have hz95 : H16 (w88.setCells b79 0 (vl 16 (pe))) b55 _ := H16.storeOther hz90 (by omega) _
              refine hK.out _ _ ?_ (fun hHeld => ?_)
              · exact ⟨range_kept (hw93) (row16_range X3.out), range_kept (hw93) (row16_range X4.out), range_kept (hw93) (row16_range X5.out), range_kept (hw93) (row16_range X7.out), hw93⟩
              clear hK K
              try simp only [Act.put, y1, y2, y3, y4, y5, y6]
              generalize w88.setCells b79 0 (vl 16 (pe)) = w92 at *
              refine wpAnyH_done (by kernel_rfl) ?_ _
              refine NoPanic.normal ?_
              go_wp2_with fail
              go_meet
              refine ⟨_, _, rfl, rfl, Lib.hid hz95, Lib.hid hz94, Lib.hid hw93⟩
          · try simp only [y1, y2, y3]
            go_simp
            have hw97 : Below u2.heap.size u2 (w6.alloc zO) := hw8.alloc hw8.size _
            have hz98 : H16 (w6.alloc zO) w6.heap.size fun _ => 0 := new_h w6
            have hl100 : u2.heap.size ≤ w6.heap.size := hw8.size
            refine hK.out _ _ ?_ (fun hHeld => ?_)
            · exact ⟨range_kept (hw97) (row16_range X3.out), range_kept (hw97) (row16_range X4.out), range_kept (hw97) (row16_range X5.out), range_kept (hw97) (row16_range X7.out), hw97⟩
            clear hK K
            try simp only [Act.put, y1, y2, y3, y4, y5, y6]
            generalize w6.alloc zO = w96 at *
            generalize w6.heap.size = b99 at *
            refine wpAnyH_ready (rs := [7, 8]) (by kernel_rfl) (by simp) ?_
            refine AllReadyH.cons rfl (fun K hK => ?_) (AllReadyH.cons rfl (fun K hK => ?_) (AllReadyH.nil))
            · try simp only [y1, y2, y3]
              go_simp
              refine (Ce.out _).mono ?_
              rintro e w101 ⟨rfl, hb102⟩
              rw [aN_vl 16 (pe)]
              have hw103 : Below u2.heap.size u2 w101 := hw97.trans (hb102.mono hw97.size)
              have hz104 := H16.call hb102 hz98
              refine hK.out _ _ ?_ (fun hHeld => ?_)
              · exact ⟨range_kept (hw103) (row16_range X3.out), range_kept (hw103) (row16_range X4.out), range_kept (hw103) (row16_range X5.out), range_kept (hw103) (row16_range X7.out), hw103⟩
              clear hK K
              try simp only [Act.put, y1, y2, y3, y4, y5, y6]
              clear hb102
              refine wpAnyH_ready (rs := [8]) (by kernel_rfl) (by simp) ?_
              refine AllReadyH.cons rfl (fun K hK => ?_) (AllReadyH.nil)
              try simp only [y1, y2, y3]
              go_simp
              have hw106 : Below u2.heap.size u2 (w101.alloc zO) := hw103.alloc hw103.size _
              have hz107 : H16 (w101.alloc zO) w101.heap.size fun _ => 0 := new_h w101
              have hl109 : u2.heap.size ≤ w101.heap.size := hw103.size
              have hz110 := H16.alloc zO hz104
              have hne111 : b99 < w101.heap.size := hz104.lt
              refine hK.out _ _ ?_ (fun hHeld => ?_)
              · exact ⟨range_kept (hw106) (row16_range X3.out), range_kept (hw106) (row16_range X4.out), range_kept (hw106) (row16_range X5.out), range_kept (hw106) (row16_range X7.out), hw106⟩
              clear hK K
              try simp only [Act.put, y1, y2, y3, y4, y5, y6]
              generalize w101.alloc zO = w105 at *
              generalize w101.heap.size = b108 at *
              refine wpAnyH_ready (rs := [10]) (by kernel_rfl) (by simp) ?_
              refine AllReadyH.cons rfl (fun K hK => ?_) (AllReadyH.nil)
              try simp only [y1, y2, y3]
              rw [if_pos (by rfl)]
              refine wp_store_mid 22 (.tmp 9) (.tmp 22) rfl (b108) (0) (vl 16 (pc)).toArray rfl rfl (H16.there hz107) (vsz _) (von _) ?_
              simp only [Act.put, y1, y2, y3, y4, y5, y6, List.toList_toArray]
              have hw113 : Below u2.heap.size u2 (w105.setCells b108 0 (vl 16 (pc))) := below_store hw106 (by omega) _ 0
              have hz114 : H16 (w105.setCells b108 0 (vl 16 (pc))) b108 (pc) := H16.store hz107 _
              have hz115 : H16 (w105.setCells b108 0 (vl 16 (pc))) b99 _ := H16.storeOther hz110 (by omega) _
              refine hK.out _ _ ?_ (fun hHeld => ?_)
              · exact ⟨range_kept (hw113) (row16_range X3.out), range_kept (hw113) (row16_range X4.out), range_kept (hw113) (row16_range X5.out), range_kept (hw113) (row16_range X7.out), hw113⟩
              clear hK K
              try simp only [Act.put, y1, y2, y3, y4, y5, y6]
              generalize w105.setCells b108 0 (vl 16 (pc)) = w112 at *
              refine wpAnyH_ready (rs := [11]) (by kernel_rfl) (by simp) ?_
              refine AllReadyH.cons rfl (fun K hK => ?_) (AllReadyH.nil)
              try simp only [y1, y2, y3]
              rw [if_pos (by rfl)]
              refine wp_store_mid 22 (.tmp 10) (.tmp 27) rfl (b99) (0) (vl 16 (pe)).toArray rfl rfl (H16.there hz115) (vsz _) (von _) ?_
              simp only [Act.put, y1, y2, y3, y4, y5, y6, List.toList_toArray]
              have hw117 : Below u2.heap.size u2 (w112.setCells b99 0 (vl 16 (pe))) := below_store hw113 (by omega) _ 0
              have hz118 : H16 (w112.setCells b99 0 (vl 16 (pe))) b99 (pe) := H16.store hz115 _
              have hz119 : H16 (w112.setCells b99 0 (vl 16 (pe))) b108 _ := H16.storeOther hz114 (by omega) _
              refine hK.out _ _ ?_ (fun hHeld => ?_)
              · exact ⟨range_kept (hw117) (row16_range X3.out), range_kept (hw117) (row16_range X4.out), range_kept (hw117) (row16_range X5.out), range_kept (hw117) (row16_range X7.out), hw117⟩
              clear hK K
              try simp only [Act.put, y1, y2, y3, y4, y5, y6]
              generalize w112.setCells b99 0 (vl 16 (pe)) = w116 at *
              refine wpAnyH_done (by kernel_rfl) ?_ _
              refine NoPanic.normal ?_
              go_wp2_with fail
              go_meet
              refine ⟨_, _, rfl, rfl, Lib.hid hz119, Lib.hid hz118, Lib.hid hw117⟩
            · try simp only [y1, y2, y3]
              go_simp
              have hw121 : Below u2.heap.size u2 (w96.alloc zO) := hw97.alloc hw97.size _
              have hz122 : H16 (w96.alloc zO) w96.heap.size fun _ => 0 := new_h w96
              have hl124 : u2.heap.size ≤ w96.heap.size := hw97.size
              have hz125 := H16.alloc zO hz98
              have hne126 : b99 < w96.heap.size := hz98.lt
              refine hK.out _ _ ?_ (fun hHeld => ?_)
              · exact ⟨range_kept (hw121) (row16_range X3.out), range_kept (hw121) (row16_range X4.out), range_kept (hw121) (row16_range X5.out), range_kept (hw121) (row16_range X7.out), hw121⟩
              clear hK K
              try simp only [Act.put, y1, y2, y3, y4, y5, y6]
              generalize w96.alloc zO = w120 at *
              generalize w96.heap.size = b123 at *
              refine wpAnyH_ready (rs := [7]) (by kernel_rfl) (by simp) ?_
              refine AllReadyH.cons rfl (fun K hK => ?_) (AllReadyH.nil)
              try simp only [y1, y2, y3]
              go_simp
              refine (Ce.out _).mono ?_
              rintro e w127 ⟨rfl, hb128⟩
              rw [aN_vl 16 (pe)]
              have hw129 : Below u2.heap.size u2 w127 := hw121.trans (hb128.mono hw121.size)
              have hz130 := H16.call hb128 hz125
              have hz131 := H16.call hb128 hz122
              refine hK.out _ _ ?_ (fun hHeld => ?_)
              · exact ⟨range_kept (hw129) (row16_range X3.out), range_kept (hw129) (row16_range X4.out), range_kept (hw129) (row16_range X5.out), range_kept (hw129) (row16_range X7.out), hw129⟩
              clear hK K
              try simp only [Act.put, y1, y2, y3, y4, y5, y6]
              clear hb128
              refine wpAnyH_ready (rs := [10]) (by kernel_rfl) (by simp) ?_
              refine AllReadyH.cons rfl (fun K hK => ?_) (AllReadyH.nil)
              try simp only [y1, y2, y3]
              rw [if_pos (by rfl)]
              refine wp_store_mid 22 (.tmp 9) (.tmp 22) rfl (b123) (0) (vl 16 (pc)).toArray rfl rfl (H16.there hz131) (vsz _) (von _) ?_
              simp only [Act.put, y1, y2, y3, y4, y5, y6, List.toList_toArray]
              have hw133 : Below u2.heap.size u2 (w127.setCells b123 0 (vl 16 (pc))) := below_store hw129 (by omega) _ 0
              have hz134 : H16 (w127.setCells b123 0 (vl 16 (pc))) b123 (pc) := H16.store hz131 _
              have hz135 : H16 (w127.setCells b123 0 (vl 16 (pc))) b99 _ := H16.storeOther hz130 (by omega) _
              refine hK.out _ _ ?_ (fun hHeld => ?_)
              · exact ⟨range_kept (hw133) (row16_range X3.out), range_kept (hw133) (row16_range X4.out), range_kept (hw133) (row16_range X5.out), range_kept (hw133) (row16_range X7.out), hw133⟩
              clear hK K
              try simp only [Act.put, y1, y2, y3, y4, y5, y6]
              generalize w127.setCells b123 0 (vl 16 (pc)) = w132 at *
              refine wpAnyH_ready (rs := [11]) (by kernel_rfl) (by simp) ?_
              refine AllReadyH.cons rfl (fun K hK => ?_) (AllReadyH.nil)
              try simp only [y1, y2, y3]
              rw [if_pos (by rfl)]
              refine wp_store_mid 22 (.tmp 10) (.tmp 27) rfl (b99) (0) (vl 16 (pe)).toArray rfl rfl (H16.there hz135) (vsz _) (von _) ?_
              simp only [Act.put, y1, y2, y3, y4, y5, y6, List.toList_toArray]
              have hw137 : Below u2.heap.size u2 (w132.setCells b99 0 (vl 16 (pe))) := below_store hw133 (by omega) _ 0
              have hz138 : H16 (w132.setCells b99 0 (vl 16 (pe))) b99 (pe) := H16.store hz135 _
              have hz139 : H16 (w132.setCells b99 0 (vl 16 (pe))) b123 _ := H16.storeOther hz134 (by omega) _
              refine hK.out _ _ ?_ (fun hHeld => ?_)
              · exact ⟨range_kept (hw137) (row16_range X3.out), range_kept (hw137) (row16_range X4.out), range_kept (hw137) (row16_range X5.out), range_kept (hw137) (row16_range X7.out), hw137⟩
              clear hK K
              try simp only [Act.put, y1, y2, y3, y4, y5, y6]
              generalize w132.setCells b99 0 (vl 16 (pe)) = w136 at *
              refine wpAnyH_done (by kernel_rfl) ?_ _
              refine NoPanic.normal ?_
              go_wp2_with fail
              go_meet
              refine ⟨_, _, rfl, rfl, Lib.hid hz139, Lib.hid hz138, Lib.hid hw137⟩
        · try simp only [y1, y2, y3]
          go_simp
          have hw141 : Below u2.heap.size u2 (w3.alloc zO) := hw5.alloc hw5.size _
          have hz142 : H16 (w3.alloc zO) w3.heap.size fun _ => 0 := new_h w3
          have hl144 : u2.heap.size ≤ w3.heap.size := hw5.size
          refine hK.out _ _ ?_ (fun hHeld => ?_)
          · exact ⟨range_kept (hw141) (row16_range X3.out), range_kept (hw141) (row16_range X4.out), range_kept (hw141) (row16_range X5.out), range_kept (hw141) (row16_range X7.out), hw141⟩
          clear hK K
          try simp only [Act.put, y1, y2, y3, y4, y5, y6]
          generalize w3.alloc zO = w140 at *
          generalize w3.heap.size = b143 at *
          refine wpAnyH_ready (rs := [6, 9]) (by kernel_rfl) (by simp) ?_
          refine AllReadyH.cons rfl (fun K hK => ?_) (AllReadyH.cons rfl (fun K hK => ?_) (AllReadyH.nil))
          · try simp only [y1, y2, y3]
            go_simp
            refine (Cd.out _).mono ?_
            rintro e w145 ⟨rfl, hb146⟩
            rw [aN_vl 16 (pd)]
            have hw147 : Below u2.heap.size u2 w145 := hw141.trans (hb146.mono hw141.size)
            have hz148 := H16.call hb146 hz142
            refine hK.out _ _ ?_ (fun hHeld => ?_)
            · exact ⟨range_kept (hw147) (row16_range X3.out), range_kept (hw147) (row16_range X4.out), range_kept (hw147) (row16_range X5.out), range_kept (hw147) (row16_range X7.out), hw147⟩
            clear hK K
            try simp only [Act.put, y1, y2, y3, y4, y5, y6]
            clear hb146
            refine wpAnyH_ready (rs := [7, 9]) (by kernel_rfl) (by simp) ?_
            refine AllReadyH.cons rfl (fun K hK => ?_) (AllReadyH.cons rfl (fun K hK => ?_) (AllReadyH.nil))
            · try simp only [y1, y2, y3]
              go_simp
              refine (Ce.out _).mono ?_
              rintro e w149 ⟨rfl, hb150⟩
              rw [aN_vl 16 (pe)]
              have hw151 : Below u2.heap.size u2 w149 := hw147.trans (hb150.mono hw147.size)
              have hz152 := H16.call hb150 hz148
              refine hK.out _ _ ?_ (fun hHeld => ?_)
              · exact ⟨range_kept (hw151) (row16_range X3.out), range_kept (hw151) (row16_range X4.out), range_kept (hw151) (row16_range X5.out), range_kept (hw151) (row16_range X7.out), hw151⟩
              clear hK K
              try simp only [Act.put, y1, y2, y3, y4, y5, y6]
              clear hb150
              refine wpAnyH_ready (rs := [9]) (by kernel_rfl) (by simp) ?_
              refine AllReadyH.cons rfl (fun K hK => ?_) (AllReadyH.nil)
              try simp only [y1, y2, y3]
              go_simp
              have hw154 : Below u2.heap.size u2 (w149.alloc zO) := hw151.alloc hw151.size _
              have hz155 : H16 (w149.alloc zO) w149.heap.size fun _ => 0 := new_h w149
              have hl157 : u2.heap.size ≤ w149.heap.size := hw151.size
              have hz158 := H16.alloc zO hz152
              have hne159 : b143 < w149.heap.size := hz152.lt
              refine hK.out _ _ ?_ (fun hHeld => ?_)
              · exact ⟨range_kept (hw154) (row16_range X3.out), range_kept (hw154) (row16_range X4.out), range_kept (hw154) (row16_range X5.out), range_kept (hw154) (row16_range X7.out), hw154⟩
              clear hK K
              try simp only [Act.put, y1, y2, y3, y4, y5, y6]
              generalize w149.alloc zO = w153 at *
              generalize w149.heap.size = b156 at *
              refine wpAnyH_ready (rs := [10]) (by kernel_rfl) (by simp) ?_
              refine AllReadyH.cons rfl (fun K hK => ?_) (AllReadyH.nil)
              try simp only [y1, y2, y3]
              rw [if_pos (by rfl)]
              refine wp_store_mid 22 (.tmp 9) (.tmp 22) rfl (b143) (0) (vl 16 (pc)).toArray rfl rfl (H16.there hz158) (vsz _) (von _) ?_
              simp only [Act.put, y1, y2, y3, y4, y5, y6, List.toList_toArray]
              have hw161 : Below u2.heap.size u2 (w153.setCells b143 0 (vl 16 (pc))) := below_store hw154 (by omega) _ 0
              have hz162 : H16 (w153.setCells b143 0 (vl 16 (pc))) b143 (pc) := H16.store hz158 _
              have hz163 : H16 (w153.setCells b143 0 (vl 16 (pc))) b156 _ := H16.storeOther hz155 (by omega) _
              refine hK.out _ _ ?_ (fun hHeld => ?_)
              · exact ⟨range_kept (hw161) (row16_range X3.out), range_kept (hw161) (row16_range X4.out), range_kept (hw161) (row16_range X5.out), range_kept (hw161) (row16_range X7.out), hw161⟩
              clear hK K
              try simp only [Act.put, y1, y2, y3, y4, y5, y6]
              generalize w153.setCells b143 0 (vl 16 (pc)) = w160 at *
              refine wpAnyH_ready (rs := [11]) (by kernel_rfl) (by simp) ?_
              refine AllReadyH.cons rfl (fun K hK => ?_) (AllReadyH.nil)
              try simp only [y1, y2, y3]
              rw [if_pos (by rfl)]
              refine wp_store_mid 22 (.tmp 10) (.tmp 27) rfl (b156) (0) (vl 16 (pe)).toArray rfl rfl (H16.there hz163) (vsz _) (von _) ?_
              simp only [Act.put, y1, y2, y3, y4, y5, y6, List.toList_toArray]
              have hw165 : Below u2.heap.size u2 (w160.setCells b156 0 (vl 16 (pe))) := below_store hw161 (by omega) _ 0
              have hz166 : H16 (w160.setCells b156 0 (vl 16 (pe))) b156 (pe) := H16.store hz163 _
              have hz167 : H16 (w160.setCells b156 0 (vl 16 (pe))) b143 _ := H16.storeOther hz162 (by omega) _
              refine hK.out _ _ ?_ (fun hHeld => ?_)
              · exact ⟨range_kept (hw165) (row16_range X3.out), range_kept (hw165) (row16_range X4.out), range_kept (hw165) (row16_range X5.out), range_kept (hw165) (row16_range X7.out), hw165⟩
              clear hK K
              try simp only [Act.put, y1, y2, y3, y4, y5, y6]
              generalize w160.setCells b156 0 (vl 16 (pe)) = w164 at *
              refine wpAnyH_done (by kernel_rfl) ?_ _
              refine NoPanic.normal ?_
              go_wp2_with fail
              go_meet
              refine ⟨_, _, rfl, rfl, Lib.hid hz167, Lib.hid hz166, Lib.hid hw165⟩
            · try simp only [y1, y2, y3]
              go_simp
              have hw169 : Below u2.heap.size u2 (w145.alloc zO) := hw147.alloc hw147.size _
              have hz170 : H16 (w145.alloc zO) w145.heap.size fun _ => 0 := new_h w145
              have hl172 : u2.heap.size ≤ w145.heap.size := hw147.size
              have hz173 := H16.alloc zO hz148
              have hne174 : b143 < w145.heap.size := hz148.lt
              refine hK.out _ _ ?_ (fun hHeld => ?_)
              · exact ⟨range_kept (hw169) (row16_range X3.out), range_kept (hw169) (row16_range X4.out), range_kept (hw169) (row16_range X5.out), range_kept (hw169) (row16_range X7.out), hw169⟩
              clear hK K
              try simp only [Act.put, y1, y2, y3, y4, y5, y6]
              generalize w145.alloc zO = w168 at *
              generalize w145.heap.size = b171 at *
              refine wpAnyH_ready (rs := [7]) (by kernel_rfl) (by simp) ?_
              refine AllReadyH.cons rfl (fun K hK => ?_) (AllReadyH.nil)
              try simp only [y1, y2, y3]
              go_simp
              refine (Ce.out _).mono ?_
              rintro e w175 ⟨rfl, hb176⟩
              rw [aN_vl 16 (pe)]
              have hw177 : Below u2.heap.size u2 w175 := hw169.trans (hb176.mono hw169.size)
              have hz178 := H16.call hb176 hz173
              have hz179 := H16.call hb176 hz170
              refine hK.out _ _ ?_ (fun hHeld => ?_)
              · exact ⟨range_kept (hw177) (row16_range X3.out), range_kept (hw177) (row16_range X4.out), range_kept (hw177) (row16_range X5.out), range_kept (hw177) (row16_range X7.out), hw177⟩
              clear hK K
              try simp only [Act.put, y1, y2, y3, y4, y5, y6]
              clear hb176
              refine wpAnyH_ready (rs := [10]) (by kernel_rfl) (by simp) ?_
              refine AllReadyH.cons rfl (fun K hK => ?_) (AllReadyH.nil)
              try simp only [y1, y2, y3]
              rw [if_pos (by rfl)]
              refine wp_store_mid 22 (.tmp 9) (.tmp 22) rfl (b143) (0) (vl 16 (pc)).toArray rfl rfl (H16.there hz178) (vsz _) (von _) ?_
              simp only [Act.put, y1, y2, y3, y4, y5, y6, List.toList_toArray]
              have hw181 : Below u2.heap.size u2 (w175.setCells b143 0 (vl 16 (pc))) := below_store hw177 (by omega) _ 0
              have hz182 : H16 (w175.setCells b143 0 (vl 16 (pc))) b143 (pc) := H16.store hz178 _
              have hz183 : H16 (w175.setCells b143 0 (vl 16 (pc))) b171 _ := H16.storeOther hz179 (by omega) _
              refine hK.out _ _ ?_ (fun hHeld => ?_)
              · exact ⟨range_kept (hw181) (row16_range X3.out), range_kept (hw181) (row16_range X4.out), range_kept (hw181) (row16_range X5.out), range_kept (hw181) (row16_range X7.out), hw181⟩
              clear hK K
              try simp only [Act.put, y1, y2, y3, y4, y5, y6]
              generalize w175.setCells b143 0 (vl 16 (pc)) = w180 at *
              refine wpAnyH_ready (rs := [11]) (by kernel_rfl) (by simp) ?_
              refine AllReadyH.cons rfl (fun K hK => ?_) (AllReadyH.nil)
              try simp only [y1, y2, y3]
              rw [if_pos (by rfl)]
              refine wp_store_mid 22 (.tmp 10) (.tmp 27) rfl (b171) (0) (vl 16 (pe)).toArray rfl rfl (H16.there hz183) (vsz _) (von _) ?_
              simp only [Act.put, y1, y2, y3, y4, y5, y6, List.toList_toArray]
              have hw185 : Below u2.heap.size u2 (w180.setCells b171 0 (vl 16 (pe))) := below_store hw181 (by omega) _ 0
              have hz186 : H16 (w180.setCells b171 0 (vl 16 (pe))) b171 (pe) := H16.store hz183 _
              have hz187 : H16 (w180.setCells b171 0 (vl 16 (pe))) b143 _ := H16.storeOther hz182 (by omega) _
              refine hK.out _ _ ?_ (fun hHeld => ?_)
              · exact ⟨range_kept (hw185) (row16_range X3.out), range_kept (hw185) (row16_range X4.out), range_kept (hw185) (row16_range X5.out), range_kept (hw185) (row16_range X7.out), hw185⟩
              clear hK K
              try simp only [Act.put, y1, y2, y3, y4, y5, y6]
              generalize w180.setCells b171 0 (vl 16 (pe)) = w184 at *
              refine wpAnyH_done (by kernel_rfl) ?_ _
              refine NoPanic.normal ?_
              go_wp2_with fail
              go_meet
              refine ⟨_, _, rfl, rfl, Lib.hid hz187, Lib.hid hz186, Lib.hid hw185⟩
          · try simp only [y1, y2, y3]
            go_simp
            have hw189 : Below u2.heap.size u2 (w140.alloc zO) := hw141.alloc hw141.size _
            have hz190 : H16 (w140.alloc zO) w140.heap.size fun _ => 0 := new_h w140
            have hl192 : u2.heap.size ≤ w140.heap.size := hw141.size
            have hz193 := H16.alloc zO hz142
            have hne194 : b143 < w140.heap.size := hz142.lt
            refine hK.out _ _ ?_ (fun hHeld => ?_)
            · exact ⟨range_kept (hw189) (row16_range X3.out), range_kept (hw189) (row16_range X4.out), range_kept (hw189) (row16_range X5.out), range_kept (hw189) (row16_range X7.out), hw189⟩
            clear hK K
            try simp only [Act.put, y1, y2, y3, y4, y5, y6]
            generalize w140.alloc zO = w188 at *
            generalize w140.heap.size = b191 at *
            refine wpAnyH_ready (rs := [6]) (by kernel_rfl) (by simp) ?_
            refine AllReadyH.cons rfl (fun K hK => ?_) (AllReadyH.nil)
            try simp only [y1, y2, y3]
            go_simp
            refine (Cd.out _).mono ?_
            rintro e w195 ⟨rfl, hb196⟩
            rw [aN_vl 16 (pd)]
            have hw197 : Below u2.heap.size u2 w195 := hw189.trans (hb196.mono hw189.size)
            have hz198 := H16.call hb196 hz193
            have hz199 := H16.call hb196 hz190
            refine hK.out _ _ ?_ (fun hHeld => ?_)
            · exact ⟨range_kept (hw197) (row16_range X3.out), range_kept (hw197) (row16_range X4.out), range_kept (hw197) (row16_range X5.out), range_kept (hw197) (row16_range X7.out), hw197⟩
            clear hK K
            try simp only [Act.put, y1, y2, y3, y4, y5, y6]
            clear hb196
            refine wpAnyH_ready (rs := [7]) (by kernel_rfl) (by simp) ?_
            refine AllReadyH.cons rfl (fun K hK => ?_) (AllReadyH.nil)
            try simp only [y1, y2, y3]
            go_simp
            refine (Ce.out _).mono ?_
            rintro e w200 ⟨rfl, hb201⟩
            rw [aN_vl 16 (pe)]
            have hw202 : Below u2.heap.size u2 w200 := hw197.trans (hb201.mono hw197.size)
            have hz203 := H16.call hb201 hz198
            have hz204 := H16.call hb201 hz199
            refine hK.out _ _ ?_ (fun hHeld => ?_)
            · exact ⟨range_kept (hw202) (row16_range X3.out), range_kept (hw202) (row16_range X4.out), range_kept (hw202) (row16_range X5.out), range_kept (hw202) (row16_range X7.out), hw202⟩
            clear hK K
            try simp only [Act.put, y1, y2, y3, y4, y5, y6]
            clear hb201
            refine wpAnyH_ready (rs := [10]) (by kernel_rfl) (by simp) ?_
            refine AllReadyH.cons rfl (fun K hK => ?_) (AllReadyH.nil)
            try simp only [y1, y2, y3]
            rw [if_pos (by rfl)]
            refine wp_store_mid 22 (.tmp 9) (.tmp 22) rfl (b143) (0) (vl 16 (pc)).toArray rfl rfl (H16.there hz203) (vsz _) (von _) ?_
            simp only [Act.put, y1, y2, y3, y4, y5, y6, List.toList_toArray]
            have hw206 : Below u2.heap.size u2 (w200.setCells b143 0 (vl 16 (pc))) := below_store hw202 (by omega) _ 0
            have hz207 : H16 (w200.setCells b143 0 (vl 16 (pc))) b143 (pc) := H16.store hz203 _
            have hz208 : H16 (w200.setCells b143 0 (vl 16 (pc))) b191 _ := H16.storeOther hz204 (by omega) _
            refine hK.out _ _ ?_ (fun hHeld => ?_)
            · exact ⟨range_kept (hw206) (row16_range X3.out), range_kept (hw206) (row16_range X4.out), range_kept (hw206) (row16_range X5.out), range_kept (hw206) (row16_range X7.out), hw206⟩
            clear hK K
            try simp only [Act.put, y1, y2, y3, y4, y5, y6]
            generalize w200.setCells b143 0 (vl 16 (pc)) = w205 at *
            refine wpAnyH_ready (rs := [11]) (by kernel_rfl) (by simp) ?_
            refine AllReadyH.cons rfl (fun K hK => ?_) (AllReadyH.nil)
            try simp only [y1, y2, y3]
            rw [if_pos (by rfl)]
            refine wp_store_mid 22 (.tmp 10) (.tmp 27) rfl (b191) (0) (vl 16 (pe)).toArray rfl rfl (H16.there hz208) (vsz _) (von _) ?_
            simp only [Act.put, y1, y2, y3, y4, y5, y6, List.toList_toArray]
            have hw210 : Below u2.heap.size u2 (w205.setCells b191 0 (vl 16 (pe))) := below_store hw206 (by omega) _ 0
            have hz211 : H16 (w205.setCells b191 0 (vl 16 (pe))) b191 (pe) := H16.store hz208 _
            have hz212 : H16 (w205.setCells b191 0 (vl 16 (pe))) b143 _ := H16.storeOther hz207 (by omega) _
            refine hK.out _ _ ?_ (fun hHeld => ?_)
            · exact ⟨range_kept (hw210) (row16_range X3.out), range_kept (hw210) (row16_range X4.out), range_kept (hw210) (row16_range X5.out), range_kept (hw210) (row16_range X7.out), hw210⟩
            clear hK K
            try simp only [Act.put, y1, y2, y3, y4, y5, y6]
            generalize w205.setCells b191 0 (vl 16 (pe)) = w209 at *
            refine wpAnyH_done (by kernel_rfl) ?_ _
            refine NoPanic.normal ?_
            go_wp2_with fail
            go_meet
            refine ⟨_, _, rfl, rfl, Lib.hid hz212, Lib.hid hz211, Lib.hid hw210⟩
        · try simp only [y1, y2, y3]
          go_simp
          have hw214 : Below u2.heap.size u2 (w3.alloc zO) := hw5.alloc hw5.size _
          have hz215 : H16 (w3.alloc zO) w3.heap.size fun _ => 0 := new_h w3
          have hl217 : u2.heap.size ≤ w3.heap.size := hw5.size
          refine hK.out _ _ ?_ (fun hHeld => ?_)
          · exact ⟨range_kept (hw214) (row16_range X3.out), range_kept (hw214) (row16_range X4.out), range_kept (hw214) (row16_range X5.out), range_kept (hw214) (row16_range X7.out), hw214⟩
          clear hK K
          try simp only [Act.put, y1, y2, y3, y4, y5, y6]
          generalize w3.alloc zO = w213 at *
          generalize w3.heap.size = b216 at *
          refine wpAnyH_ready (rs := [6, 8]) (by kernel_rfl) (by simp) ?_
          refine AllReadyH.cons rfl (fun K hK => ?_) (AllReadyH.cons rfl (fun K hK => ?_) (AllReadyH.nil))
          · try simp only [y1, y2, y3]
            go_simp
            refine (Cd.out _).mono ?_
            rintro e w218 ⟨rfl, hb219⟩
            rw [aN_vl 16 (pd)]
            have hw220 : Below u2.heap.size u2 w218 := hw214.trans (hb219.mono hw214.size)
            have hz221 := H16.call hb219 hz215
            refine hK.out _ _ ?_ (fun hHeld => ?_)
            · exact ⟨range_kept (hw220) (row16_range X3.out), range_kept (hw220) (row16_range X4.out), range_kept (hw220) (row16_range X5.out), range_kept (hw220) (row16_range X7.out), hw220⟩
            clear hK K
            try simp only [Act.put, y1, y2, y3, y4, y5, y6]
            clear hb219
            refine wpAnyH_ready (rs := [7, 8]) (by kernel_rfl) (by simp) ?_
            refine AllReadyH.cons rfl (fun K hK => ?_) (AllReadyH.cons rfl (fun K hK => ?_) (AllReadyH.nil))
            · try simp only [y1, y2, y3]
              go_simp
              refine (Ce.out _).mono ?_
              rintro e w222 ⟨rfl, hb223⟩
              rw [aN_vl 16 (pe)]
              have hw224 : Below u2.heap.size u2 w222 := hw220.trans (hb223.mono hw220.size)
              have hz225 := H16.call hb223 hz221
              refine hK.out _ _ ?_ (fun hHeld => ?_)
              · exact ⟨range_kept (hw224) (row16_range X3.out), range_kept (hw224) (row16_range X4.out), range_kept (hw224) (row16_range X5.out), range_kept (hw224) (row16_range X7.out), hw224⟩
              clear hK K
              try simp only [Act.put, y1, y2, y3, y4, y5, y6]
              clear hb223
              refine wpAnyH_ready (rs := [8]) (by kernel_rfl) (by simp) ?_
              refine AllReadyH.cons rfl (fun K hK => ?_) (AllReadyH.nil)
              try simp only [y1, y2, y3]
              go_simp
              have hw227 : Below u2.heap.size u2 (w222.alloc zO) := hw224.alloc hw224.size _
              have hz228 : H16 (w222.alloc zO) w222.heap.size fun _ => 0 := new_h w222
              have hl230 : u2.heap.size ≤ w222.heap.size := hw224.size
              have hz231 := H16.alloc zO hz225
              have hne232 : b216 < w222.heap.size := hz225.lt
              refine hK.out _ _ ?_ (fun hHeld => ?_)
              · exact ⟨range_kept (hw227) (row16_range X3.out), range_kept (hw227) (row16_range X4.out), range_kept (hw227) (row16_range X5.out), range_kept (hw227) (row16_range X7.out), hw227⟩
              clear hK K
              try simp only [Act.put, y1, y2, y3, y4, y5, y6]
              generalize w222.alloc zO = w226 at *
              generalize w222.heap.size = b229 at *
              refine wpAnyH_ready (rs := [10]) (by kernel_rfl) (by simp) ?_
              refine AllReadyH.cons rfl (fun K hK => ?_) (AllReadyH.nil)
              try simp only [y1, y2, y3]
              rw [if_pos (by rfl)]
              refine wp_store_mid 22 (.tmp 9) (.tmp 22) rfl (b229) (0) (vl 16 (pc)).toArray rfl rfl (H16.there hz228) (vsz _) (von _) ?_
              simp only [Act.put, y1, y2, y3, y4, y5, y6, List.toList_toArray]
              have hw234 : Below u2.heap.size u2 (w226.setCells b229 0 (vl 16 (pc))) := below_store hw227 (by omega) _ 0
              have hz235 : H16 (w226.setCells b229 0 (vl 16 (pc))) b229 (pc) := H16.store hz228 _
              have hz236 : H16 (w226.setCells b229 0 (vl 16 (pc))) b216 _ := H16.storeOther hz231 (by omega) _
              refine hK.out _ _ ?_ (fun hHeld => ?_)
              · exact ⟨range_kept (hw234) (row16_range X3.out), range_kept (hw234) (row16_range X4.out), range_kept (hw234) (row16_range X5.out), range_kept (hw234) (row16_range X7.out), hw234⟩
              clear hK K
              try simp only [Act.put, y1, y2, y3, y4, y5, y6]
              generalize w226.setCells b229 0 (vl 16 (pc)) = w233 at *
              refine wpAnyH_ready (rs := [11]) (by kernel_rfl) (by simp) ?_
              refine AllReadyH.cons rfl (fun K hK => ?_) (AllReadyH.nil)
              try simp only [y1, y2, y3]
              rw [if_pos (by rfl)]
              refine wp_store_mid 22 (.tmp 10) (.tmp 27) rfl (b216) (0) (vl 16 (pe)).toArray rfl rfl (H16.there hz236) (vsz _) (von _) ?_
              simp only [Act.put, y1, y2, y3, y4, y5, y6, List.toList_toArray]
              have hw238 : Below u2.heap.size u2 (w233.setCells b216 0 (vl 16 (pe))) := below_store hw234 (by omega) _ 0
              have hz239 : H16 (w233.setCells b216 0 (vl 16 (pe))) b216 (pe) := H16.store hz236 _
              have hz240 : H16 (w233.setCells b216 0 (vl 16 (pe))) b229 _ := H16.storeOther hz235 (by omega) _
              refine hK.out _ _ ?_ (fun hHeld => ?_)
              · exact ⟨range_kept (hw238) (row16_range X3.out), range_kept (hw238) (row16_range X4.out), range_kept (hw238) (row16_range X5.out), range_kept (hw238) (row16_range X7.out), hw238⟩
              clear hK K
              try simp only [Act.put, y1, y2, y3, y4, y5, y6]
              generalize w233.setCells b216 0 (vl 16 (pe)) = w237 at *
              refine wpAnyH_done (by kernel_rfl) ?_ _
              refine NoPanic.normal ?_
              go_wp2_with fail
              go_meet
              refine ⟨_, _, rfl, rfl, Lib.hid hz240, Lib.hid hz239, Lib.hid hw238⟩
            · try simp only [y1, y2, y3]
              go_simp
              have hw242 : Below u2.heap.size u2 (w218.alloc zO) := hw220.alloc hw220.size _
              have hz243 : H16 (w218.alloc zO) w218.heap.size fun _ => 0 := new_h w218
              have hl245 : u2.heap.size ≤ w218.heap.size := hw220.size
              have hz246 := H16.alloc zO hz221
              have hne247 : b216 < w218.heap.size := hz221.lt
              refine hK.out _ _ ?_ (fun hHeld => ?_)
              · exact ⟨range_kept (hw242) (row16_range X3.out), range_kept (hw242) (row16_range X4.out), range_kept (hw242) (row16_range X5.out), range_kept (hw242) (row16_range X7.out), hw242⟩
              clear hK K
              try simp only [Act.put, y1, y2, y3, y4, y5, y6]
              generalize w218.alloc zO = w241 at *
              generalize w218.heap.size = b244 at *
              refine wpAnyH_ready (rs := [7]) (by kernel_rfl) (by simp) ?_
              refine AllReadyH.cons rfl (fun K hK => ?_) (AllReadyH.nil)
              try simp only [y1, y2, y3]
              go_simp
              refine (Ce.out _).mono ?_
              rintro e w248 ⟨rfl, hb249⟩
              rw [aN_vl 16 (pe)]
              have hw250 : Below u2.heap.size u2 w248 := hw242.trans (hb249.mono hw242.size)
              have hz251 := H16.call hb249 hz246
              have hz252 := H16.call hb249 hz243
              refine hK.out _ _ ?_ (fun hHeld => ?_)
              · exact ⟨range_kept (hw250) (row16_range X3.out), range_kept (hw250) (row16_range X4.out), range_kept (hw250) (row16_range X5.out), range_kept (hw250) (row16_range X7.out), hw250⟩
              clear hK K
              try simp only [Act.put, y1, y2, y3, y4, y5, y6]
              clear hb249
              refine wpAnyH_ready (rs := [10]) (by kernel_rfl) (by simp) ?_
              refine AllReadyH.cons rfl (fun K hK => ?_) (AllReadyH.nil)
              try simp only [y1, y2, y3]
              rw [if_pos (by rfl)]
              refine wp_store_mid 22 (.tmp 9) (.tmp 22) rfl (b244) (0) (vl 16 (pc)).toArray rfl rfl (H16.there hz252) (vsz _) (von _) ?_
              simp only [Act.put, y1, y2, y3, y4, y5, y6, List.toList_toArray]
              have hw254 : Below u2.heap.size u2 (w248.setCells b244 0 (vl 16 (pc))) := below_store hw250 (by omega) _ 0
              have hz255 : H16 (w248.setCells b244 0 (vl 16 (pc))) b244 (pc) := H16.store hz252 _
              have hz256 : H16 (w248.setCells b244 0 (vl 16 (pc))) b216 _ := H16.storeOther hz251 (by omega) _
              refine hK.out _ _ ?_ (fun hHeld => ?_)
              · exact ⟨range_kept (hw254) (row16_range X3.out), range_kept (hw254) (row16_range X4.out), range_kept (hw254) (row16_range X5.out), range_kept (hw254) (row16_range X7.out), hw254⟩
              clear hK K
              try simp only [Act.put, y1, y2, y3, y4, y5, y6]
              generalize w248.setCells b244 0 (vl 16 (pc)) = w253 at *
              refine wpAnyH_ready (rs := [11]) (by kernel_rfl) (by simp) ?_
              refine AllReadyH.cons rfl (fun K hK => ?_) (AllReadyH.nil)
              try simp only [y1, y2, y3]
              rw [if_pos (by rfl)]
              refine wp_store_mid 22 (.tmp 10) (.tmp 27) rfl (b216) (0) (vl 16 (pe)).toArray rfl rfl (H16.there hz256) (vsz _) (von _) ?_
              simp only [Act.put, y1, y2, y3, y4, y5, y6, List.toList_toArray]
              have hw258 : Below u2.heap.size u2 (w253.setCells b216 0 (vl 16 (pe))) := below_store hw254 (by omega) _ 0
              have hz259 : H16 (w253.setCells b216 0 (vl 16 (pe))) b216 (pe) := H16.store hz256 _
              have hz260 : H16 (w253.setCells b216 0 (vl 16 (pe))) b244 _ := H16.storeOther hz255 (by omega) _
              refine hK.out _ _ ?_ (fun hHeld => ?_)
              · exact ⟨range_kept (hw258) (row16_range X3.out), range_kept (hw258) (row16_range X4.out), range_kept (hw258) (row16_range X5.out), range_kept (hw258) (row16_range X7.out), hw258⟩
              clear hK K
              try simp only [Act.put, y1, y2, y3, y4, y5, y6]
              generalize w253.setCells b216 0 (vl 16 (pe)) = w257 at *
              refine wpAnyH_done (by kernel_rfl) ?_ _
              refine NoPanic.normal ?_
              go_wp2_with fail
              go_meet
              refine ⟨_, _, rfl, rfl, Lib.hid hz260, Lib.hid hz259, Lib.hid hw258⟩
          · try simp only [y1, y2, y3]
            go_simp
            have hw262 : Below u2.heap.size u2 (w213.alloc zO) := hw214.alloc hw214.size _
            have hz263 : H16 (w213.alloc zO) w213.heap.size fun _ => 0 := new_h w213
            have hl265 : u2.heap.size ≤ w213.heap.size := hw214.size
            have hz266 := H16.alloc zO hz215
            have hne267 : b216 < w213.heap.size := hz215.lt
            refine hK.out _ _ ?_ (fun hHeld => ?_)
            · exact ⟨range_kept (hw262) (row16_range X3.out), range_kept (hw262) (row16_range X4.out), range_kept (hw262) (row16_range X5.out), range_kept (hw262) (row16_range X7.out), hw262⟩
            clear hK K
            try simp only [Act.put, y1, y2, y3, y4, y5, y6]
            generalize w213.alloc zO = w261 at *
            generalize w213.heap.size = b264 at *
            refine wpAnyH_ready (rs := [6]) (by kernel_rfl) (by simp) ?_
            refine AllReadyH.cons rfl (fun K hK => ?_) (AllReadyH.nil)
            try simp only [y1, y2, y3]
            go_simp
            refine (Cd.out _).mono ?_
            rintro e w268 ⟨rfl, hb269⟩
            rw [aN_vl 16 (pd)]
            have hw270 : Below u2.heap.size u2 w268 := hw262.trans (hb269.mono hw262.size)
            have hz271 := H16.call hb269 hz266
            have hz272 := H16.call hb269 hz263
            refine hK.out _ _ ?_ (fun hHeld => ?_)
            · exact ⟨range_kept (hw270) (row16_range X3.out), range_kept (hw270) (row16_range X4.out), range_kept (hw270) (row16_range X5.out), range_kept (hw270) (row16_range X7.out), hw270⟩
            clear hK K
            try simp only [Act.put, y1, y2, y3, y4, y5, y6]
            clear hb269
            refine wpAnyH_ready (rs := [7]) (by kernel_rfl) (by simp) ?_
            refine AllReadyH.cons rfl (fun K hK => ?_) (AllReadyH.nil)
            try simp only [y1, y2, y3]
            go_simp
            refine (Ce.out _).mono ?_
            rintro e w273 ⟨rfl, hb274⟩
            rw [aN_vl 16 (pe)]
            have hw275 : Below u2.heap.size u2 w273 := hw270.trans (hb274.mono hw270.size)
            have hz276 := H16.call hb274 hz271
            have hz277 := H16.call hb274 hz272
            refine hK.out _ _ ?_ (fun hHeld => ?_)
            · exact ⟨range_kept (hw275) (row16_range X3.out), range_kept (hw275) (row16_range X4.out), range_kept (hw275) (row16_range X5.out), range_kept (hw275) (row16_range X7.out), hw275⟩
            clear hK K
            try simp only [Act.put, y1, y2, y3, y4, y5, y6]
            clear hb274
            refine wpAnyH_ready (rs := [10]) (by kernel_rfl) (by simp) ?_
            refine AllReadyH.cons rfl (fun K hK => ?_) (AllReadyH.nil)
            try simp only [y1, y2, y3]
            rw [if_pos (by rfl)]
            refine wp_store_mid 22 (.tmp 9) (.tmp 22) rfl (b264) (0) (vl 16 (pc)).toArray rfl rfl (H16.there hz277) (vsz _) (von _) ?_
            simp only [Act.put, y1, y2, y3, y4, y5, y6, List.toList_toArray]
            have hw279 : Below u2.heap.size u2 (w273.setCells b264 0 (vl 16 (pc))) := below_store hw275 (by omega) _ 0
            have hz280 : H16 (w273.setCells b264 0 (vl 16 (pc))) b264 (pc) := H16.store hz277 _
            have hz281 : H16 (w273.setCells b264 0 (vl 16 (pc))) b216 _ := H16.storeOther hz276 (by omega) _
            refine hK.out _ _ ?_ (fun hHeld => ?_)
            · exact ⟨range_kept (hw279) (row16_range X3.out), range_kept (hw279) (row16_range X4.out), range_kept (hw279) (row16_range X5.out), range_kept (hw279) (row16_range X7.out), hw279⟩
            clear hK K
            try simp only [Act.put, y1, y2, y3, y4, y5, y6]
            generalize w273.setCells b264 0 (vl 16 (pc)) = w278 at *
            refine wpAnyH_ready (rs := [11]) (by kernel_rfl) (by simp) ?_
            refine AllReadyH.cons rfl (fun K hK => ?_) (AllReadyH.nil)
            try simp only [y1, y2, y3]
            rw [if_pos (by rfl)]
            refine wp_store_mid 22 (.tmp 10) (.tmp 27) rfl (b216) (0) (vl 16 (pe)).toArray rfl rfl (H16.there hz281) (vsz _) (von _) ?_
            simp only [Act.put, y1, y2, y3, y4, y5, y6, List.toList_toArray]
            have hw283 : Below u2.heap.size u2 (w278.setCells b216 0 (vl 16 (pe))) := below_store hw279 (by omega) _ 0
            have hz284 : H16 (w278.setCells b216 0 (vl 16 (pe))) b216 (pe) := H16.store hz281 _
            have hz285 : H16 (w278.setCells b216 0 (vl 16 (pe))) b264 _ := H16.storeOther hz280 (by omega) _
            refine hK.out _ _ ?_ (fun hHeld => ?_)
            · exact ⟨range_kept (hw283) (row16_range X3.out), range_kept (hw283) (row16_range X4.out), range_kept (hw283) (row16_range X5.out), range_kept (hw283) (row16_range X7.out), hw283⟩
            clear hK K
            try simp only [Act.put, y1, y2, y3, y4, y5, y6]
            generalize w278.setCells b216 0 (vl 16 (pe)) = w282 at *
            refine wpAnyH_done (by kernel_rfl) ?_ _
            refine NoPanic.normal ?_
            go_wp2_with fail
            go_meet
            refine ⟨_, _, rfl, rfl, Lib.hid hz285, Lib.hid hz284, Lib.hid hw283⟩
      · try simp only [y1, y2, y3]
        go_simp
        have hw287 : Below u2.heap.size u2 (ws1.alloc zO) := hs2.alloc hs2.size _
        have hz288 : H16 (ws1.alloc zO) ws1.heap.size fun _ => 0 := new_h ws1
        have hl290 : u2.heap.size ≤ ws1.heap.size := hs2.size
        refine hK.out _ _ ?_ (fun hHeld => ?_)
        · exact ⟨range_kept (hw287) (row16_range X3.out), range_kept (hw287) (row16_range X4.out), range_kept (hw287) (row16_range X5.out), range_kept (hw287) (row16_range X7.out), hw287⟩
        clear hK K
        try simp only [Act.put, y1, y2, y3, y4, y5, y6]
        generalize ws1.alloc zO = w286 at *
        generalize ws1.heap.size = b289 at *
        refine wpAnyH_ready (rs := [2, 9]) (by kernel_rfl) (by simp) ?_
        refine AllReadyH.cons rfl (fun K hK => ?_) (AllReadyH.cons rfl (fun K hK => ?_) (AllReadyH.nil))
        · try simp only [y1, y2, y3]
          go_simp
          refine (Cc.out _).mono ?_
          rintro e w291 ⟨rfl, hb292⟩
          rw [aN_vl 16 (pc)]
          have hw293 : Below u2.heap.size u2 w291 := hw287.trans (hb292.mono hw287.size)
          have hz294 := H16.call hb292 hz288
          refine hK.out _ _ ?_ (fun hHeld => ?_)
          · exact ⟨range_kept (hw293) (row16_range X3.out), range_kept (hw293) (row16_range X4.out), range_kept (hw293) (row16_range X5.out), range_kept (hw293) (row16_range X7.out), hw293⟩
          clear hK K
          try simp only [Act.put, y1, y2, y3, y4, y5, y6]
          clear hb292
          refine wpAnyH_ready (rs := [6, 9]) (by kernel_rfl) (by simp) ?_
          refine AllReadyH.cons rfl (fun K hK => ?_) (AllReadyH.cons rfl (fun K hK => ?_) (AllReadyH.nil))
          · try simp only [y1, y2, y3]
            go_simp
            refine (Cd.out _).mono ?_
            rintro e w295 ⟨rfl, hb296⟩
            rw [aN_vl 16 (pd)]
            have hw297 : Below u2.heap.size u2 w295 := hw293.trans (hb296.mono hw293.size)
            have hz298 := H16.call hb296 hz294
            refine hK.out _ _ ?_ (fun hHeld => ?_)
            · exact ⟨range_kept (hw297) (row16_range X3.out), range_kept (hw297) (row16_range X4.out), range_kept (hw297) (row16_range X5.out), range_kept (hw297) (row16_range X7.out), hw297⟩
            clear hK K
            try simp only [Act.put, y1, y2, y3, y4, y5, y6]
            clear hb296
            refine wpAnyH_ready (rs := [7, 9]) (by kernel_rfl) (by simp) ?_
            refine AllReadyH.cons rfl (fun K hK => ?_) (AllReadyH.cons rfl (fun K hK => ?_) (AllReadyH.nil))
            · try simp only [y1, y2, y3]
              go_simp
              refine (Ce.out _).mono ?_
              rintro e w299 ⟨rfl, hb300⟩
              rw [aN_vl 16 (pe)]
              have hw301 : Below u2.heap.size u2 w299 := hw297.trans (hb300.mono hw297.size)
              have hz302 := H16.call hb300 hz298
              refine hK.out _ _ ?_ (fun hHeld => ?_)
              · exact ⟨range_kept (hw301) (row16_range X3.out), range_kept (hw301) (row16_range X4.out), range_kept (hw301) (row16_range X5.out), range_kept (hw301) (row16_range X7.out), hw301⟩
              clear hK K
              try simp only [Act.put, y1, y2, y3, y4, y5, y6]
              clear hb300
              refine wpAnyH_ready (rs := [9]) (by kernel_rfl) (by simp) ?_
              refine AllReadyH.cons rfl (fun K hK => ?_) (AllReadyH.nil)
              try simp only [y1, y2, y3]
              go_simp
              have hw304 : Below u2.heap.size u2 (w299.alloc zO) := hw301.alloc hw301.size _
              have hz305 : H16 (w299.alloc zO) w299.heap.size fun _ => 0 := new_h w299
              have hl307 : u2.heap.size ≤ w299.heap.size := hw301.size
              have hz308 := H16.alloc zO hz302
              have hne309 : b289 < w299.heap.size := hz302.lt
              refine hK.out _ _ ?_ (fun hHeld => ?_)
              · exact ⟨range_kept (hw304) (row16_range X3.out), range_kept (hw304) (row16_range X4.out), range_kept (hw304) (row16_range X5.out), range_kept (hw304) (row16_range X7.out), hw304⟩
              clear hK K
              try simp only [Act.put, y1, y2, y3, y4, y5, y6]
              generalize w299.alloc zO = w303 at *
              generalize w299.heap.size = b306 at *
              refine wpAnyH_ready (rs := [10]) (by kernel_rfl) (by simp) ?_
              refine AllReadyH.cons rfl (fun K hK => ?_) (AllReadyH.nil)
              try simp only [y1, y2, y3]
              rw [if_pos (by rfl)]
              refine wp_store_mid 22 (.tmp 9) (.tmp 22) rfl (b289) (0) (vl 16 (pc)).toArray rfl rfl (H16.there hz308) (vsz _) (von _) ?_
              simp only [Act.put, y1, y2, y3, y4, y5, y6, List.toList_toArray]
              have hw311 : Below u2.heap.size u2 (w303.setCells b289 0 (vl 16 (pc))) := below_store hw304 (by omega) _ 0
              have hz312 : H16 (w303.setCells b289 0 (vl 16 (pc))) b289 (pc) := H16.store hz308 _
              have hz313 : H16 (w303.setCells b289 0 (vl 16 (pc))) b306 _ := H16.storeOther hz305 (by omega) _
              refine hK.out _ _ ?_ (fun hHeld => ?_)
              · exact ⟨range_kept (hw311) (row16_range X3.out), range_kept (hw311) (row16_range X4.out), range_kept (hw311) (row16_range X5.out), range_kept (hw311) (row16_range X7.out), hw311⟩
              clear hK K
              try simp only [Act.put, y1, y2, y3, y4, y5, y6]
              generalize w303.setCells b289 0 (vl 16 (pc)) = w310 at *
              refine wpAnyH_ready (rs := [11]) (by kernel_rfl) (by simp) ?_
              refine AllReadyH.cons rfl (fun K hK => ?_) (AllReadyH.nil)
              try simp only [y1, y2, y3]
              rw [if_pos (by rfl)]
              refine wp_store_mid 22 (.tmp 10) (.tmp 27) rfl (b306) (0) (vl 16 (pe)).toArray rfl rfl (H16.there hz313) (vsz _) (von _) ?_
              simp only [Act.put, y1, y2, y3, y4, y5, y6, List.toList_toArray]
              have hw315 : Below u2.heap.size u2 (w310.setCells b306 0 (vl 16 (pe))) := below_store hw311 (by omega) _ 0
              have hz316 : H16 (w310.setCells b306 0 (vl 16 (pe))) b306 (pe) := H16.store hz313 _
              have hz317 : H16 (w310.setCells b306 0 (vl 16 (pe))) b289 _ := H16.storeOther hz312 (by omega) _
              refine hK.out _ _ ?_ (fun hHeld => ?_)
              · exact ⟨range_kept (hw315) (row16_range X3.out), range_kept (hw315) (row16_range X4.out), range_kept (hw315) (row16_range X5.out), range_kept (hw315) (row16_range X7.out), hw315⟩
              clear hK K
              try simp only [Act.put, y1, y2, y3, y4, y5, y6]
              generalize w310.setCells b306 0 (vl 16 (pe)) = w314 at *
              refine wpAnyH_done (by kernel_rfl) ?_ _
              refine NoPanic.normal ?_
              go_wp2_with fail
              go_meet
              refine ⟨_, _, rfl, rfl, Lib.hid hz317, Lib.hid hz316, Lib.hid hw315⟩
            · try simp only [y1, y2, y3]
              go_simp
              have hw319 : Below u2.heap.size u2 (w295.alloc zO) := hw297.alloc hw297.size _
              have hz320 : H16 (w295.alloc zO) w295.heap.size fun _ => 0 := new_h w295
              have hl322 : u2.heap.size ≤ w295.heap.size := hw297.size
              have hz323 := H16.alloc zO hz298
              have hne324 : b289 < w295.heap.size := hz298.lt
              refine hK.out _ _ ?_ (fun hHeld => ?_)
              · exact ⟨range_kept (hw319) (row16_range X3.out), range_kept (hw319) (row16_range X4.out), range_kept (hw319) (row16_range X5.out), range_kept (hw319) (row16_range X7.out), hw319⟩
              clear hK K
              try simp only [Act.put, y1, y2, y3, y4, y5, y6]
              generalize w295.alloc zO = w318 at *
              generalize w295.heap.size = b321 at *
              refine wpAnyH_ready (rs := [7]) (by kernel_rfl) (by simp) ?_
              refine AllReadyH.cons rfl (fun K hK => ?_) (AllReadyH.nil)
              try simp only [y1, y2, y3]
              go_simp
              refine (Ce.out _).mono ?_
              rintro e w325 ⟨rfl, hb326⟩
              rw [aN_vl 16 (pe)]
              have hw327 : Below u2.heap.size u2 w325 := hw319.trans (hb326.mono hw319.size)
              have hz328 := H16.call hb326 hz323
              have hz329 := H16.call hb326 hz320
              refine hK.out _ _ ?_ (fun hHeld => ?_)
              · exact ⟨range_kept (hw327) (row16_range X3.out), range_kept (hw327) (row16_range X4.out), range_kept (hw327) (row16_range X5.out), range_kept (hw327) (row16_range X7.out), hw327⟩
              clear hK K
              try simp only [Act.put, y1, y2, y3, y4, y5, y6]
              clear hb326
              refine wpAnyH_ready (rs := [10]) (by kernel_rfl) (by simp) ?_
              refine AllReadyH.cons rfl (fun K hK => ?_) (AllReadyH.nil)
              try simp only [y1, y2, y3]
              rw [if_pos (by rfl)]
              refine wp_store_mid 22 (.tmp 9) (.tmp 22) rfl (b289) (0) (vl 16 (pc)).toArray rfl rfl (H16.there hz328) (vsz _) (von _) ?_
              simp only [Act.put, y1, y2, y3, y4, y5, y6, List.toList_toArray]
              have hw331 : Below u2.heap.size u2 (w325.setCells b289 0 (vl 16 (pc))) := below_store hw327 (by omega) _ 0
              have hz332 : H16 (w325.setCells b289 0 (vl 16 (pc))) b289 (pc) := H16.store hz328 _
              have hz333 : H16 (w325.setCells b289 0 (vl 16 (pc))) b321 _ := H16.storeOther hz329 (by omega) _
              refine hK.out _ _ ?_ (fun hHeld => ?_)
              · exact ⟨range_kept (hw331) (row16_range X3.out), range_kept (hw331) (row16_range X4.out), range_kept (hw331) (row16_range X5.out), range_kept (hw331) (row16_range X7.out), hw331⟩
              clear hK K
              try simp only [Act.put, y1, y2, y3, y4, y5, y6]
              generalize w325.setCells b289 0 (vl 16 (pc)) = w330 at *
              refine wpAnyH_ready (rs := [11]) (by kernel_rfl) (by simp) ?_
              refine AllReadyH.cons rfl (fun K hK => ?_) (AllReadyH.nil)
              try simp only [y1, y2, y3]
              rw [if_pos (by rfl)]
              refine wp_store_mid 22 (.tmp 10) (.tmp 27) rfl (b321) (0) (vl 16 (pe)).toArray rfl rfl (H16.there hz333) (vsz _) (von _) ?_
              simp only [Act.put, y1, y2, y3, y4, y5, y6, List.toList_toArray]
              have hw335 : Below u2.heap.size u2 (w330.setCells b321 0 (vl 16 (pe))) := below_store hw331 (by omega) _ 0
              have hz336 : H16 (w330.setCells b321 0 (vl 16 (pe))) b321 (pe) := H16.store hz333 _
              have hz337 : H16 (w330.setCells b321 0 (vl 16 (pe))) b289 _ := H16.storeOther hz332 (by omega) _
              refine hK.out _ _ ?_ (fun hHeld => ?_)
              · exact ⟨range_kept (hw335) (row16_range X3.out), range_kept (hw335) (row16_range X4.out), range_kept (hw335) (row16_range X5.out), range_kept (hw335) (row16_range X7.out), hw335⟩
              clear hK K
              try simp only [Act.put, y1, y2, y3, y4, y5, y6]
              generalize w330.setCells b321 0 (vl 16 (pe)) = w334 at *
              refine wpAnyH_done (by kernel_rfl) ?_ _
              refine NoPanic.normal ?_
              go_wp2_with fail
              go_meet
              refine ⟨_, _, rfl, rfl, Lib.hid hz337, Lib.hid hz336, Lib.hid hw335⟩
          · try simp only [y1, y2, y3]
            go_simp
            have hw339 : Below u2.heap.size u2 (w291.alloc zO) := hw293.alloc hw293.size _
            have hz340 : H16 (w291.alloc zO) w291.heap.size fun _ => 0 := new_h w291
            have hl342 : u2.heap.size ≤ w291.heap.size := hw293.size
            have hz343 := H16.alloc zO hz294
            have hne344 : b289 < w291.heap.size := hz294.lt
            refine hK.out _ _ ?_ (fun hHeld => ?_)
            · exact ⟨range_kept (hw339) (row16_range X3.out), range_kept (hw339) (row16_range X4.out), range_kept (hw339) (row16_range X5.out), range_kept (hw339) (row16_range X7.out), hw339⟩
            clear hK K
            try simp only [Act.put, y1, y2, y3, y4, y5, y6]
            generalize w291.alloc zO = w338 at *
            generalize w291.heap.size = b341 at *
            refine wpAnyH_ready (rs := [6]) (by kernel_rfl) (by simp) ?_
            refine AllReadyH.cons rfl (fun K hK => ?_) (AllReadyH.nil)
            try simp only [y1, y2, y3]
            go_simp
            refine (Cd.out _).mono ?_
            rintro e w345 ⟨rfl, hb346⟩
            rw [aN_vl 16 (pd)]
            have hw347 : Below u2.heap.size u2 w345 := hw339.trans (hb346.mono hw339.size)
            have hz348 := H16.call hb346 hz343
            have hz349 := H16.call hb346 hz340
            refine hK.out _ _ ?_ (fun hHeld => ?_)
            · exact ⟨range_kept (hw347) (row16_range X3.out), range_kept (hw347) (row16_range X4.out), range_kept (hw347) (row16_range X5.out), range_kept (hw347) (row16_range X7.out), hw347⟩
            clear hK K
            try simp only [Act.put, y1, y2, y3, y4, y5, y6]
            clear hb346
            refine wpAnyH_ready (rs := [7]) (by kernel_rfl) (by simp) ?_
            refine AllReadyH.cons rfl (fun K hK => ?_) (AllReadyH.nil)
            try simp only [y1, y2, y3]
            go_simp
            refine (Ce.out _).mono ?_
            rintro e w350 ⟨rfl, hb351⟩
            rw [aN_vl 16 (pe)]
            have hw352 : Below u2.heap.size u2 w350 := hw347.trans (hb351.mono hw347.size)
            have hz353 := H16.call hb351 hz348
            have hz354 := H16.call hb351 hz349
            refine hK.out _ _ ?_ (fun hHeld => ?_)
            · exact ⟨range_kept (hw352) (row16_range X3.out), range_kept (hw352) (row16_range X4.out), range_kept (hw352) (row16_range X5.out), range_kept (hw352) (row16_range X7.out), hw352⟩
            clear hK K
            try simp only [Act.put, y1, y2, y3, y4, y5, y6]
            clear hb351
            refine wpAnyH_ready (rs := [10]) (by kernel_rfl) (by simp) ?_
            refine AllReadyH.cons rfl (fun K hK => ?_) (AllReadyH.nil)
            try simp only [y1, y2, y3]
            rw [if_pos (by rfl)]
            refine wp_store_mid 22 (.tmp 9) (.tmp 22) rfl (b289) (0) (vl 16 (pc)).toArray rfl rfl (H16.there hz353) (vsz _) (von _) ?_
            simp only [Act.put, y1, y2, y3, y4, y5, y6, List.toList_toArray]
            have hw356 : Below u2.heap.size u2 (w350.setCells b289 0 (vl 16 (pc))) := below_store hw352 (by omega) _ 0
            have hz357 : H16 (w350.setCells b289 0 (vl 16 (pc))) b289 (pc) := H16.store hz353 _
            have hz358 : H16 (w350.setCells b289 0 (vl 16 (pc))) b341 _ := H16.storeOther hz354 (by omega) _
            refine hK.out _ _ ?_ (fun hHeld => ?_)
            · exact ⟨range_kept (hw356) (row16_range X3.out), range_kept (hw356) (row16_range X4.out), range_kept (hw356) (row16_range X5.out), range_kept (hw356) (row16_range X7.out), hw356⟩
            clear hK K
            try simp only [Act.put, y1, y2, y3, y4, y5, y6]
            generalize w350.setCells b289 0 (vl 16 (pc)) = w355 at *
            refine wpAnyH_ready (rs := [11]) (by kernel_rfl) (by simp) ?_
            refine AllReadyH.cons rfl (fun K hK => ?_) (AllReadyH.nil)
            try simp only [y1, y2, y3]
            rw [if_pos (by rfl)]
            refine wp_store_mid 22 (.tmp 10) (.tmp 27) rfl (b341) (0) (vl 16 (pe)).toArray rfl rfl (H16.there hz358) (vsz _) (von _) ?_
            simp only [Act.put, y1, y2, y3, y4, y5, y6, List.toList_toArray]
            have hw360 : Below u2.heap.size u2 (w355.setCells b341 0 (vl 16 (pe))) := below_store hw356 (by omega) _ 0
            have hz361 : H16 (w355.setCells b341 0 (vl 16 (pe))) b341 (pe) := H16.store hz358 _
            have hz362 : H16 (w355.setCells b341 0 (vl 16 (pe))) b289 _ := H16.storeOther hz357 (by omega) _
            refine hK.out _ _ ?_ (fun hHeld => ?_)
            · exact ⟨range_kept (hw360) (row16_range X3.out), range_kept (hw360) (row16_range X4.out), range_kept (hw360) (row16_range X5.out), range_kept (hw360) (row16_range X7.out), hw360⟩
            clear hK K
            try simp only [Act.put, y1, y2, y3, y4, y5, y6]
            generalize w355.setCells b341 0 (vl 16 (pe)) = w359 at *
            refine wpAnyH_done (by kernel_rfl) ?_ _
            refine NoPanic.normal ?_
            go_wp2_with fail
            go_meet
            refine ⟨_, _, rfl, rfl, Lib.hid hz362, Lib.hid hz361, Lib.hid hw360⟩
        · try simp only [y1, y2, y3]
          go_simp
          have hw364 : Below u2.heap.size u2 (w286.alloc zO) := hw287.alloc hw287.size _
          have hz365 : H16 (w286.alloc zO) w286.heap.size fun _ => 0 := new_h w286
          have hl367 : u2.heap.size ≤ w286.heap.size := hw287.size
          have hz368 := H16.alloc zO hz288
          have hne369 : b289 < w286.heap.size := hz288.lt
          refine hK.out _ _ ?_ (fun hHeld => ?_)
          · exact ⟨range_kept (hw364) (row16_range X3.out), range_kept (hw364) (row16_range X4.out), range_kept (hw364) (row16_range X5.out), range_kept (hw364) (row16_range X7.out), hw364⟩
          clear hK K
          try simp only [Act.put, y1, y2, y3, y4, y5, y6]
          generalize w286.alloc zO = w363 at *
          generalize w286.heap.size = b366 at *
          refine wpAnyH_ready (rs := [2]) (by kernel_rfl) (by simp) ?_
          refine AllReadyH.cons rfl (fun K hK => ?_) (AllReadyH.nil)
          try simp only [y1, y2, y3]
          go_simp
          refine (Cc.out _).mono ?_
          rintro e w370 ⟨rfl, hb371⟩
          rw [aN_vl 16 (pc)]
          have hw372 : Below u2.heap.size u2 w370 := hw364.trans (hb371.mono hw364.size)
          have hz373 := H16.call hb371 hz368
          have hz374 := H16.call hb371 hz365
          refine hK.out _ _ ?_ (fun hHeld => ?_)
          · exact ⟨range_kept (hw372) (row16_range X3.out), range_kept (hw372) (row16_range X4.out), range_kept (hw372) (row16_range X5.out), range_kept (hw372) (row16_range X7.out), hw372⟩
          clear hK K
          try simp only [Act.put, y1, y2, y3, y4, y5, y6]
          clear hb371
          refine wpAnyH_ready (rs := [6]) (by kernel_rfl) (by simp) ?_
          refine AllReadyH.cons rfl (fun K hK => ?_) (AllReadyH.nil)
          try simp only [y1, y2, y3]
          go_simp
          refine (Cd.out _).mono ?_
          rintro e w375 ⟨rfl, hb376⟩
          rw [aN_vl 16 (pd)]
          have hw377 : Below u2.heap.size u2 w375 := hw372.trans (hb376.mono hw372.size)
          have hz378 := H16.call hb376 hz373
          have hz379 := H16.call hb376 hz374
          refine hK.out _ _ ?_ (fun hHeld => ?_)
          · exact ⟨range_kept (hw377) (row16_range X3.out), range_kept (hw377) (row16_range X4.out), range_kept (hw377) (row16_range X5.out), range_kept (hw377) (row16_range X7.out), hw377⟩
          clear hK K
          try simp only [Act.put, y1, y2, y3, y4, y5, y6]
          clear hb376
          refine wpAnyH_ready (rs := [7]) (by kernel_rfl) (by simp) ?_
          refine AllReadyH.cons rfl (fun K hK => ?_) (AllReadyH.nil)
          try simp only [y1, y2, y3]
          go_simp
          refine (Ce.out _).mono ?_
          rintro e w380 ⟨rfl, hb381⟩
          rw [aN_vl 16 (pe)]
          have hw382 : Below u2.heap.size u2 w380 := hw377.trans (hb381.mono hw377.size)
          have hz383 := H16.call hb381 hz378
          have hz384 := H16.call hb381 hz379
          refine hK.out _ _ ?_ (fun hHeld => ?_)
          · exact ⟨range_kept (hw382) (row16_range X3.out), range_kept (hw382) (row16_range X4.out), range_kept (hw382) (row16_range X5.out), range_kept (hw382) (row16_range X7.out), hw382⟩
          clear hK K
          try simp only [Act.put, y1, y2, y3, y4, y5, y6]
          clear hb381
          refine wpAnyH_ready (rs := [10]) (by kernel_rfl) (by simp) ?_
          refine AllReadyH.cons rfl (fun K hK => ?_) (AllReadyH.nil)
          try simp only [y1, y2, y3]
          rw [if_pos (by rfl)]
          refine wp_store_mid 22 (.tmp 9) (.tmp 22) rfl (b289) (0) (vl 16 (pc)).toArray rfl rfl (H16.there hz383) (vsz _) (von _) ?_
          simp only [Act.put, y1, y2, y3, y4, y5, y6, List.toList_toArray]
          have hw386 : Below u2.heap.size u2 (w380.setCells b289 0 (vl 16 (pc))) := below_store hw382 (by omega) _ 0
          have hz387 : H16 (w380.setCells b289 0 (vl 16 (pc))) b289 (pc) := H16.store hz383 _
          have hz388 : H16 (w380.setCells b289 0 (vl 16 (pc))) b366 _ := H16.storeOther hz384 (by omega) _
          refine hK.out _ _ ?_ (fun hHeld => ?_)
          · exact ⟨range_kept (hw386) (row16_range X3.out), range_kept (hw386) (row16_range X4.out), range_kept (hw386) (row16_range X5.out), range_kept (hw386) (row16_range X7.out), hw386⟩
          clear hK K
          try simp only [Act.put, y1, y2, y3, y4, y5, y6]
          generalize w380.setCells b289 0 (vl 16 (pc)) = w385 at *
          refine wpAnyH_ready (rs := [11]) (by kernel_rfl) (by simp) ?_
          refine AllReadyH.cons rfl (fun K hK => ?_) (AllReadyH.nil)
          try simp only [y1, y2, y3]
          rw [if_pos (by rfl)]
          refine wp_store_mid 22 (.tmp 10) (.tmp 27) rfl (b366) (0) (vl 16 (pe)).toArray rfl rfl (H16.there hz388) (vsz _) (von _) ?_
          simp only [Act.put, y1, y2, y3, y4, y5, y6, List.toList_toArray]
          have hw390 : Below u2.heap.size u2 (w385.setCells b366 0 (vl 16 (pe))) := below_store hw386 (by omega) _ 0
          have hz391 : H16 (w385.setCells b366 0 (vl 16 (pe))) b366 (pe) := H16.store hz388 _
          have hz392 : H16 (w385.setCells b366 0 (vl 16 (pe))) b289 _ := H16.storeOther hz387 (by omega) _
          refine hK.out _ _ ?_ (fun hHeld => ?_)
          · exact ⟨range_kept (hw390) (row16_range X3.out), range_kept (hw390) (row16_range X4.out), range_kept (hw390) (row16_range X5.out), range_kept (hw390) (row16_range X7.out), hw390⟩
          clear hK K
          try simp only [Act.put, y1, y2, y3, y4, y5, y6]
          generalize w385.setCells b366 0 (vl 16 (pe)) = w389 at *
          refine wpAnyH_done (by kernel_rfl) ?_ _
          refine NoPanic.normal ?_
          go_wp2_with fail
          go_meet
          refine ⟨_, _, rfl, rfl, Lib.hid hz392, Lib.hid hz391, Lib.hid hw390⟩
      · try simp only [y1, y2, y3]
        go_simp
        have hw394 : Below u2.heap.size u2 (ws1.alloc zO) := hs2.alloc hs2.size _
        have hz395 : H16 (ws1.alloc zO) ws1.heap.size fun _ => 0 := new_h ws1
        have hl397 : u2.heap.size ≤ ws1.heap.size := hs2.size
        refine hK.out _ _ ?_ (fun hHeld => ?_)
        · exact ⟨range_kept (hw394) (row16_range X3.out), range_kept (hw394) (row16_range X4.out), range_kept (hw394) (row16_range X5.out), range_kept (hw394) (row16_range X7.out), hw394⟩
        clear hK K
        try simp only [Act.put, y1, y2, y3, y4, y5, y6]
        generalize ws1.alloc zO = w393 at *
        generalize ws1.heap.size = b396 at *
        refine wpAnyH_ready (rs := [2, 8]) (by kernel_rfl) (by simp) ?_
        refine AllReadyH.cons rfl (fun K hK => ?_) (AllReadyH.cons rfl (fun K hK => ?_) (AllReadyH.nil))
        · try simp only [y1, y2, y3]
          go_simp
          refine (Cc.out _).mono ?_
          rintro e w398 ⟨rfl, hb399⟩
          rw [aN_vl 16 (pc)]
          have hw400 : Below u2.heap.size u2 w398 := hw394.trans (hb399.mono hw394.size)
          have hz401 := H16.call hb399 hz395
          refine hK.out _ _ ?_ (fun hHeld => ?_)
          · exact ⟨range_kept (hw400) (row16_range X3.out), range_kept (hw400) (row16_range X4.out), range_kept (hw400) (row16_range X5.out), range_kept (hw400) (row16_range X7.out), hw400⟩
          clear hK K
          try simp only [Act.put, y1, y2, y3, y4, y5, y6]
          clear hb399
          refine wpAnyH_ready (rs := [6, 8]) (by kernel_rfl) (by simp) ?_
          refine AllReadyH.cons rfl (fun K hK => ?_) (AllReadyH.cons rfl (fun K hK => ?_) (AllReadyH.nil))
          · try simp only [y1, y2, y3]
            go_simp
            refine (Cd.out _).mono ?_
            rintro e w402 ⟨rfl, hb403⟩
            rw [aN_vl 16 (pd)]
            have hw404 : Below u2.heap.size u2 w402 := hw400.trans (hb403.mono hw400.size)
            have hz405 := H16.call hb403 hz401
            refine hK.out _ _ ?_ (fun hHeld => ?_)
            · exact ⟨range_kept (hw404) (row16_range X3.out), range_kept (hw404) (row16_range X4.out), range_kept (hw404) (row16_range X5.out), range_kept (hw404) (row16_range X7.out), hw404⟩
            clear hK K
            try simp only [Act.put, y1, y2, y3, y4, y5, y6]
            clear hb403
            refine wpAnyH_ready (rs := [7, 8]) (by kernel_rfl) (by simp) ?_
            refine AllReadyH.cons rfl (fun K hK => ?_) (AllReadyH.cons rfl (fun K hK => ?_) (AllReadyH.nil))
            · try simp only [y1, y2, y3]
              go_simp
              refine (Ce.out _).mono ?_
              rintro e w406 ⟨rfl, hb407⟩
              rw [aN_vl 16 (pe)]
              have hw408 : Below u2.heap.size u2 w406 := hw404.trans (hb407.mono hw404.size)
              have hz409 := H16.call hb407 hz405
              refine hK.out _ _ ?_ (fun hHeld => ?_)
              · exact ⟨range_kept (hw408) (row16_range X3.out), range_kept (hw408) (row16_range X4.out), range_kept (hw408) (row16_range X5.out), range_kept (hw408) (row16_range X7.out), hw408⟩
              clear hK K
              try simp only [Act.put, y1, y2, y3, y4, y5, y6]
              clear hb407
              refine wpAnyH_ready (rs := [8]) (by kernel_rfl) (by simp) ?_
              refine AllReadyH.cons rfl (fun K hK => ?_) (AllReadyH.nil)
              try simp only [y1, y2, y3]
              go_simp
              have hw411 : Below u2.heap.size u2 (w406.alloc zO) := hw408.alloc hw408.size _
              have hz412 : H16 (w406.alloc zO) w406.heap.size fun _ => 0 := new_h w406
              have hl414 : u2.heap.size ≤ w406.heap.size := hw408.size
              have hz415 := H16.alloc zO hz409
              have hne416 : b396 < w406.heap.size := hz409.lt
              refine hK.out _ _ ?_ (fun hHeld => ?_)
              · exact ⟨range_kept (hw411) (row16_range X3.out), range_kept (hw411) (row16_range X4.out), range_kept (hw411) (row16_range X5.out), range_kept (hw411) (row16_range X7.out), hw411⟩
              clear hK K
              try simp only [Act.put, y1, y2, y3, y4, y5, y6]
              generalize w406.alloc zO = w410 at *
              generalize w406.heap.size = b413 at *
              refine wpAnyH_ready (rs := [10]) (by kernel_rfl) (by simp) ?_
              refine AllReadyH.cons rfl (fun K hK => ?_) (AllReadyH.nil)
              try simp only [y1, y2, y3]
              rw [if_pos (by rfl)]
              refine wp_store_mid 22 (.tmp 9) (.tmp 22) rfl (b413) (0) (vl 16 (pc)).toArray rfl rfl (H16.there hz412) (vsz _) (von _) ?_
              simp only [Act.put, y1, y2, y3, y4, y5, y6, List.toList_toArray]
              have hw418 : Below u2.heap.size u2 (w410.setCells b413 0 (vl 16 (pc))) := below_store hw411 (by omega) _ 0
              have hz419 : H16 (w410.setCells b413 0 (vl 16 (pc))) b413 (pc) := H16.store hz412 _
              have hz420 : H16 (w410.setCells b413 0 (vl 16 (pc))) b396 _ := H16.storeOther hz415 (by omega) _
              refine hK.out _ _ ?_ (fun hHeld => ?_)
              · exact ⟨range_kept (hw418) (row16_range X3.out), range_kept (hw418) (row16_range X4.out), range_kept (hw418) (row16_range X5.out), range_kept (hw418) (row16_range X7.out), hw418⟩
              clear hK K
              try simp only [Act.put, y1, y2, y3, y4, y5, y6]
              generalize w410.setCells b413 0 (vl 16 (pc)) = w417 at *
              refine wpAnyH_ready (rs := [11]) (by kernel_rfl) (by simp) ?_
              refine AllReadyH.cons rfl (fun K hK => ?_) (AllReadyH.nil)
              try simp only [y1, y2, y3]
              rw [if_pos (by rfl)]
              refine wp_store_mid 22 (.tmp 10) (.tmp 27) rfl (b396) (0) (vl 16 (pe)).toArray rfl rfl (H16.there hz420) (vsz _) (von _) ?_
              simp only [Act.put, y1, y2, y3, y4, y5, y6, List.toList_toArray]
              have hw422 : Below u2.heap.size u2 (w417.setCells b396 0 (vl 16 (pe))) := below_store hw418 (by omega) _ 0
              have hz423 : H16 (w417.setCells b396 0 (vl 16 (pe))) b396 (pe) := H16.store hz420 _
              have hz424 : H16 (w417.setCells b396 0 (vl 16 (pe))) b413 _ := H16.storeOther hz419 (by omega) _
              refine hK.out _ _ ?_ (fun hHeld => ?_)
              · exact ⟨range_kept (hw422) (row16_range X3.out), range_kept (hw422) (row16_range X4.out), range_kept (hw422) (row16_range X5.out), range_kept (hw422) (row16_range X7.out), hw422⟩
              clear hK K
              try simp only [Act.put, y1, y2, y3, y4, y5, y6]
              generalize w417.setCells b396 0 (vl 16 (pe)) = w421 at *
              refine wpAnyH_done (by kernel_rfl) ?_ _
              refine NoPanic.normal ?_
              go_wp2_with fail
              go_meet
              refine ⟨_, _, rfl, rfl, Lib.hid hz424, Lib.hid hz423, Lib.hid hw422⟩
            · try simp only [y1, y2, y3]
              go_simp
              have hw426 : Below u2.heap.size u2 (w402.alloc zO) := hw404.alloc hw404.size _
              have hz427 : H16 (w402.alloc zO) w402.heap.size fun _ => 0 := new_h w402
              have hl429 : u2.heap.size ≤ w402.heap.size := hw404.size
              have hz430 := H16.alloc zO hz405
              have hne431 : b396 < w402.heap.size := hz405.lt
              refine hK.out _ _ ?_ (fun hHeld => ?_)
              · exact ⟨range_kept (hw426) (row16_range X3.out), range_kept (hw426) (row16_range X4.out), range_kept (hw426) (row16_range X5.out), range_kept (hw426) (row16_range X7.out), hw426⟩
              clear hK K
              try simp only [Act.put, y1, y2, y3, y4, y5, y6]
              generalize w402.alloc zO = w425 at *
              generalize w402.heap.size = b428 at *
              refine wpAnyH_ready (rs := [7]) (by kernel_rfl) (by simp) ?_
              refine AllReadyH.cons rfl (fun K hK => ?_) (AllReadyH.nil)
              try simp only [y1, y2, y3]
              go_simp
              refine (Ce.out _).mono ?_
              rintro e w432 ⟨rfl, hb433⟩
              rw [aN_vl 16 (pe)]
              have hw434 : Below u2.heap.size u2 w432 := hw426.trans (hb433.mono hw426.size)
              have hz435 := H16.call hb433 hz430
              have hz436 := H16.call hb433 hz427
              refine hK.out _ _ ?_ (fun hHeld => ?_)
              · exact ⟨range_kept (hw434) (row16_range X3.out), range_kept (hw434) (row16_range X4.out), range_kept (hw434) (row16_range X5.out), range_kept (hw434) (row16_range X7.out), hw434⟩
              clear hK K
              try simp only [Act.put, y1, y2, y3, y4, y5, y6]
              clear hb433
              refine wpAnyH_ready (rs := [10]) (by kernel_rfl) (by simp) ?_
              refine AllReadyH.cons rfl (fun K hK => ?_) (AllReadyH.nil)
              try simp only [y1, y2, y3]
              rw [if_pos (by rfl)]
              refine wp_store_mid 22 (.tmp 9) (.tmp 22) rfl (b428) (0) (vl 16 (pc)).toArray rfl rfl (H16.there hz436) (vsz _) (von _) ?_
              simp only [Act.put, y1, y2, y3, y4, y5, y6, List.toList_toArray]
              have hw438 : Below u2.heap.size u2 (w432.setCells b428 0 (vl 16 (pc))) := below_store hw434 (by omega) _ 0
              have hz439 : H16 (w432.setCells b428 0 (vl 16 (pc))) b428 (pc) := H16.store hz436 _
              have hz440 : H16 (w432.setCells b428 0 (vl 16 (pc))) b396 _ := H16.storeOther hz435 (by omega) _
              refine hK.out _ _ ?_ (fun hHeld => ?_)
              · exact ⟨range_kept (hw438) (row16_range X3.out), range_kept (hw438) (row16_range X4.out), range_kept (hw438) (row16_range X5.out), range_kept (hw438) (row16_range X7.out), hw438⟩
              clear hK K
              try simp only [Act.put, y1, y2, y3, y4, y5, y6]
              generalize w432.setCells b428 0 (vl 16 (pc)) = w437 at *
              refine wpAnyH_ready (rs := [11]) (by kernel_rfl) (by simp) ?_
              refine AllReadyH.cons rfl (fun K hK => ?_) (AllReadyH.nil)
              try simp only [y1, y2, y3]
              rw [if_pos (by rfl)]
              refine wp_store_mid 22 (.tmp 10) (.tmp 27) rfl (b396) (0) (vl 16 (pe)).toArray rfl rfl (H16.there hz440) (vsz _) (von _) ?_
              simp only [Act.put, y1, y2, y3, y4, y5, y6, List.toList_toArray]
              have hw442 : Below u2.heap.size u2 (w437.setCells b396 0 (vl 16 (pe))) := below_store hw438 (by omega) _ 0
              have hz443 : H16 (w437.setCells b396 0 (vl 16 (pe))) b396 (pe) := H16.store hz440 _
              have hz444 : H16 (w437.setCells b396 0 (vl 16 (pe))) b428 _ := H16.storeOther hz439 (by omega) _
              refine hK.out _ _ ?_ (fun hHeld => ?_)
              · exact ⟨range_kept (hw442) (row16_range X3.out), range_kept (hw442) (row16_range X4.out), range_kept (hw442) (row16_range X5.out), range_kept (hw442) (row16_range X7.out), hw442⟩
              clear hK K
              try simp only [Act.put, y1, y2, y3, y4, y5, y6]
              generalize w437.setCells b396 0 (vl 16 (pe)) = w441 at *
              refine wpAnyH_done (by kernel_rfl) ?_ _
              refine NoPanic.normal ?_
              go_wp2_with fail
              go_meet
              refine ⟨_, _, rfl, rfl, Lib.hid hz444, Lib.hid hz443, Lib.hid hw442⟩
          · try simp only [y1, y2, y3]
            go_simp
            have hw446 : Below u2.heap.size u2 (w398.alloc zO) := hw400.alloc hw400.size _
            have hz447 : H16 (w398.alloc zO) w398.heap.size fun _ => 0 := new_h w398
            have hl449 : u2.heap.size ≤ w398.heap.size := hw400.size
            have hz450 := H16.alloc zO hz401
            have hne451 : b396 < w398.heap.size := hz401.lt
            refine hK.out _ _ ?_ (fun hHeld => ?_)
            · exact ⟨range_kept (hw446) (row16_range X3.out), range_kept (hw446) (row16_range X4.out), range_kept (hw446) (row16_range X5.out), range_kept (hw446) (row16_range X7.out), hw446⟩
            clear hK K
            try simp only [Act.put, y1, y2, y3, y4, y5, y6]
            generalize w398.alloc zO = w445 at *
            generalize w398.heap.size = b448 at *
            refine wpAnyH_ready (rs := [6]) (by kernel_rfl) (by simp) ?_
            refine AllReadyH.cons rfl (fun K hK => ?_) (AllReadyH.nil)
            try simp only [y1, y2, y3]
            go_simp
            refine (Cd.out _).mono ?_
            rintro e w452 ⟨rfl, hb453⟩
            rw [aN_vl 16 (pd)]
            have hw454 : Below u2.heap.size u2 w452 := hw446.trans (hb453.mono hw446.size)
            have hz455 := H16.call hb453 hz450
            have hz456 := H16.call hb453 hz447
            refine hK.out _ _ ?_ (fun hHeld => ?_)
            · exact ⟨range_kept (hw454) (row16_range X3.out), range_kept (hw454) (row16_range X4.out), range_kept (hw454) (row16_range X5.out), range_kept (hw454) (row16_range X7.out), hw454⟩
            clear hK K
            try simp only [Act.put, y1, y2, y3, y4, y5, y6]
            clear hb453
            refine wpAnyH_ready (rs := [7]) (by kernel_rfl) (by simp) ?_
            refine AllReadyH.cons rfl (fun K hK => ?_) (AllReadyH.nil)
            try simp only [y1, y2, y3]
            go_simp
            refine (Ce.out _).mono ?_
            rintro e w457 ⟨rfl, hb458⟩
            rw [aN_vl 16 (pe)]
            have hw459 : Below u2.heap.size u2 w457 := hw454.trans (hb458.mono hw454.size)
            have hz460 := H16.call hb458 hz455
            have hz461 := H16.call hb458 hz456
            refine hK.out _ _ ?_ (fun hHeld => ?_)
            · exact ⟨range_kept (hw459) (row16_range X3.out), range_kept (hw459) (row16_range X4.out), range_kept (hw459) (row16_range X5.out), range_kept (hw459) (row16_range X7.out), hw459⟩
            clear hK K
            try simp only [Act.put, y1, y2, y3, y4, y5, y6]
            clear hb458
            refine wpAnyH_ready (rs := [10]) (by kernel_rfl) (by simp) ?_
            refine AllReadyH.cons rfl (fun K hK => ?_) (AllReadyH.nil)
            try simp only [y1, y2, y3]
            rw [if_pos (by rfl)]
            refine wp_store_mid 22 (.tmp 9) (.tmp 22) rfl (b448) (0) (vl 16 (pc)).toArray rfl rfl (H16.there hz461) (vsz _) (von _) ?_
            simp only [Act.put, y1, y2, y3, y4, y5, y6, List.toList_toArray]
            have hw463 : Below u2.heap.size u2 (w457.setCells b448 0 (vl 16 (pc))) := below_store hw459 (by omega) _ 0
            have hz464 : H16 (w457.setCells b448 0 (vl 16 (pc))) b448 (pc) := H16.store hz461 _
            have hz465 : H16 (w457.setCells b448 0 (vl 16 (pc))) b396 _ := H16.storeOther hz460 (by omega) _
            refine hK.out _ _ ?_ (fun hHeld => ?_)
            · exact ⟨range_kept (hw463) (row16_range X3.out), range_kept (hw463) (row16_range X4.out), range_kept (hw463) (row16_range X5.out), range_kept (hw463) (row16_range X7.out), hw463⟩
            clear hK K
            try simp only [Act.put, y1, y2, y3, y4, y5, y6]
            generalize w457.setCells b448 0 (vl 16 (pc)) = w462 at *
            refine wpAnyH_ready (rs := [11]) (by kernel_rfl) (by simp) ?_
            refine AllReadyH.cons rfl (fun K hK => ?_) (AllReadyH.nil)
            try simp only [y1, y2, y3]
            rw [if_pos (by rfl)]
            refine wp_store_mid 22 (.tmp 10) (.tmp 27) rfl (b396) (0) (vl 16 (pe)).toArray rfl rfl (H16.there hz465) (vsz _) (von _) ?_
            simp only [Act.put, y1, y2, y3, y4, y5, y6, List.toList_toArray]
            have hw467 : Below u2.heap.size u2 (w462.setCells b396 0 (vl 16 (pe))) := below_store hw463 (by omega) _ 0
            have hz468 : H16 (w462.setCells b396 0 (vl 16 (pe))) b396 (pe) := H16.store hz465 _
            have hz469 : H16 (w462.setCells b396 0 (vl 16 (pe))) b448 _ := H16.storeOther hz464 (by omega) _
            refine hK.out _ _ ?_ (fun hHeld => ?_)
            · exact ⟨range_kept (hw467) (row16_range X3.out), range_kept (hw467) (row16_range X4.out), range_kept (hw467) (row16_range X5.out), range_kept (hw467) (row16_range X7.out), hw467⟩
            clear hK K
            try simp only [Act.put, y1, y2, y3, y4, y5, y6]
            generalize w462.setCells b396 0 (vl 16 (pe)) = w466 at *
            refine wpAnyH_done (by kernel_rfl) ?_ _
            refine NoPanic.normal ?_
            go_wp2_with fail
            go_meet
            refine ⟨_, _, rfl, rfl, Lib.hid hz469, Lib.hid hz468, Lib.hid hw467⟩
        · try simp only [y1, y2, y3]
          go_simp
          have hw471 : Below u2.heap.size u2 (w393.alloc zO) := hw394.alloc hw394.size _
          have hz472 : H16 (w393.alloc zO) w393.heap.size fun _ => 0 := new_h w393
          have hl474 : u2.heap.size ≤ w393.heap.size := hw394.size
          have hz475 := H16.alloc zO hz395
          have hne476 : b396 < w393.heap.size := hz395.lt
          refine hK.out _ _ ?_ (fun hHeld => ?_)
          · exact ⟨range_kept (hw471) (row16_range X3.out), range_kept (hw471) (row16_range X4.out), range_kept (hw471) (row16_range X5.out), range_kept (hw471) (row16_range X7.out), hw471⟩
          clear hK K
          try simp only [Act.put, y1, y2, y3, y4, y5, y6]
          generalize w393.alloc zO = w470 at *
          generalize w393.heap.size = b473 at *
          refine wpAnyH_ready (rs := [2]) (by kernel_rfl) (by simp) ?_
          refine AllReadyH.cons rfl (fun K hK => ?_) (AllReadyH.nil)
          try simp only [y1, y2, y3]
          go_simp
          refine (Cc.out _).mono ?_
          rintro e w477 ⟨rfl, hb478⟩
          rw [aN_vl 16 (pc)]
          have hw479 : Below u2.heap.size u2 w477 := hw471.trans (hb478.mono hw471.size)
          have hz480 := H16.call hb478 hz475
          have hz481 := H16.call hb478 hz472
          refine hK.out _ _ ?_ (fun hHeld => ?_)
          · exact ⟨range_kept (hw479) (row16_range X3.out), range_kept (hw479) (row16_range X4.out), range_kept (hw479) (row16_range X5.out), range_kept (hw479) (row16_range X7.out), hw479⟩
          clear hK K
          try simp only [Act.put, y1, y2, y3, y4, y5, y6]
          clear hb478
          refine wpAnyH_ready (rs := [6]) (by kernel_rfl) (by simp) ?_
          refine AllReadyH.cons rfl (fun K hK => ?_) (AllReadyH.nil)
          try simp only [y1, y2, y3]
          go_simp
          refine (Cd.out _).mono ?_
          rintro e w482 ⟨rfl, hb483⟩
          rw [aN_vl 16 (pd)]
          have hw484 : Below u2.heap.size u2 w482 := hw479.trans (hb483.mono hw479.size)
          have hz485 := H16.call hb483 hz480
          have hz486 := H16.call hb483 hz481
          refine hK.out _ _ ?_ (fun hHeld => ?_)
          · exact ⟨range_kept (hw484) (row16_range X3.out), range_kept (hw484) (row16_range X4.out), range_kept (hw484) (row16_range X5.out), range_kept (hw484) (row16_range X7.out), hw484⟩
          clear hK K
          try simp only [Act.put, y1, y2, y3, y4, y5, y6]
          clear hb483
          refine wpAnyH_ready (rs := [7]) (by kernel_rfl) (by simp) ?_
          refine AllReadyH.cons rfl (fun K hK => ?_) (AllReadyH.nil)
          try simp only [y1, y2, y3]
          go_simp
          refine (Ce.out _).mono ?_
          rintro e w487 ⟨rfl, hb488⟩
          rw [aN_vl 16 (pe)]
          have hw489 : Below u2.heap.size u2 w487 := hw484.trans (hb488.mono hw484.size)
          have hz490 := H16.call hb488 hz485
          have hz491 := H16.call hb488 hz486
          refine hK.out _ _ ?_ (fun hHeld => ?_)
          · exact ⟨range_kept (hw489) (row16_range X3.out), range_kept (hw489) (row16_range X4.out), range_kept (hw489) (row16_range X5.out), range_kept (hw489) (row16_range X7.out), hw489⟩
          clear hK K
          try simp only [Act.put, y1, y2, y3, y4, y5, y6]
          clear hb488
          refine wpAnyH_ready (rs := [10]) (by kernel_rfl) (by simp) ?_
          refine AllReadyH.cons rfl (fun K hK => ?_) (AllReadyH.nil)
          try simp only [y1, y2, y3]
          rw [if_pos (by rfl)]
          refine wp_store_mid 22 (.tmp 9) (.tmp 22) rfl (b473) (0) (vl 16 (pc)).toArray rfl rfl (H16.there hz491) (vsz _) (von _) ?_
          simp only [Act.put, y1, y2, y3, y4, y5, y6, List.toList_toArray]
          have hw493 : Below u2.heap.size u2 (w487.setCells b473 0 (vl 16 (pc))) := below_store hw489 (by omega) _ 0
          have hz494 : H16 (w487.setCells b473 0 (vl 16 (pc))) b473 (pc) := H16.store hz491 _
          have hz495 : H16 (w487.setCells b473 0 (vl 16 (pc))) b396 _ := H16.storeOther hz490 (by omega) _
          refine hK.out _ _ ?_ (fun hHeld => ?_)
          · exact ⟨range_kept (hw493) (row16_range X3.out), range_kept (hw493) (row16_range X4.out), range_kept (hw493) (row16_range X5.out), range_kept (hw493) (row16_range X7.out), hw493⟩
          clear hK K
          try simp only [Act.put, y1, y2, y3, y4, y5, y6]
          generalize w487.setCells b473 0 (vl 16 (pc)) = w492 at *
          refine wpAnyH_ready (rs := [11]) (by kernel_rfl) (by simp) ?_
          refine AllReadyH.cons rfl (fun K hK => ?_) (AllReadyH.nil)
          try simp only [y1, y2, y3]
          rw [if_pos (by rfl)]
          refine wp_store_mid 22 (.tmp 10) (.tmp 27) rfl (b396) (0) (vl 16 (pe)).toArray rfl rfl (H16.there hz495) (vsz _) (von _) ?_
          simp only [Act.put, y1, y2, y3, y4, y5, y6, List.toList_toArray]
          have hw497 : Below u2.heap.size u2 (w492.setCells b396 0 (vl 16 (pe))) := below_store hw493 (by omega) _ 0
          have hz498 : H16 (w492.setCells b396 0 (vl 16 (pe))) b396 (pe) := H16.store hz495 _
          have hz499 : H16 (w492.setCells b396 0 (vl 16 (pe))) b473 _ := H16.storeOther hz494 (by omega) _
          refine hK.out _ _ ?_ (fun hHeld => ?_)
          · exact ⟨range_kept (hw497) (row16_range X3.out), range_kept (hw497) (row16_range X4.out), range_kept (hw497) (row16_range X5.out), range_kept (hw497) (row16_range X7.out), hw497⟩
          clear hK K
          try simp only [Act.put, y1, y2, y3, y4, y5, y6]
          generalize w492.setCells b396 0 (vl 16 (pe)) = w496 at *
          refine wpAnyH_done (by kernel_rfl) ?_ _
          refine NoPanic.normal ?_
          go_wp2_with fail
          go_meet
          refine ⟨_, _, rfl, rfl, Lib.hid hz499, Lib.hid hz498, Lib.hid hw497⟩
    case rest =>
      obtain ⟨b9, b10, rfl, rfl, X9, X10, HW⟩ := hcut
      obtain ⟨u3, rfl⟩ : ∃ u3 : World, u3 = wc := ⟨_, rfl⟩
      replace X3 := Lib.hid (H16.call HW.out X3.out)
      replace X4 := Lib.hid (H16.call HW.out X4.out)
      replace X5 := Lib.hid (H16.call HW.out X5.out)
      replace X7 := Lib.hid (H16.call HW.out X7.out)
      replace X8 := Lib.hid (H16.call HW.out X8.out)
      replace HB : Hid (Below w.heap.size w u3) := Lib.hid (HB.out.trans (HW.out.mono HB.out.size))
      clear HW
      try clear u2
      go_upto_region 3 with fail
      go_cut [11] (fun s11 wx => ∃ b11 : Nat, s11 = .pointer (some ⟨b11, 0, none⟩) ∧ Hid (H16 wx b11 (ph)) ∧ Hid (Below u3.heap.size u3 wx))
      case first =>
        refine wp_region_noPanic ?_
        refine wp_region_held_drew (S := (fun w' => w'.rangeAt (c3) 0 (vl 16 (f)) ∧ w'.rangeAt (c4) 0 (vl 16 (g)) ∧ w'.rangeAt (c5) 0 (vl 16 (k)) ∧ Below u3.heap.size u3 w')) (by kernel_rfl) ?_ (fun hHeld => ?_)
        · exact ⟨range_kept ((Below.refl u3.heap.size u3).drew) (row16_range X3.out), range_kept ((Below.refl u3.heap.size u3).drew) (row16_range X4.out), range_kept ((Below.refl u3.heap.size u3).drew) (row16_range X5.out), (Below.refl u3.heap.size u3).drew⟩
        have hs2 : Below u3.heap.size u3 u3.drew := (Below.refl u3.heap.size u3).drew
        generalize u3.drew = ws1 at *
        refine wpAnyH_take (i := 0) rfl (by kernel_rfl) (by kernel_rfl) (by kernel_rfl) (fun _ _ _ h => h) (yieldsIf_load_mid (by rfl) 22 (.tmp 3) rfl (c3) (0) rfl (vl 16 (f)) (.array 16 5) (fun _ h => h.1) Try.underlying22 rfl (vln _)) hHeld ?_
        try simp only [Act.put, y1, y2, y3, y4, y5, y6]
        refine wpAnyH_take (i := 1) rfl (by kernel_rfl) (by kernel_rfl) (by kernel_rfl) (fun _ _ _ h => h) (yieldsIf_load_mid (by rfl) 22 (.tmp 4) rfl (c4) (0) rfl (vl 16 (g)) (.array 16 5) (fun _ h => h.2.1) Try.underlying22 rfl (vln _)) hHeld ?_
        try simp only [Act.put, y1, y2, y3, y4, y5, y6]
        refine wpAnyH_take (i := 2) rfl (by kernel_rfl) (by kernel_rfl) (by kernel_rfl) (fun _ _ _ h => h) (yieldsIf_load_mid (by rfl) 22 (.tmp 5) rfl (c5) (0) rfl (vl 16 (k)) (.array 16 5) (fun _ h => h.2.2.1) Try.underlying22 rfl (vln _)) hHeld ?_
        try simp only [Act.put, y1, y2, y3, y4, y5, y6]
        refine wpAnyH_ready (rs := [3, 5]) (by kernel_rfl) (by simp) ?_
        refine AllReadyH.cons rfl (fun K hK => ?_) (AllReadyH.cons rfl (fun K hK => ?_) (AllReadyH.nil))
        · try simp only [y1, y2, y3]
          go_simp
          refine (Cg.out _).mono ?_
          rintro e w3 ⟨rfl, hb4⟩
          rw [aN_vl 16 (pg)]
          have hw5 : Below u3.heap.size u3 w3 := hs2.trans (hb4.mono hs2.size)
          refine hK.out _ _ ?_ (fun hHeld => ?_)
          · exact ⟨range_kept (hw5) (row16_range X3.out), range_kept (hw5) (row16_range X4.out), range_kept (hw5) (row16_range X5.out), hw5⟩
          clear hK K
          try simp only [Act.put, y1, y2, y3, y4, y5, y6]
          clear hb4
          refine wpAnyH_ready (rs := [4, 5]) (by kernel_rfl) (by simp) ?_
          refine AllReadyH.cons rfl (fun K hK => ?_) (AllReadyH.cons rfl (fun K hK => ?_) (AllReadyH.nil))
          · try simp only [y1, y2, y3]
            go_simp
            refine (Ch.out _).mono ?_
            rintro e w6 ⟨rfl, hb7⟩
            rw [aN_vl 16 (ph)]
            have hw8 : Below u3.heap.size u3 w6 := hw5.trans (hb7.mono hw5.size)
            refine hK.out _ _ ?_ (fun hHeld => ?_)
            · exact ⟨range_kept (hw8) (row16_range X3.out), range_kept (hw8) (row16_range X4.out), range_kept (hw8) (row16_range X5.out), hw8⟩
            clear hK K
            try simp only [Act.put, y1, y2, y3, y4, y5, y6]
            clear hb7
            refine wpAnyH_ready (rs := [5]) (by kernel_rfl) (by simp) ?_
            refine AllReadyH.cons rfl (fun K hK => ?_) (AllReadyH.nil)
            try simp only [y1, y2, y3]
            go_simp
            have hw10 : Below u3.heap.size u3 (w6.alloc zO) := hw8.alloc hw8.size _
            have hz11 : H16 (w6.alloc zO) w6.heap.size fun _ => 0 := new_h w6
            have hl13 : u3.heap.size ≤ w6.heap.size := hw8.size
            refine hK.out _ _ ?_ (fun hHeld => ?_)
            · exact ⟨range_kept (hw10) (row16_range X3.out), range_kept (hw10) (row16_range X4.out), range_kept (hw10) (row16_range X5.out), hw10⟩
            clear hK K
            try simp only [Act.put, y1, y2, y3, y4, y5, y6]
            generalize w6.alloc zO = w9 at *
            generalize w6.heap.size = b12 at *
            refine wpAnyH_ready (rs := [6]) (by kernel_rfl) (by simp) ?_
            refine AllReadyH.cons rfl (fun K hK => ?_) (AllReadyH.nil)
            try simp only [y1, y2, y3]
            rw [if_pos (by rfl)]
            refine wp_store_mid 22 (.tmp 11) (.tmp 32) rfl (b12) (0) (vl 16 (ph)).toArray rfl rfl (H16.there hz11) (vsz _) (von _) ?_
            simp only [Act.put, y1, y2, y3, y4, y5, y6, List.toList_toArray]
            have hw15 : Below u3.heap.size u3 (w9.setCells b12 0 (vl 16 (ph))) := below_store hw10 (by omega) _ 0
            have hz16 : H16 (w9.setCells b12 0 (vl 16 (ph))) b12 (ph) := H16.store hz11 _
            refine hK.out _ _ ?_ (fun hHeld => ?_)
            · exact ⟨range_kept (hw15) (row16_range X3.out), range_kept (hw15) (row16_range X4.out), range_kept (hw15) (row16_range X5.out), hw15⟩
            clear hK K
            try simp only [Act.put, y1, y2, y3, y4, y5, y6]
            generalize w9.setCells b12 0 (vl 16 (ph)) = w14 at *
            refine wpAnyH_done (by kernel_rfl) ?_ _
            refine NoPanic.normal ?_
            go_wp2_with fail
            go_meet
            refine ⟨_, rfl, Lib.hid hz16, Lib.hid hw15⟩
          · try simp only [y1, y2, y3]
            go_simp
            have hw18 : Below u3.heap.size u3 (w3.alloc zO) := hw5.alloc hw5.size _
            have hz19 : H16 (w3.alloc zO) w3.heap.size fun _ => 0 := new_h w3
            have hl21 : u3.heap.size ≤ w3.heap.size := hw5.size
            refine hK.out _ _ ?_ (fun hHeld => ?_)
            · exact ⟨range_kept (hw18) (row16_range X3.out), range_kept (hw18) (row16_range X4.out), range_kept (hw18) (row16_range X5.out), hw18⟩
            clear hK K
            try simp only [Act.put, y1, y2, y3, y4, y5, y6]
            generalize w3.alloc zO = w17 at *
            generalize w3.heap.size = b20 at *
            refine wpAnyH_ready (rs := [4]) (by kernel_rfl) (by simp) ?_
            refine AllReadyH.cons rfl (fun K hK => ?_) (AllReadyH.nil)
            try simp only [y1, y2, y3]
            go_simp
            refine (Ch.out _).mono ?_
            rintro e w22 ⟨rfl, hb23⟩
            rw [aN_vl 16 (ph)]
            have hw24 : Below u3.heap.size u3 w22 := hw18.trans (hb23.mono hw18.size)
            have hz25 := H16.call hb23 hz19
            refine hK.out _ _ ?_ (fun hHeld => ?_)
            · exact ⟨range_kept (hw24) (row16_range X3.out), range_kept (hw24) (row16_range X4.out), range_kept (hw24) (row16_range X5.out), hw24⟩
            clear hK K
            try simp only [Act.put, y1, y2, y3, y4, y5, y6]
            clear hb23
            refine wpAnyH_ready (rs := [6]) (by kernel_rfl) (by simp) ?_
            refine AllReadyH.cons rfl (fun K hK => ?_) (AllReadyH.nil)
            try simp only [y1, y2, y3]
            rw [if_pos (by rfl)]
            refine wp_store_mid 22 (.tmp 11) (.tmp 32) rfl (b20) (0) (vl 16 (ph)).toArray rfl rfl (H16.there hz25) (vsz _) (von _) ?_
            simp only [Act.put, y1, y2, y3, y4, y5, y6, List.toList_toArray]
            have hw27 : Below u3.heap.size u3 (w22.setCells b20 0 (vl 16 (ph))) := below_store hw24 (by omega) _ 0
            have hz28 : H16 (w22.setCells b20 0 (vl 16 (ph))) b20 (ph) := H16.store hz25 _
            refine hK.out _ _ ?_ (fun hHeld => ?_)
            · exact ⟨range_kept (hw27) (row16_range X3.out), range_kept (hw27) (row16_range X4.out), range_kept (hw27) (row16_range X5.out), hw27⟩
            clear hK K
            try simp only [Act.put, y1, y2, y3, y4, y5, y6]
            generalize w22.setCells b20 0 (vl 16 (ph)) = w26 at *
            refine wpAnyH_done (by kernel_rfl) ?_ _
            refine NoPanic.normal ?_
            go_wp2_with fail
            go_meet
            refine ⟨_, rfl, Lib.hid hz28, Lib.hid hw27⟩
        · try simp only [y1, y2, y3]
          go_simp
          have hw30 : Below u3.heap.size u3 (ws1.alloc zO) := hs2.alloc hs2.size _
          have hz31 : H16 (ws1.alloc zO) ws1.heap.size fun _ => 0 := new_h ws1
          have hl33 : u3.heap.size ≤ ws1.heap.size := hs2.size
          refine hK.out _ _ ?_ (fun hHeld => ?_)
          · exact ⟨range_kept (hw30) (row16_range X3.out), range_kept (hw30) (row16_range X4.out), range_kept (hw30) (row16_range X5.out), hw30⟩
          clear hK K
          try simp only [Act.put, y1, y2, y3, y4, y5, y6]
          generalize ws1.alloc zO = w29 at *
          generalize ws1.heap.size = b32 at *
          refine wpAnyH_ready (rs := [3]) (by kernel_rfl) (by simp) ?_
          refine AllReadyH.cons rfl (fun K hK => ?_) (AllReadyH.nil)
          try simp only [y1, y2, y3]
          go_simp
          refine (Cg.out _).mono ?_
          rintro e w34 ⟨rfl, hb35⟩
          rw [aN_vl 16 (pg)]
          have hw36 : Below u3.heap.size u3 w34 := hw30.trans (hb35.mono hw30.size)
          have hz37 := H16.call hb35 hz31
          refine hK.out _ _ ?_ (fun hHeld => ?_)
          · exact ⟨range_kept (hw36) (row16_range X3.out), range_kept (hw36) (row16_range X4.out), range_kept (hw36) (row16_range X5.out), hw36⟩
          clear hK K
          try simp only [Act.put, y1, y2, y3, y4, y5, y6]
          clear hb35
          refine wpAnyH_ready (rs := [4]) (by kernel_rfl) (by simp) ?_
          refine AllReadyH.cons rfl (fun K hK => ?_) (AllReadyH.nil)
          try simp only [y1, y2, y3]
          go_simp
          refine (Ch.out _).mono ?_
          rintro e w38 ⟨rfl, hb39⟩
          rw [aN_vl 16 (ph)]
          have hw40 : Below u3.heap.size u3 w38 := hw36.trans (hb39.mono hw36.size)
          have hz41 := H16.call hb39 hz37
          refine hK.out _ _ ?_ (fun hHeld => ?_)
          · exact ⟨range_kept (hw40) (row16_range X3.out), range_kept (hw40) (row16_range X4.out), range_kept (hw40) (row16_range X5.out), hw40⟩
          clear hK K
          try simp only [Act.put, y1, y2, y3, y4, y5, y6]
          clear hb39
          refine wpAnyH_ready (rs := [6]) (by kernel_rfl) (by simp) ?_
          refine AllReadyH.cons rfl (fun K hK => ?_) (AllReadyH.nil)
          try simp only [y1, y2, y3]
          rw [if_pos (by rfl)]
          refine wp_store_mid 22 (.tmp 11) (.tmp 32) rfl (b32) (0) (vl 16 (ph)).toArray rfl rfl (H16.there hz41) (vsz _) (von _) ?_
          simp only [Act.put, y1, y2, y3, y4, y5, y6, List.toList_toArray]
          have hw43 : Below u3.heap.size u3 (w38.setCells b32 0 (vl 16 (ph))) := below_store hw40 (by omega) _ 0
          have hz44 : H16 (w38.setCells b32 0 (vl 16 (ph))) b32 (ph) := H16.store hz41 _
          refine hK.out _ _ ?_ (fun hHeld => ?_)
          · exact ⟨range_kept (hw43) (row16_range X3.out), range_kept (hw43) (row16_range X4.out), range_kept (hw43) (row16_range X5.out), hw43⟩
          clear hK K
          try simp only [Act.put, y1, y2, y3, y4, y5, y6]
          generalize w38.setCells b32 0 (vl 16 (ph)) = w42 at *
          refine wpAnyH_done (by kernel_rfl) ?_ _
          refine NoPanic.normal ?_
          go_wp2_with fail
          go_meet
          refine ⟨_, rfl, Lib.hid hz44, Lib.hid hw43⟩
      case rest =>
        obtain ⟨b11, rfl, X11, HW⟩ := hcut
        obtain ⟨u4, rfl⟩ : ∃ u4 : World, u4 = wc := ⟨_, rfl⟩
        replace X3 := Lib.hid (H16.call HW.out X3.out)
        replace X4 := Lib.hid (H16.call HW.out X4.out)
        replace X5 := Lib.hid (H16.call HW.out X5.out)
        replace X7 := Lib.hid (H16.call HW.out X7.out)
        replace X8 := Lib.hid (H16.call HW.out X8.out)
        replace X9 := Lib.hid (H16.call HW.out X9.out)
        replace X10 := Lib.hid (H16.call HW.out X10.out)
        replace HB : Hid (Below w.heap.size w u4) := Lib.hid (HB.out.trans (HW.out.mono HB.out.size))
        clear HW
        try clear u3
        go_upto_region 4 with fail
        go_cut [12] (fun s12 wx => ∃ b12 : Nat, s12 = .pointer (some ⟨b12, 0, none⟩) ∧ Hid (H16 wx b12 (pj)) ∧ Hid (Below u4.heap.size u4 wx))
        case first =>
          refine wp_region_noPanic ?_
          refine wp_region_held_drew (S := (fun w' => w'.rangeAt (c3) 0 (vl 16 (f)) ∧ w'.rangeAt (c5) 0 (vl 16 (k)) ∧ w'.rangeAt (b7) 0 (vl 16 (pa)) ∧ Below u4.heap.size u4 w')) (by kernel_rfl) ?_ (fun hHeld => ?_)
          · exact ⟨range_kept ((Below.refl u4.heap.size u4).drew) (row16_range X3.out), range_kept ((Below.refl u4.heap.size u4).drew) (row16_range X5.out), range_kept ((Below.refl u4.heap.size u4).drew) (row16_range X7.out), (Below.refl u4.heap.size u4).drew⟩
          have hs2 : Below u4.heap.size u4 u4.drew := (Below.refl u4.heap.size u4).drew
          generalize u4.drew = ws1 at *
          refine wpAnyH_take (i := 0) rfl (by kernel_rfl) (by kernel_rfl) (by kernel_rfl) (fun _ _ _ h => h) (yieldsIf_load_mid (by rfl) 22 (.tmp 7) rfl (b7) (0) rfl (vl 16 (pa)) (.array 16 5) (fun _ h => h.2.2.1) Try.underlying22 rfl (vln _)) hHeld ?_
          try simp only [Act.put, y1, y2, y3, y4, y5, y6]
          refine wpAnyH_take (i := 1) rfl (by kernel_rfl) (by kernel_rfl) (by kernel_rfl) (fun _ _ _ h => h) (yieldsIf_load_mid (by rfl) 22 (.tmp 3) rfl (c3) (0) rfl (vl 16 (f)) (.array 16 5) (fun _ h => h.1) Try.underlying22 rfl (vln _)) hHeld ?_
          try simp only [Act.put, y1, y2, y3, y4, y5, y6]
          refine wpAnyH_take (i := 2) rfl (by kernel_rfl) (by kernel_rfl) (by kernel_rfl) (fun _ _ _ h => h) (yieldsIf_load_mid (by rfl) 22 (.tmp 5) rfl (c5) (0) rfl (vl 16 (k)) (.array 16 5) (fun _ h => h.2.1) Try.underlying22 rfl (vln _)) hHeld ?_
          try simp only [Act.put, y1, y2, y3, y4, y5, y6]
          refine wpAnyH_ready (rs := [3, 5]) (by kernel_rfl) (by simp) ?_
          refine AllReadyH.cons rfl (fun K hK => ?_) (AllReadyH.cons rfl (fun K hK => ?_) (AllReadyH.nil))
          · try simp only [y1, y2, y3]
            go_simp
            refine (Ci.out _).mono ?_
            rintro e w3 ⟨rfl, hb4⟩
            rw [aN_vl 16 (pi)]
            have hw5 : Below u4.heap.size u4 w3 := hs2.trans (hb4.mono hs2.size)
            refine hK.out _ _ ?_ (fun hHeld => ?_)
            · exact ⟨range_kept (hw5) (row16_range X3.out), range_kept (hw5) (row16_range X5.out), range_kept (hw5) (row16_range X7.out), hw5⟩
            clear hK K
            try simp only [Act.put, y1, y2, y3, y4, y5, y6]
            clear hb4
            refine wpAnyH_ready (rs := [4, 5]) (by kernel_rfl) (by simp) ?_
            refine AllReadyH.cons rfl (fun K hK => ?_) (AllReadyH.cons rfl (fun K hK => ?_) (AllReadyH.nil))
            · try simp only [y1, y2, y3]
              go_simp
              refine (Cj.out _).mono ?_
              rintro e w6 ⟨rfl, hb7⟩
              rw [aN_vl 16 (pj)]
              have hw8 : Below u4.heap.size u4 w6 := hw5.trans (hb7.mono hw5.size)
              refine hK.out _ _ ?_ (fun hHeld => ?_)
              · exact ⟨range_kept (hw8) (row16_range X3.out), range_kept (hw8) (row16_range X5.out), range_kept (hw8) (row16_range X7.out), hw8⟩
              clear hK K
              try simp only [Act.put, y1, y2, y3, y4, y5, y6]
              clear hb7
              refine wpAnyH_ready (rs := [5]) (by kernel_rfl) (by simp) ?_
              refine AllReadyH.cons rfl (fun K hK => ?_) (AllReadyH.nil)
              try simp only [y1, y2, y3]
              go_simp
              have hw10 : Below u4.heap.size u4 (w6.alloc zO) := hw8.alloc hw8.size _
              have hz11 : H16 (w6.alloc zO) w6.heap.size fun _ => 0 := new_h w6
              have hl13 : u4.heap.size ≤ w6.heap.size := hw8.size
              refine hK.out _ _ ?_ (fun hHeld => ?_)
              · exact ⟨range_kept (hw10) (row16_range X3.out), range_kept (hw10) (row16_range X5.out), range_kept (hw10) (row16_range X7.out), hw10⟩
              clear hK K
              try simp only [Act.put, y1, y2, y3, y4, y5, y6]
              generalize w6.alloc zO = w9 at *
              generalize w6.heap.size = b12 at *
              refine wpAnyH_ready (rs := [6]) (by kernel_rfl) (by simp) ?_
              refine AllReadyH.cons rfl (fun K hK => ?_) (AllReadyH.nil)
              try simp only [y1, y2, y3]
              rw [if_pos (by rfl)]
              refine wp_store_mid 22 (.tmp 12) (.tmp 37) rfl (b12) (0) (vl 16 (pj)).toArray rfl rfl (H16.there hz11) (vsz _) (von _) ?_
              simp only [Act.put, y1, y2, y3, y4, y5, y6, List.toList_toArray]
              have hw15 : Below u4.heap.size u4 (w9.setCells b12 0 (vl 16 (pj))) := below_store hw10 (by omega) _ 0
              have hz16 : H16 (w9.setCells b12 0 (vl 16 (pj))) b12 (pj) := H16.store hz11 _
              refine hK.out _ _ ?_ (fun hHeld => ?_)
              · exact ⟨range_kept (hw15) (row16_range X3.out), range_kept (hw15) (row16_range X5.out), range_kept (hw15) (row16_range X7.out), hw15⟩
              clear hK K
              try simp only [Act.put, y1, y2, y3, y4, y5, y6]
              generalize w9.setCells b12 0 (vl 16 (pj)) = w14 at *
              refine wpAnyH_done (by kernel_rfl) ?_ _
              refine NoPanic.normal ?_
              go_wp2_with fail
              go_meet
              refine ⟨_, rfl, Lib.hid hz16, Lib.hid hw15⟩
            · try simp only [y1, y2, y3]
              go_simp
              have hw18 : Below u4.heap.size u4 (w3.alloc zO) := hw5.alloc hw5.size _
              have hz19 : H16 (w3.alloc zO) w3.heap.size fun _ => 0 := new_h w3
              have hl21 : u4.heap.size ≤ w3.heap.size := hw5.size
              refine hK.out _ _ ?_ (fun hHeld => ?_)
              · exact ⟨range_kept (hw18) (row16_range X3.out), range_kept (hw18) (row16_range X5.out), range_kept (hw18) (row16_range X7.out), hw18⟩
              clear hK K
              try simp only [Act.put, y1, y2, y3, y4, y5, y6]
              generalize w3.alloc zO = w17 at *
              generalize w3.heap.size = b20 at *
              refine wpAnyH_ready (rs := [4]) (by kernel_rfl) (by simp) ?_
              refine AllReadyH.cons rfl (fun K hK => ?_) (AllReadyH.nil)
              try simp only [y1, y2, y3]
              go_simp
              refine (Cj.out _).mono ?_
              rintro e w22 ⟨rfl, hb23⟩
              rw [aN_vl 16 (pj)]
              have hw24 : Below u4.heap.size u4 w22 := hw18.trans (hb23.mono hw18.size)
              have hz25 := H16.call hb23 hz19
              refine hK.out _ _ ?_ (fun hHeld => ?_)
              · exact ⟨range_kept (hw24) (row16_range X3.out), range_kept (hw24) (row16_range X5.out), range_kept (hw24) (row16_range X7.out), hw24⟩
              clear hK K
              try simp only [Act.put, y1, y2, y3, y4, y5, y6]
              clear hb23
              refine wpAnyH_ready (rs := [6]) (by kernel_rfl) (by simp) ?_
              refine AllReadyH.cons rfl (fun K hK => ?_) (AllReadyH.nil)
              try simp only [y1, y2, y3]
              rw [if_pos (by rfl)]
              refine wp_store_mid 22 (.tmp 12) (.tmp 37) rfl (b20) (0) (vl 16 (pj)).toArray rfl rfl (H16.there hz25) (vsz _) (von _) ?_
              simp only [Act.put, y1, y2, y3, y4, y5, y6, List.toList_toArray]
              have hw27 : Below u4.heap.size u4 (w22.setCells b20 0 (vl 16 (pj))) := below_store hw24 (by omega) _ 0
              have hz28 : H16 (w22.setCells b20 0 (vl 16 (pj))) b20 (pj) := H16.store hz25 _
              refine hK.out _ _ ?_ (fun hHeld => ?_)
              · exact ⟨range_kept (hw27) (row16_range X3.out), range_kept (hw27) (row16_range X5.out), range_kept (hw27) (row16_range X7.out), hw27⟩
              clear hK K
              try simp only [Act.put, y1, y2, y3, y4, y5, y6]
              generalize w22.setCells b20 0 (vl 16 (pj)) = w26 at *
              refine wpAnyH_done (by kernel_rfl) ?_ _
              refine NoPanic.normal ?_
              go_wp2_with fail
              go_meet
              refine ⟨_, rfl, Lib.hid hz28, Lib.hid hw27⟩
          · try simp only [y1, y2, y3]
            go_simp
            have hw30 : Below u4.heap.size u4 (ws1.alloc zO) := hs2.alloc hs2.size _
            have hz31 : H16 (ws1.alloc zO) ws1.heap.size fun _ => 0 := new_h ws1
            have hl33 : u4.heap.size ≤ ws1.heap.size := hs2.size
            refine hK.out _ _ ?_ (fun hHeld => ?_)
            · exact ⟨range_kept (hw30) (row16_range X3.out), range_kept (hw30) (row16_range X5.out), range_kept (hw30) (row16_range X7.out), hw30⟩
            clear hK K
            try simp only [Act.put, y1, y2, y3, y4, y5, y6]
            generalize ws1.alloc zO = w29 at *
            generalize ws1.heap.size = b32 at *
            refine wpAnyH_ready (rs := [3]) (by kernel_rfl) (by simp) ?_
            refine AllReadyH.cons rfl (fun K hK => ?_) (AllReadyH.nil)
            try simp only [y1, y2, y3]
            go_simp
            refine (Ci.out _).mono ?_
            rintro e w34 ⟨rfl, hb35⟩
            rw [aN_vl 16 (pi)]
            have hw36 : Below u4.heap.size u4 w34 := hw30.trans (hb35.mono hw30.size)
            have hz37 := H16.call hb35 hz31
            refine hK.out _ _ ?_ (fun hHeld => ?_)
            · exact ⟨range_kept (hw36) (row16_range X3.out), range_kept (hw36) (row16_range X5.out), range_kept (hw36) (row16_range X7.out), hw36⟩
            clear hK K
            try simp only [Act.put, y1, y2, y3, y4, y5, y6]
            clear hb35
            refine wpAnyH_ready (rs := [4]) (by kernel_rfl) (by simp) ?_
            refine AllReadyH.cons rfl (fun K hK => ?_) (AllReadyH.nil)
            try simp only [y1, y2, y3]
            go_simp
            refine (Cj.out _).mono ?_
            rintro e w38 ⟨rfl, hb39⟩
            rw [aN_vl 16 (pj)]
            have hw40 : Below u4.heap.size u4 w38 := hw36.trans (hb39.mono hw36.size)
            have hz41 := H16.call hb39 hz37
            refine hK.out _ _ ?_ (fun hHeld => ?_)
            · exact ⟨range_kept (hw40) (row16_range X3.out), range_kept (hw40) (row16_range X5.out), range_kept (hw40) (row16_range X7.out), hw40⟩
            clear hK K
            try simp only [Act.put, y1, y2, y3, y4, y5, y6]
            clear hb39
            refine wpAnyH_ready (rs := [6]) (by kernel_rfl) (by simp) ?_
            refine AllReadyH.cons rfl (fun K hK => ?_) (AllReadyH.nil)
            try simp only [y1, y2, y3]
            rw [if_pos (by rfl)]
            refine wp_store_mid 22 (.tmp 12) (.tmp 37) rfl (b32) (0) (vl 16 (pj)).toArray rfl rfl (H16.there hz41) (vsz _) (von _) ?_
            simp only [Act.put, y1, y2, y3, y4, y5, y6, List.toList_toArray]
            have hw43 : Below u4.heap.size u4 (w38.setCells b32 0 (vl 16 (pj))) := below_store hw40 (by omega) _ 0
            have hz44 : H16 (w38.setCells b32 0 (vl 16 (pj))) b32 (pj) := H16.store hz41 _
            refine hK.out _ _ ?_ (fun hHeld => ?_)
            · exact ⟨range_kept (hw43) (row16_range X3.out), range_kept (hw43) (row16_range X5.out), range_kept (hw43) (row16_range X7.out), hw43⟩
            clear hK K
            try simp only [Act.put, y1, y2, y3, y4, y5, y6]
            generalize w38.setCells b32 0 (vl 16 (pj)) = w42 at *
            refine wpAnyH_done (by kernel_rfl) ?_ _
            refine NoPanic.normal ?_
            go_wp2_with fail
            go_meet
            refine ⟨_, rfl, Lib.hid hz44, Lib.hid hw43⟩
        case rest =>
          obtain ⟨b12, rfl, X12, HW⟩ := hcut
          obtain ⟨u5, rfl⟩ : ∃ u5 : World, u5 = wc := ⟨_, rfl⟩
          replace X3 := Lib.hid (H16.call HW.out X3.out)
          replace X4 := Lib.hid (H16.call HW.out X4.out)
          replace X5 := Lib.hid (H16.call HW.out X5.out)
          replace X7 := Lib.hid (H16.call HW.out X7.out)
          replace X8 := Lib.hid (H16.call HW.out X8.out)
          replace X9 := Lib.hid (H16.call HW.out X9.out)
          replace X10 := Lib.hid (H16.call HW.out X10.out)
          replace X11 := Lib.hid (H16.call HW.out X11.out)
          replace HB : Hid (Below w.heap.size w u5) := Lib.hid (HB.out.trans (HW.out.mono HB.out.size))
          clear HW
          try clear u4
          go_upto_region 5 with fail
          have d3 : u5.heap[c3]? = some (.cells (aN 16 f) 22 (0, 0)) := X3.out
          go_wp2_with (refine wpList_load_row rfl 22 (.tmp 3) rfl c3 rfl 22 (aN 16 f) (0, 0) (.array 16 5) d3 Try.underlying22 rfl (by rw [aN_size]; exact blk_size) ?_)
          rw [zero16]
          refine (Cn.out _).mono ?_
          rintro e wA ⟨rfl, hbA⟩
          have dS := new_dS wA
          clear d3
          go_upto_region 6 with (refine wpList_store_row rfl 22 (.tmp 13) (.tmp 40) rfl wA.heap.size (aN 16 (pn)) rfl rfl 22 _ dS (by rw [aN_size]; exact blk_size) (by simp only [aN_size]) (aN_one _ _) ?_)
          obtain ⟨hN, hbN⟩ := new_row wA (pn)
          have hbb := hbA.trans (hbN.mono hbA.size)
          replace X3 := Lib.hid (H16.call hbb X3.out)
          replace X4 := Lib.hid (H16.call hbb X4.out)
          replace X5 := Lib.hid (H16.call hbb X5.out)
          replace X7 := Lib.hid (H16.call hbb X7.out)
          replace X8 := Lib.hid (H16.call hbb X8.out)
          replace X9 := Lib.hid (H16.call hbb X9.out)
          replace X10 := Lib.hid (H16.call hbb X10.out)
          replace X11 := Lib.hid (H16.call hbb X11.out)
          replace X12 := Lib.hid (H16.call hbb X12.out)
          have X13 := Lib.hid hN; clear hN
          replace HB : Hid (Below w.heap.size w ((wA.alloc (.cells #[.int .u8 0, .int .u8 0, .int .u8 0, .int .u8 0, .int .u8 0, .int .u8 0, .int .u8 0, .int .u8 0, .int .u8 0, .int .u8 0, .int .u8 0, .int .u8 0, .int .u8 0, .int .u8 0, .int .u8 0, .int .u8 0] 22)).setRow wA.heap.size (aN 16 (pn)))) := Lib.hid (HB.out.trans (hbb.mono HB.out.size))
          clear hbA hbN hbb dS
          generalize (wA.alloc (.cells #[.int .u8 0, .int .u8 0, .int .u8 0, .int .u8 0, .int .u8 0, .int .u8 0, .int .u8 0, .int .u8 0, .int .u8 0, .int .u8 0, .int .u8 0, .int .u8 0, .int .u8 0, .int .u8 0, .int .u8 0, .int .u8 0] 22)).setRow wA.heap.size (aN 16 (pn)) = u6 at *
          generalize wA.heap.size = b13 at *
          by_cases h0 : hm (hof f) (hof g) = 0
          · have q6 := eqz pa true (by rw [HPA.out, h0]; rfl)
            by_cases h1 : hof f = 0
            · have q7 := eqz f true (by rw [fl_zero f HF.out, h1]; rfl)
              clear h0 h1
              refine wp_region_noPanic ?_
              refine wp_region_held_drew (S := (fun w' => w'.rangeAt (c3) 0 (vl 16 (f)) ∧ w'.rangeAt (c4) 0 (vl 16 (g)) ∧ w'.rangeAt (b7) 0 (vl 16 (pa)) ∧ w'.rangeAt (b8) 0 (vl 16 (pb)) ∧ w'.rangeAt (b9) 0 (vl 16 (pc)) ∧ w'.rangeAt (b10) 0 (vl 16 (pe)) ∧ w'.rangeAt (b11) 0 (vl 16 (ph)) ∧ w'.rangeAt (b12) 0 (vl 16 (pj)) ∧ w'.rangeAt (b13) 0 (vl 16 (pn)) ∧ Below u6.heap.size u6 w')) (by kernel_rfl) ?_ (fun hHeld => ?_)
              · exact ⟨range_kept ((Below.refl u6.heap.size u6).drew) (row16_range X3.out), range_kept ((Below.refl u6.heap.size u6).drew) (row16_range X4.out), range_kept ((Below.refl u6.heap.size u6).drew) (row16_range X7.out), range_kept ((Below.refl u6.heap.size u6).drew) (row16_range X8.out), range_kept ((Below.refl u6.heap.size u6).drew) (row16_range X9.out), range_kept ((Below.refl u6.heap.size u6).drew) (row16_range X10.out), range_kept ((Below.refl u6.heap.size u6).drew) (row16_range X11.out), range_kept ((Below.refl u6.heap.size u6).drew) (row16_range X12.out), range_kept ((Below.refl u6.heap.size u6).drew) (row16_range X13.out), (Below.refl u6.heap.size u6).drew⟩
              have hs2 : Below u6.heap.size u6 u6.drew := (Below.refl u6.heap.size u6).drew
              generalize u6.drew = ws1 at *
              refine wpAnyH_take (i := 0) rfl (by kernel_rfl) (by kernel_rfl) (by kernel_rfl) (fun _ _ _ h => h) (yieldsIf_load_mid (by rfl) 22 (.tmp 7) rfl (b7) (0) rfl (vl 16 (pa)) (.array 16 5) (fun _ h => h.2.2.1) Try.underlying22 rfl (vln _)) hHeld ?_
              try simp only [Act.put, y1, y2, y3, y4, y5, y6]
              refine wpAnyH_take (i := 1) rfl (by kernel_rfl) (by kernel_rfl) (by kernel_rfl) (fun _ _ _ h => h) (yieldsIf_load_mid (by rfl) 22 (.tmp 8) rfl (b8) (0) rfl (vl 16 (pb)) (.array 16 5) (fun _ h => h.2.2.2.1) Try.underlying22 rfl (vln _)) hHeld ?_
              try simp only [Act.put, y1, y2, y3, y4, y5, y6]
              refine wpAnyH_take (i := 2) (v := ?_) rfl (by kernel_rfl) (by kernel_rfl) (by kernel_rfl) (fun _ _ _ h => h) (Or.inl ⟨by rfl, ?_⟩) hHeld ?_
              rotate_left
              · intro w' hSw
                (try dsimp only at hSw)
                go_simp
                try with_reducible rfl
              try simp only [Act.put, y1, y2, y3, y4, y5, y6]
              refine wpAnyH_take (i := 3) (v := ?_) rfl (by kernel_rfl) (by kernel_rfl) (by kernel_rfl) (fun _ _ _ h => h) (Or.inl ⟨by rfl, ?_⟩) hHeld ?_
              rotate_left
              · intro w' hSw
                (try dsimp only at hSw)
                go_simp
                try with_reducible rfl
              try simp only [Act.put, y1, y2, y3, y4, y5, y6]
              refine wpAnyH_take (i := 4) rfl (by kernel_rfl) (by kernel_rfl) (by kernel_rfl) (fun _ _ _ h => h) (yieldsIf_load_mid (by rfl) 22 (.tmp 9) rfl (b9) (0) rfl (vl 16 (pc)) (.array 16 5) (fun _ h => h.2.2.2.2.1) Try.underlying22 rfl (vln _)) hHeld ?_
              try simp only [Act.put, y1, y2, y3, y4, y5, y6]
              refine wpAnyH_take (i := 5) rfl (by kernel_rfl) (by kernel_rfl) (by kernel_rfl) (fun _ _ _ h => h) (yieldsIf_load_mid (by rfl) 22 (.tmp 10) rfl (b10) (0) rfl (vl 16 (pe)) (.array 16 5) (fun _ h => h.2.2.2.2.2.1) Try.underlying22 rfl (vln _)) hHeld ?_
              try simp only [Act.put, y1, y2, y3, y4, y5, y6]
              refine wpAnyH_take (i := 6) (v := ?_) rfl (by kernel_rfl) (by kernel_rfl) (by kernel_rfl) (fun _ _ _ h => h) (Or.inl ⟨by rfl, ?_⟩) hHeld ?_
              rotate_left
              · intro w' hSw
                (try dsimp only at hSw)
                go_simp
                try with_reducible rfl
              try simp only [Act.put, y1, y2, y3, y4, y5, y6]
              refine wpAnyH_take (i := 7) (v := ?_) rfl (by kernel_rfl) (by kernel_rfl) (by kernel_rfl) (fun _ _ _ h => h) (Or.inl ⟨by rfl, ?_⟩) hHeld ?_
              rotate_left
              · intro w' hSw
                (try dsimp only at hSw)
                go_simp
                try with_reducible rfl
              try simp only [Act.put, y1, y2, y3, y4, y5, y6]
              refine wpAnyH_take (i := 8) (v := ?_) rfl (by kernel_rfl) (by kernel_rfl) (by kernel_rfl) (fun _ _ _ h => h) (Or.inl ⟨by rfl, ?_⟩) hHeld ?_
              rotate_left
              · intro w' hSw
                (try dsimp only at hSw)
                go_simp
                try with_reducible rfl
              try simp only [Act.put, y1, y2, y3, y4, y5, y6]
              refine wpAnyH_take (i := 9) rfl (by kernel_rfl) (by kernel_rfl) (by kernel_rfl) (fun _ _ _ h => h) (yieldsIf_load_mid (by rfl) 22 (.tmp 11) rfl (b11) (0) rfl (vl 16 (ph)) (.array 16 5) (fun _ h => h.2.2.2.2.2.2.1) Try.underlying22 rfl (vln _)) hHeld ?_
              try simp only [Act.put, y1, y2, y3, y4, y5, y6]
              refine wpAnyH_take (i := 10) rfl (by kernel_rfl) (by kernel_rfl) (by kernel_rfl) (fun _ _ _ h => h) (yieldsIf_load_mid (by rfl) 22 (.tmp 12) rfl (b12) (0) rfl (vl 16 (pj)) (.array 16 5) (fun _ h => h.2.2.2.2.2.2.2.1) Try.underlying22 rfl (vln _)) hHeld ?_
              try simp only [Act.put, y1, y2, y3, y4, y5, y6]
              refine wpAnyH_take (i := 11) (v := ?_) rfl (by kernel_rfl) (by kernel_rfl) (by kernel_rfl) (fun _ _ _ h => h) (Or.inl ⟨by rfl, ?_⟩) hHeld ?_
              rotate_left
              · intro w' hSw
                (try dsimp only at hSw)
                go_simp
                try with_reducible rfl
              try simp only [Act.put, y1, y2, y3, y4, y5, y6]
              refine wpAnyH_take (i := 12) (v := ?_) rfl (by kernel_rfl) (by kernel_rfl) (by kernel_rfl) (fun _ _ _ h => h) (Or.inl ⟨by rfl, ?_⟩) hHeld ?_
              rotate_left
              · intro w' hSw
                (try dsimp only at hSw)
                go_simp
                try with_reducible rfl
              try simp only [Act.put, y1, y2, y3, y4, y5, y6]
              refine wpAnyH_take (i := 13) (v := ?_) rfl (by kernel_rfl) (by kernel_rfl) (by kernel_rfl) (fun _ _ _ h => h) (Or.inl ⟨by rfl, ?_⟩) hHeld ?_
              rotate_left
              · intro w' hSw
                (try dsimp only at hSw)
                go_simp
                try with_reducible rfl
              try simp only [Act.put, y1, y2, y3, y4, y5, y6]
              refine wpAnyH_take (i := 14) rfl (by kernel_rfl) (by kernel_rfl) (by kernel_rfl) (fun _ _ _ h => h) (yieldsIf_load_mid (by rfl) 22 (.tmp 3) rfl (c3) (0) rfl (vl 16 (f)) (.array 16 5) (fun _ h => h.1) Try.underlying22 rfl (vln _)) hHeld ?_
              try simp only [Act.put, y1, y2, y3, y4, y5, y6]
              refine wpAnyH_take (i := 17) rfl (by kernel_rfl) (by kernel_rfl) (by kernel_rfl) (fun _ _ _ h => h) (yieldsIf_load_mid (by rfl) 22 (.tmp 3) rfl (c3) (0) rfl (vl 16 (f)) (.array 16 5) (fun _ h => h.1) Try.underlying22 rfl (vln _)) hHeld ?_
              try simp only [Act.put, y1, y2, y3, y4, y5, y6]
              refine wpAnyH_ready (rs := [15]) (by kernel_rfl) (by simp) ?_
              refine AllReadyH.cons rfl (fun K hK => ?_) (AllReadyH.nil)
              try simp only [y1, y2, y3]
              go_simp
              refine (lone_any _).mono ?_
              rintro e w3 ⟨rfl, hb4⟩
              rw [aN_vl 16 (oneF)]
              have hw5 : Below u6.heap.size u6 w3 := hs2.trans (hb4.mono hs2.size)
              refine hK.out _ _ ?_ (fun hHeld => ?_)
              · exact ⟨range_kept (hw5) (row16_range X3.out), range_kept (hw5) (row16_range X4.out), range_kept (hw5) (row16_range X7.out), range_kept (hw5) (row16_range X8.out), range_kept (hw5) (row16_range X9.out), range_kept (hw5) (row16_range X10.out), range_kept (hw5) (row16_range X11.out), range_kept (hw5) (row16_range X12.out), range_kept (hw5) (row16_range X13.out), hw5⟩
              clear hK K
              try simp only [Act.put, y1, y2, y3, y4, y5, y6]
              clear hb4
              refine wpAnyH_ready (rs := [16]) (by kernel_rfl) (by simp) ?_
              refine AllReadyH.cons rfl (fun K hK => ?_) (AllReadyH.nil)
              try simp only [y1, y2, y3]
              go_simp
              refine (Co.out _).mono ?_
              rintro e w6 ⟨rfl, hb7⟩
              rw [aN_vl 16 (po)]
              have hw8 : Below u6.heap.size u6 w6 := hw5.trans (hb7.mono hw5.size)
              refine hK.out _ _ ?_ (fun hHeld => ?_)
              · exact ⟨range_kept (hw8) (row16_range X3.out), range_kept (hw8) (row16_range X4.out), range_kept (hw8) (row16_range X7.out), range_kept (hw8) (row16_range X8.out), range_kept (hw8) (row16_range X9.out), range_kept (hw8) (row16_range X10.out), range_kept (hw8) (row16_range X11.out), range_kept (hw8) (row16_range X12.out), range_kept (hw8) (row16_range X13.out), hw8⟩
              clear hK K
              try simp only [Act.put, y1, y2, y3, y4, y5, y6]
              clear hb7
              refine wpAnyH_take (i := 18) (v := ?_) rfl (by kernel_rfl) (by kernel_rfl) (by kernel_rfl) (fun _ _ _ h => h) (Or.inl ⟨by rfl, ?_⟩) hHeld ?_
              rotate_left
              · intro w' hSw
                (try dsimp only at hSw)
                go_simp
                try with_reducible rfl
              try simp only [Act.put, y1, y2, y3, y4, y5, y6]
              refine wpAnyH_take (i := 19) (v := ?_) rfl (by kernel_rfl) (by kernel_rfl) (by kernel_rfl) (fun _ _ _ h => h) (Or.inl ⟨by rfl, ?_⟩) hHeld ?_
              rotate_left
              · intro w' hSw
                (try dsimp only at hSw)
                go_simp
                try with_reducible rfl
              try simp only [Act.put, y1, y2, y3, y4, y5, y6]
              refine wpAnyH_take (i := 20) (v := ?_) rfl (by kernel_rfl) (by kernel_rfl) (by kernel_rfl) (fun _ _ _ h => h) (Or.inl ⟨by rfl, ?_⟩) hHeld ?_
              rotate_left
              · intro w' hSw
                (try dsimp only at hSw)
                go_simp
                try with_reducible rfl
              try simp only [Act.put, y1, y2, y3, y4, y5, y6]
              refine wpAnyH_take (i := 21) rfl (by kernel_rfl) (by kernel_rfl) (by kernel_rfl) (fun _ _ _ h => h) (yieldsIf_load_mid (by rfl) 22 (.tmp 13) rfl (b13) (0) rfl (vl 16 (pn)) (.array 16 5) (fun _ h => h.2.2.2.2.2.2.2.2.1) Try.underlying22 rfl (vln _)) hHeld ?_
              try simp only [Act.put, y1, y2, y3, y4, y5, y6]
              refine wpAnyH_take (i := 22) (v := ?_) rfl (by kernel_rfl) (by kernel_rfl) (by kernel_rfl) (fun _ _ _ h => h) (Or.inl ⟨by rfl, ?_⟩) hHeld ?_
              rotate_left
              · intro w' hSw
                (try dsimp only at hSw)
                go_simp
                try with_reducible rfl
              try simp only [Act.put, y1, y2, y3, y4, y5, y6]
              refine wpAnyH_take (i := 23) (v := ?_) rfl (by kernel_rfl) (by kernel_rfl) (by kernel_rfl) (fun _ _ _ h => h) (Or.inl ⟨by rfl, ?_⟩) hHeld ?_
              rotate_left
              · intro w' hSw
                (try dsimp only at hSw)
                go_simp
                try with_reducible rfl
              try simp only [Act.put, y1, y2, y3, y4, y5, y6]
              refine wpAnyH_take (i := 24) (v := ?_) rfl (by kernel_rfl) (by kernel_rfl) (by kernel_rfl) (fun _ _ _ h => h) (Or.inl ⟨by rfl, ?_⟩) hHeld ?_
              rotate_left
              · intro w' hSw
                (try dsimp only at hSw)
                go_simp
                try with_reducible rfl
              try simp only [Act.put, y1, y2, y3, y4, y5, y6]
              refine wpAnyH_take (i := 25) (v := ?_) rfl (by kernel_rfl) (by kernel_rfl) (by kernel_rfl) (fun _ _ _ h => h) (Or.inl ⟨by rfl, ?_⟩) hHeld ?_
              rotate_left
              · intro w' hSw
                (try dsimp only at hSw)
                go_simp
                try with_reducible rfl
              try simp only [Act.put, y1, y2, y3, y4, y5, y6]
              refine wpAnyH_take (i := 26) rfl (by kernel_rfl) (by kernel_rfl) (by kernel_rfl) (fun _ _ _ h => h) (yieldsIf_load_mid (by rfl) 22 (.tmp 7) rfl (b7) (0) rfl (vl 16 (pa)) (.array 16 5) (fun _ h => h.2.2.1) Try.underlying22 rfl (vln _)) hHeld ?_
              try simp only [Act.put, y1, y2, y3, y4, y5, y6]
              refine wpAnyH_take (i := 27) (v := ?_) rfl (by kernel_rfl) (by kernel_rfl) (by kernel_rfl) (fun _ _ _ h => h) (Or.inl ⟨by rfl, ?_⟩) hHeld ?_
              rotate_left
              · intro w' hSw
                (try dsimp only at hSw)
                go_simp
                try with_reducible rfl
              try simp only [Act.put, y1, y2, y3, y4, y5, y6]
              refine wpAnyH_take (i := 28) (v := ?_) rfl (by kernel_rfl) (by kernel_rfl) (by kernel_rfl) (fun _ _ _ h => h) (Or.inl ⟨by rfl, ?_⟩) hHeld ?_
              rotate_left
              · intro w' hSw
                (try dsimp only at hSw)
                go_simp
                try with_reducible rfl
              try simp only [Act.put, y1, y2, y3, y4, y5, y6]
              refine wpAnyH_take (i := 29) (v := ?_) rfl (by kernel_rfl) (by kernel_rfl) (by kernel_rfl) (fun _ _ _ h => h) (Or.inl ⟨by rfl, ?_⟩) hHeld ?_
              rotate_left
              · intro w' hSw
                (try dsimp only at hSw)
                go_simp
                try with_reducible rfl
              try simp only [Act.put, y1, y2, y3, y4, y5, y6]
              refine wpAnyH_take (i := 30) rfl (by kernel_rfl) (by kernel_rfl) (by kernel_rfl) (fun _ _ _ h => h) (yieldsIf_load_mid (by rfl) 22 (.tmp 3) rfl (c3) (0) rfl (vl 16 (f)) (.array 16 5) (fun _ h => h.1) Try.underlying22 rfl (vln _)) hHeld ?_
              try simp only [Act.put, y1, y2, y3, y4, y5, y6]
              refine wpAnyH_take (i := 31) (v := ?_) rfl (by kernel_rfl) (by kernel_rfl) (by kernel_rfl) (fun _ _ _ h => h) (Or.inl ⟨by rfl, ?_⟩) hHeld ?_
              rotate_left
              · intro w' hSw
                (try dsimp only at hSw)
                go_simp
                try with_reducible rfl
              try simp only [Act.put, y1, y2, y3, y4, y5, y6]
              refine wpAnyH_take (i := 32) (v := ?_) rfl (by kernel_rfl) (by kernel_rfl) (by kernel_rfl) (fun _ _ _ h => h) (Or.inl ⟨by rfl, ?_⟩) hHeld ?_
              rotate_left
              · intro w' hSw
                (try dsimp only at hSw)
                go_simp
                try with_reducible rfl
              try simp only [Act.put, y1, y2, y3, y4, y5, y6]
              refine wpAnyH_take (i := 33) (v := ?_) rfl (by kernel_rfl) (by kernel_rfl) (by kernel_rfl) (fun _ _ _ h => h) (Or.inl ⟨by rfl, ?_⟩) hHeld ?_
              rotate_left
              · intro w' hSw
                (try dsimp only at hSw)
                go_simp
                try with_reducible rfl
              try simp only [Act.put, y1, y2, y3, y4, y5, y6]
              refine wpAnyH_take (i := 34) (v := ?_) rfl (by kernel_rfl) (by kernel_rfl) (by kernel_rfl) (fun _ _ _ h => h) (Or.inl ⟨by rfl, ?_⟩) hHeld ?_
              rotate_left
              · intro w' hSw
                (try dsimp only at hSw)
                go_simp
                try with_reducible rfl
              try simp only [Act.put, y1, y2, y3, y4, y5, y6]
              refine wpAnyH_take (i := 35) (v := undef) rfl (by kernel_rfl) (by kernel_rfl) (by kernel_rfl) (fun _ _ _ h => h) (Or.inr ⟨by rfl, rfl⟩) hHeld ?_
              try simp only [Act.put, y1, y2, y3, y4, y5, y6]
              refine wpAnyH_take (i := 36) (v := undef) rfl (by kernel_rfl) (by kernel_rfl) (by kernel_rfl) (fun _ _ _ h => h) (Or.inr ⟨by rfl, rfl⟩) hHeld ?_
              try simp only [Act.put, y1, y2, y3, y4, y5, y6]
              refine wpAnyH_take (i := 37) (v := undef) rfl (by kernel_rfl) (by kernel_rfl) (by kernel_rfl) (fun _ _ _ h => h) (Or.inr ⟨by rfl, rfl⟩) hHeld ?_
              try simp only [Act.put, y1, y2, y3, y4, y5, y6]
              refine wpAnyH_take (i := 38) (v := ?_) rfl (by kernel_rfl) (by kernel_rfl) (by kernel_rfl) (fun _ _ _ h => h) (Or.inl ⟨by rfl, ?_⟩) hHeld ?_
              rotate_left
              · intro w' hSw
                (try dsimp only at hSw)
                go_simp
                try with_reducible rfl
              try simp only [Act.put, y1, y2, y3, y4, y5, y6]
              refine wpAnyH_take (i := 39) (v := ?_) rfl (by kernel_rfl) (by kernel_rfl) (by kernel_rfl) (fun _ _ _ h => h) (Or.inl ⟨by rfl, ?_⟩) hHeld ?_
              rotate_left
              · intro w' hSw
                (try dsimp only at hSw)
                go_simp
                try with_reducible rfl
              try simp only [Act.put, y1, y2, y3, y4, y5, y6]
              refine wpAnyH_take (i := 40) (v := ?_) rfl (by kernel_rfl) (by kernel_rfl) (by kernel_rfl) (fun _ _ _ h => h) (Or.inl ⟨by rfl, ?_⟩) hHeld ?_
              rotate_left
              · intro w' hSw
                (try dsimp only at hSw)
                go_simp
                try with_reducible rfl
              try simp only [Act.put, y1, y2, y3, y4, y5, y6]
              refine wpAnyH_ready (rs := [41]) (by kernel_rfl) (by simp) ?_
              refine AllReadyH.cons rfl (fun K hK => ?_) (AllReadyH.nil)
              try simp only [y1, y2, y3]
              go_simp
              refine (known04_any _).mono ?_
              rintro e w9 ⟨rfl, hb10⟩
              have hw11 : Below u6.heap.size u6 w9 := hw8.trans (hb10.mono hw8.size)
              refine hK.out _ _ ?_ (fun hHeld => ?_)
              · exact ⟨range_kept (hw11) (row16_range X3.out), range_kept (hw11) (row16_range X4.out), range_kept (hw11) (row16_range X7.out), range_kept (hw11) (row16_range X8.out), range_kept (hw11) (row16_range X9.out), range_kept (hw11) (row16_range X10.out), range_kept (hw11) (row16_range X11.out), range_kept (hw11) (row16_range X12.out), range_kept (hw11) (row16_range X13.out), hw11⟩
              clear hK K
              try simp only [Act.put, y1, y2, y3, y4, y5, y6]
              clear hb10
              refine wpAnyH_take (i := 42) (v := ?_) rfl (by kernel_rfl) (by kernel_rfl) (by kernel_rfl) (fun _ _ _ h => h) (Or.inl ⟨by rfl, ?_⟩) hHeld ?_
              rotate_left
              · intro w' hSw
                (try dsimp only at hSw)
                go_simp
                try with_reducible rfl
              try simp only [Act.put, y1, y2, y3, y4, y5, y6]
              refine wpAnyH_take (i := 43) (v := ?_) rfl (by kernel_rfl) (by kernel_rfl) (by kernel_rfl) (fun _ _ _ h => h) (Or.inl ⟨by rfl, ?_⟩) hHeld ?_
              rotate_left
              · intro w' hSw
                (try dsimp only at hSw)
                go_simp
                try with_reducible rfl
              try simp only [Act.put, y1, y2, y3, y4, y5, y6]
              refine wpAnyH_done (by kernel_rfl) ?_ _
              refine NoPanic.normal ?_
              go_wp2_with fail
              go_ret
              exact ⟨rfl, HB.out.trans (hw11.mono HB.out.size)⟩
            · have q7 := eqz f false (by rw [fl_zero f HF.out]; exact decide_eq_false h1)
              have q8 := eqz g true (by rw [fl_zero g HG.out]; exact decide_eq_true ((hm_zero _ _ (hof_lt f HF.out) (hof_lt g HG.out) h0).resolve_left h1))
              clear h0 h1
              refine wp_region_noPanic ?_
              refine wp_region_held_drew (S := (fun w' => w'.rangeAt (c3) 0 (vl 16 (f)) ∧ w'.rangeAt (c4) 0 (vl 16 (g)) ∧ w'.rangeAt (b7) 0 (vl 16 (pa)) ∧ w'.rangeAt (b8) 0 (vl 16 (pb)) ∧ w'.rangeAt (b9) 0 (vl 16 (pc)) ∧ w'.rangeAt (b10) 0 (vl 16 (pe)) ∧ w'.rangeAt (b11) 0 (vl 16 (ph)) ∧ w'.rangeAt (b12) 0 (vl 16 (pj)) ∧ w'.rangeAt (b13) 0 (vl 16 (pn)) ∧ Below u6.heap.size u6 w')) (by kernel_rfl) ?_ (fun hHeld => ?_)
              · exact ⟨range_kept ((Below.refl u6.heap.size u6).drew) (row16_range X3.out), range_kept ((Below.refl u6.heap.size u6).drew) (row16_range X4.out), range_kept ((Below.refl u6.heap.size u6).drew) (row16_range X7.out), range_kept ((Below.refl u6.heap.size u6).drew) (row16_range X8.out), range_kept ((Below.refl u6.heap.size u6).drew) (row16_range X9.out), range_kept ((Below.refl u6.heap.size u6).drew) (row16_range X10.out), range_kept ((Below.refl u6.heap.size u6).drew) (row16_range X11.out), range_kept ((Below.refl u6.heap.size u6).drew) (row16_range X12.out), range_kept ((Below.refl u6.heap.size u6).drew) (row16_range X13.out), (Below.refl u6.heap.size u6).drew⟩
              have hs2 : Below u6.heap.size u6 u6.drew := (Below.refl u6.heap.size u6).drew
              generalize u6.drew = ws1 at *
              refine wpAnyH_take (i := 0) rfl (by kernel_rfl) (by kernel_rfl) (by kernel_rfl) (fun _ _ _ h => h) (yieldsIf_load_mid (by rfl) 22 (.tmp 7) rfl (b7) (0) rfl (vl 16 (pa)) (.array 16 5) (fun _ h => h.2.2.1) Try.underlying22 rfl (vln _)) hHeld ?_
              try simp only [Act.put, y1, y2, y3, y4, y5, y6]
              refine wpAnyH_take (i := 1) rfl (by kernel_rfl) (by kernel_rfl) (by kernel_rfl) (fun _ _ _ h => h) (yieldsIf_load_mid (by rfl) 22 (.tmp 8) rfl (b8) (0) rfl (vl 16 (pb)) (.array 16 5) (fun _ h => h.2.2.2.1) Try.underlying22 rfl (vln _)) hHeld ?_
              try simp only [Act.put, y1, y2, y3, y4, y5, y6]
              refine wpAnyH_take (i := 2) (v := ?_) rfl (by kernel_rfl) (by kernel_rfl) (by kernel_rfl) (fun _ _ _ h => h) (Or.inl ⟨by rfl, ?_⟩) hHeld ?_
              rotate_left
              · intro w' hSw
                (try dsimp only at hSw)
                go_simp
                try with_reducible rfl
              try simp only [Act.put, y1, y2, y3, y4, y5, y6]
              refine wpAnyH_take (i := 3) (v := ?_) rfl (by kernel_rfl) (by kernel_rfl) (by kernel_rfl) (fun _ _ _ h => h) (Or.inl ⟨by rfl, ?_⟩) hHeld ?_
              rotate_left
              · intro w' hSw
                (try dsimp only at hSw)
                go_simp
                try with_reducible rfl
              try simp only [Act.put, y1, y2, y3, y4, y5, y6]
              refine wpAnyH_take (i := 4) rfl (by kernel_rfl) (by kernel_rfl) (by kernel_rfl) (fun _ _ _ h => h) (yieldsIf_load_mid (by rfl) 22 (.tmp 9) rfl (b9) (0) rfl (vl 16 (pc)) (.array 16 5) (fun _ h => h.2.2.2.2.1) Try.underlying22 rfl (vln _)) hHeld ?_
              try simp only [Act.put, y1, y2, y3, y4, y5, y6]
              refine wpAnyH_take (i := 5) rfl (by kernel_rfl) (by kernel_rfl) (by kernel_rfl) (fun _ _ _ h => h) (yieldsIf_load_mid (by rfl) 22 (.tmp 10) rfl (b10) (0) rfl (vl 16 (pe)) (.array 16 5) (fun _ h => h.2.2.2.2.2.1) Try.underlying22 rfl (vln _)) hHeld ?_
              try simp only [Act.put, y1, y2, y3, y4, y5, y6]
              refine wpAnyH_take (i := 6) (v := ?_) rfl (by kernel_rfl) (by kernel_rfl) (by kernel_rfl) (fun _ _ _ h => h) (Or.inl ⟨by rfl, ?_⟩) hHeld ?_
              rotate_left
              · intro w' hSw
                (try dsimp only at hSw)
                go_simp
                try with_reducible rfl
              try simp only [Act.put, y1, y2, y3, y4, y5, y6]
              refine wpAnyH_take (i := 7) (v := ?_) rfl (by kernel_rfl) (by kernel_rfl) (by kernel_rfl) (fun _ _ _ h => h) (Or.inl ⟨by rfl, ?_⟩) hHeld ?_
              rotate_left
              · intro w' hSw
                (try dsimp only at hSw)
                go_simp
                try with_reducible rfl
              try simp only [Act.put, y1, y2, y3, y4, y5, y6]
              refine wpAnyH_take (i := 8) (v := ?_) rfl (by kernel_rfl) (by kernel_rfl) (by kernel_rfl) (fun _ _ _ h => h) (Or.inl ⟨by rfl, ?_⟩) hHeld ?_
              rotate_left
              · intro w' hSw
                (try dsimp only at hSw)
                go_simp
                try with_reducible rfl
              try simp only [Act.put, y1, y2, y3, y4, y5, y6]
              refine wpAnyH_take (i := 9) rfl (by kernel_rfl) (by kernel_rfl) (by kernel_rfl) (fun _ _ _ h => h) (yieldsIf_load_mid (by rfl) 22 (.tmp 11) rfl (b11) (0) rfl (vl 16 (ph)) (.array 16 5) (fun _ h => h.2.2.2.2.2.2.1) Try.underlying22 rfl (vln _)) hHeld ?_
              try simp only [Act.put, y1, y2, y3, y4, y5, y6]
              refine wpAnyH_take (i := 10) rfl (by kernel_rfl) (by kernel_rfl) (by kernel_rfl) (fun _ _ _ h => h) (yieldsIf_load_mid (by rfl) 22 (.tmp 12) rfl (b12) (0) rfl (vl 16 (pj)) (.array 16 5) (fun _ h => h.2.2.2.2.2.2.2.1) Try.underlying22 rfl (vln _)) hHeld ?_
              try simp only [Act.put, y1, y2, y3, y4, y5, y6]
              refine wpAnyH_take (i := 11) (v := ?_) rfl (by kernel_rfl) (by kernel_rfl) (by kernel_rfl) (fun _ _ _ h => h) (Or.inl ⟨by rfl, ?_⟩) hHeld ?_
              rotate_left
              · intro w' hSw
                (try dsimp only at hSw)
                go_simp
                try with_reducible rfl
              try simp only [Act.put, y1, y2, y3, y4, y5, y6]
              refine wpAnyH_take (i := 12) (v := ?_) rfl (by kernel_rfl) (by kernel_rfl) (by kernel_rfl) (fun _ _ _ h => h) (Or.inl ⟨by rfl, ?_⟩) hHeld ?_
              rotate_left
              · intro w' hSw
                (try dsimp only at hSw)
                go_simp
                try with_reducible rfl
              try simp only [Act.put, y1, y2, y3, y4, y5, y6]
              refine wpAnyH_take (i := 13) (v := ?_) rfl (by kernel_rfl) (by kernel_rfl) (by kernel_rfl) (fun _ _ _ h => h) (Or.inl ⟨by rfl, ?_⟩) hHeld ?_
              rotate_left
              · intro w' hSw
                (try dsimp only at hSw)
                go_simp
                try with_reducible rfl
              try simp only [Act.put, y1, y2, y3, y4, y5, y6]
              refine wpAnyH_take (i := 14) rfl (by kernel_rfl) (by kernel_rfl) (by kernel_rfl) (fun _ _ _ h => h) (yieldsIf_load_mid (by rfl) 22 (.tmp 3) rfl (c3) (0) rfl (vl 16 (f)) (.array 16 5) (fun _ h => h.1) Try.underlying22 rfl (vln _)) hHeld ?_
              try simp only [Act.put, y1, y2, y3, y4, y5, y6]
              refine wpAnyH_take (i := 17) rfl (by kernel_rfl) (by kernel_rfl) (by kernel_rfl) (fun _ _ _ h => h) (yieldsIf_load_mid (by rfl) 22 (.tmp 3) rfl (c3) (0) rfl (vl 16 (f)) (.array 16 5) (fun _ h => h.1) Try.underlying22 rfl (vln _)) hHeld ?_
              try simp only [Act.put, y1, y2, y3, y4, y5, y6]
              refine wpAnyH_ready (rs := [15]) (by kernel_rfl) (by simp) ?_
              refine AllReadyH.cons rfl (fun K hK => ?_) (AllReadyH.nil)
              try simp only [y1, y2, y3]
              go_simp
              refine (lone_any _).mono ?_
              rintro e w3 ⟨rfl, hb4⟩
              rw [aN_vl 16 (oneF)]
              have hw5 : Below u6.heap.size u6 w3 := hs2.trans (hb4.mono hs2.size)
              refine hK.out _ _ ?_ (fun hHeld => ?_)
              · exact ⟨range_kept (hw5) (row16_range X3.out), range_kept (hw5) (row16_range X4.out), range_kept (hw5) (row16_range X7.out), range_kept (hw5) (row16_range X8.out), range_kept (hw5) (row16_range X9.out), range_kept (hw5) (row16_range X10.out), range_kept (hw5) (row16_range X11.out), range_kept (hw5) (row16_range X12.out), range_kept (hw5) (row16_range X13.out), hw5⟩
              clear hK K
              try simp only [Act.put, y1, y2, y3, y4, y5, y6]
              clear hb4
              refine wpAnyH_ready (rs := [16]) (by kernel_rfl) (by simp) ?_
              refine AllReadyH.cons rfl (fun K hK => ?_) (AllReadyH.nil)
              try simp only [y1, y2, y3]
              go_simp
              refine (Co.out _).mono ?_
              rintro e w6 ⟨rfl, hb7⟩
              rw [aN_vl 16 (po)]
              have hw8 : Below u6.heap.size u6 w6 := hw5.trans (hb7.mono hw5.size)
              refine hK.out _ _ ?_ (fun hHeld => ?_)
              · exact ⟨range_kept (hw8) (row16_range X3.out), range_kept (hw8) (row16_range X4.out), range_kept (hw8) (row16_range X7.out), range_kept (hw8) (row16_range X8.out), range_kept (hw8) (row16_range X9.out), range_kept (hw8) (row16_range X10.out), range_kept (hw8) (row16_range X11.out), range_kept (hw8) (row16_range X12.out), range_kept (hw8) (row16_range X13.out), hw8⟩
              clear hK K
              try simp only [Act.put, y1, y2, y3, y4, y5, y6]
              clear hb7
              refine wpAnyH_take (i := 18) (v := ?_) rfl (by kernel_rfl) (by kernel_rfl) (by kernel_rfl) (fun _ _ _ h => h) (Or.inl ⟨by rfl, ?_⟩) hHeld ?_
              rotate_left
              · intro w' hSw
                (try dsimp only at hSw)
                go_simp
                try with_reducible rfl
              try simp only [Act.put, y1, y2, y3, y4, y5, y6]
              refine wpAnyH_take (i := 19) (v := ?_) rfl (by kernel_rfl) (by kernel_rfl) (by kernel_rfl) (fun _ _ _ h => h) (Or.inl ⟨by rfl, ?_⟩) hHeld ?_
              rotate_left
              · intro w' hSw
                (try dsimp only at hSw)
                go_simp
                try with_reducible rfl
              try simp only [Act.put, y1, y2, y3, y4, y5, y6]
              refine wpAnyH_take (i := 20) (v := ?_) rfl (by kernel_rfl) (by kernel_rfl) (by kernel_rfl) (fun _ _ _ h => h) (Or.inl ⟨by rfl, ?_⟩) hHeld ?_
              rotate_left
              · intro w' hSw
                (try dsimp only at hSw)
                go_simp
                try with_reducible rfl
              try simp only [Act.put, y1, y2, y3, y4, y5, y6]
              refine wpAnyH_take (i := 21) rfl (by kernel_rfl) (by kernel_rfl) (by kernel_rfl) (fun _ _ _ h => h) (yieldsIf_load_mid (by rfl) 22 (.tmp 13) rfl (b13) (0) rfl (vl 16 (pn)) (.array 16 5) (fun _ h => h.2.2.2.2.2.2.2.2.1) Try.underlying22 rfl (vln _)) hHeld ?_
              try simp only [Act.put, y1, y2, y3, y4, y5, y6]
              refine wpAnyH_take (i := 22) (v := ?_) rfl (by kernel_rfl) (by kernel_rfl) (by kernel_rfl) (fun _ _ _ h => h) (Or.inl ⟨by rfl, ?_⟩) hHeld ?_
              rotate_left
              · intro w' hSw
                (try dsimp only at hSw)
                go_simp
                try with_reducible rfl
              try simp only [Act.put, y1, y2, y3, y4, y5, y6]
              refine wpAnyH_take (i := 23) (v := ?_) rfl (by kernel_rfl) (by kernel_rfl) (by kernel_rfl) (fun _ _ _ h => h) (Or.inl ⟨by rfl, ?_⟩) hHeld ?_
              rotate_left
              · intro w' hSw
                (try dsimp only at hSw)
                go_simp
                try with_reducible rfl
              try simp only [Act.put, y1, y2, y3, y4, y5, y6]
              refine wpAnyH_take (i := 24) (v := ?_) rfl (by kernel_rfl) (by kernel_rfl) (by kernel_rfl) (fun _ _ _ h => h) (Or.inl ⟨by rfl, ?_⟩) hHeld ?_
              rotate_left
              · intro w' hSw
                (try dsimp only at hSw)
                go_simp
                try with_reducible rfl
              try simp only [Act.put, y1, y2, y3, y4, y5, y6]
              refine wpAnyH_take (i := 25) (v := ?_) rfl (by kernel_rfl) (by kernel_rfl) (by kernel_rfl) (fun _ _ _ h => h) (Or.inl ⟨by rfl, ?_⟩) hHeld ?_
              rotate_left
              · intro w' hSw
                (try dsimp only at hSw)
                go_simp
                try with_reducible rfl
              try simp only [Act.put, y1, y2, y3, y4, y5, y6]
              refine wpAnyH_take (i := 26) rfl (by kernel_rfl) (by kernel_rfl) (by kernel_rfl) (fun _ _ _ h => h) (yieldsIf_load_mid (by rfl) 22 (.tmp 7) rfl (b7) (0) rfl (vl 16 (pa)) (.array 16 5) (fun _ h => h.2.2.1) Try.underlying22 rfl (vln _)) hHeld ?_
              try simp only [Act.put, y1, y2, y3, y4, y5, y6]
              refine wpAnyH_take (i := 27) (v := ?_) rfl (by kernel_rfl) (by kernel_rfl) (by kernel_rfl) (fun _ _ _ h => h) (Or.inl ⟨by rfl, ?_⟩) hHeld ?_
              rotate_left
              · intro w' hSw
                (try dsimp only at hSw)
                go_simp
                try with_reducible rfl
              try simp only [Act.put, y1, y2, y3, y4, y5, y6]
              refine wpAnyH_take (i := 28) (v := ?_) rfl (by kernel_rfl) (by kernel_rfl) (by kernel_rfl) (fun _ _ _ h => h) (Or.inl ⟨by rfl, ?_⟩) hHeld ?_
              rotate_left
              · intro w' hSw
                (try dsimp only at hSw)
                go_simp
                try with_reducible rfl
              try simp only [Act.put, y1, y2, y3, y4, y5, y6]
              refine wpAnyH_take (i := 29) (v := ?_) rfl (by kernel_rfl) (by kernel_rfl) (by kernel_rfl) (fun _ _ _ h => h) (Or.inl ⟨by rfl, ?_⟩) hHeld ?_
              rotate_left
              · intro w' hSw
                (try dsimp only at hSw)
                go_simp
                try with_reducible rfl
              try simp only [Act.put, y1, y2, y3, y4, y5, y6]
              refine wpAnyH_take (i := 30) rfl (by kernel_rfl) (by kernel_rfl) (by kernel_rfl) (fun _ _ _ h => h) (yieldsIf_load_mid (by rfl) 22 (.tmp 3) rfl (c3) (0) rfl (vl 16 (f)) (.array 16 5) (fun _ h => h.1) Try.underlying22 rfl (vln _)) hHeld ?_
              try simp only [Act.put, y1, y2, y3, y4, y5, y6]
              refine wpAnyH_take (i := 31) (v := ?_) rfl (by kernel_rfl) (by kernel_rfl) (by kernel_rfl) (fun _ _ _ h => h) (Or.inl ⟨by rfl, ?_⟩) hHeld ?_
              rotate_left
              · intro w' hSw
                (try dsimp only at hSw)
                go_simp
                try with_reducible rfl
              try simp only [Act.put, y1, y2, y3, y4, y5, y6]
              refine wpAnyH_take (i := 32) (v := ?_) rfl (by kernel_rfl) (by kernel_rfl) (by kernel_rfl) (fun _ _ _ h => h) (Or.inl ⟨by rfl, ?_⟩) hHeld ?_
              rotate_left
              · intro w' hSw
                (try dsimp only at hSw)
                go_simp
                try with_reducible rfl
              try simp only [Act.put, y1, y2, y3, y4, y5, y6]
              refine wpAnyH_take (i := 33) (v := ?_) rfl (by kernel_rfl) (by kernel_rfl) (by kernel_rfl) (fun _ _ _ h => h) (Or.inl ⟨by rfl, ?_⟩) hHeld ?_
              rotate_left
              · intro w' hSw
                (try dsimp only at hSw)
                go_simp
                try with_reducible rfl
              try simp only [Act.put, y1, y2, y3, y4, y5, y6]
              refine wpAnyH_take (i := 34) (v := ?_) rfl (by kernel_rfl) (by kernel_rfl) (by kernel_rfl) (fun _ _ _ h => h) (Or.inl ⟨by rfl, ?_⟩) hHeld ?_
              rotate_left
              · intro w' hSw
                (try dsimp only at hSw)
                go_simp
                try with_reducible rfl
              try simp only [Act.put, y1, y2, y3, y4, y5, y6]
              refine wpAnyH_take (i := 35) rfl (by kernel_rfl) (by kernel_rfl) (by kernel_rfl) (fun _ _ _ h => h) (yieldsIf_load_mid (by rfl) 22 (.tmp 4) rfl (c4) (0) rfl (vl 16 (g)) (.array 16 5) (fun _ h => h.2.1) Try.underlying22 rfl (vln _)) hHeld ?_
              try simp only [Act.put, y1, y2, y3, y4, y5, y6]
              refine wpAnyH_take (i := 36) (v := ?_) rfl (by kernel_rfl) (by kernel_rfl) (by kernel_rfl) (fun _ _ _ h => h) (Or.inl ⟨by rfl, ?_⟩) hHeld ?_
              rotate_left
              · intro w' hSw
                (try dsimp only at hSw)
                go_simp
                try with_reducible rfl
              try simp only [Act.put, y1, y2, y3, y4, y5, y6]
              refine wpAnyH_take (i := 37) (v := ?_) rfl (by kernel_rfl) (by kernel_rfl) (by kernel_rfl) (fun _ _ _ h => h) (Or.inl ⟨by rfl, ?_⟩) hHeld ?_
              rotate_left
              · intro w' hSw
                (try dsimp only at hSw)
                go_simp
                try with_reducible rfl
              try simp only [Act.put, y1, y2, y3, y4, y5, y6]
              refine wpAnyH_take (i := 38) (v := ?_) rfl (by kernel_rfl) (by kernel_rfl) (by kernel_rfl) (fun _ _ _ h => h) (Or.inl ⟨by rfl, ?_⟩) hHeld ?_
              rotate_left
              · intro w' hSw
                (try dsimp only at hSw)
                go_simp
                try with_reducible rfl
              try simp only [Act.put, y1, y2, y3, y4, y5, y6]
              refine wpAnyH_take (i := 39) (v := ?_) rfl (by kernel_rfl) (by kernel_rfl) (by kernel_rfl) (fun _ _ _ h => h) (Or.inl ⟨by rfl, ?_⟩) hHeld ?_
              rotate_left
              · intro w' hSw
                (try dsimp only at hSw)
                go_simp
                try with_reducible rfl
              try simp only [Act.put, y1, y2, y3, y4, y5, y6]
              refine wpAnyH_take (i := 40) (v := ?_) rfl (by kernel_rfl) (by kernel_rfl) (by kernel_rfl) (fun _ _ _ h => h) (Or.inl ⟨by rfl, ?_⟩) hHeld ?_
              rotate_left
              · intro w' hSw
                (try dsimp only at hSw)
                go_simp
                try with_reducible rfl
              try simp only [Act.put, y1, y2, y3, y4, y5, y6]
              refine wpAnyH_ready (rs := [41]) (by kernel_rfl) (by simp) ?_
              refine AllReadyH.cons rfl (fun K hK => ?_) (AllReadyH.nil)
              try simp only [y1, y2, y3]
              go_simp
              refine (known04_any _).mono ?_
              rintro e w9 ⟨rfl, hb10⟩
              have hw11 : Below u6.heap.size u6 w9 := hw8.trans (hb10.mono hw8.size)
              refine hK.out _ _ ?_ (fun hHeld => ?_)
              · exact ⟨range_kept (hw11) (row16_range X3.out), range_kept (hw11) (row16_range X4.out), range_kept (hw11) (row16_range X7.out), range_kept (hw11) (row16_range X8.out), range_kept (hw11) (row16_range X9.out), range_kept (hw11) (row16_range X10.out), range_kept (hw11) (row16_range X11.out), range_kept (hw11) (row16_range X12.out), range_kept (hw11) (row16_range X13.out), hw11⟩
              clear hK K
              try simp only [Act.put, y1, y2, y3, y4, y5, y6]
              clear hb10
              refine wpAnyH_take (i := 42) (v := ?_) rfl (by kernel_rfl) (by kernel_rfl) (by kernel_rfl) (fun _ _ _ h => h) (Or.inl ⟨by rfl, ?_⟩) hHeld ?_
              rotate_left
              · intro w' hSw
                (try dsimp only at hSw)
                go_simp
                try with_reducible rfl
              try simp only [Act.put, y1, y2, y3, y4, y5, y6]
              refine wpAnyH_take (i := 43) (v := ?_) rfl (by kernel_rfl) (by kernel_rfl) (by kernel_rfl) (fun _ _ _ h => h) (Or.inl ⟨by rfl, ?_⟩) hHeld ?_
              rotate_left
              · intro w' hSw
                (try dsimp only at hSw)
                go_simp
                try with_reducible rfl
              try simp only [Act.put, y1, y2, y3, y4, y5, y6]
              refine wpAnyH_done (by kernel_rfl) ?_ _
              refine NoPanic.normal ?_
              go_wp2_with fail
              go_ret
              exact ⟨rfl, HB.out.trans (hw11.mono HB.out.size)⟩
          · have q6 := eqz pa false (by rw [HPA.out]; exact decide_eq_false h0)
            clear h0
            refine wp_region_noPanic ?_
            refine wp_region_held_drew (S := (fun w' => w'.rangeAt (c3) 0 (vl 16 (f)) ∧ w'.rangeAt (c4) 0 (vl 16 (g)) ∧ w'.rangeAt (b7) 0 (vl 16 (pa)) ∧ w'.rangeAt (b8) 0 (vl 16 (pb)) ∧ w'.rangeAt (b9) 0 (vl 16 (pc)) ∧ w'.rangeAt (b10) 0 (vl 16 (pe)) ∧ w'.rangeAt (b11) 0 (vl 16 (ph)) ∧ w'.rangeAt (b12) 0 (vl 16 (pj)) ∧ w'.rangeAt (b13) 0 (vl 16 (pn)) ∧ Below u6.heap.size u6 w')) (by kernel_rfl) ?_ (fun hHeld => ?_)
            · exact ⟨range_kept ((Below.refl u6.heap.size u6).drew) (row16_range X3.out), range_kept ((Below.refl u6.heap.size u6).drew) (row16_range X4.out), range_kept ((Below.refl u6.heap.size u6).drew) (row16_range X7.out), range_kept ((Below.refl u6.heap.size u6).drew) (row16_range X8.out), range_kept ((Below.refl u6.heap.size u6).drew) (row16_range X9.out), range_kept ((Below.refl u6.heap.size u6).drew) (row16_range X10.out), range_kept ((Below.refl u6.heap.size u6).drew) (row16_range X11.out), range_kept ((Below.refl u6.heap.size u6).drew) (row16_range X12.out), range_kept ((Below.refl u6.heap.size u6).drew) (row16_range X13.out), (Below.refl u6.heap.size u6).drew⟩
            have hs2 : Below u6.heap.size u6 u6.drew := (Below.refl u6.heap.size u6).drew
            generalize u6.drew = ws1 at *
            refine wpAnyH_take (i := 0) rfl (by kernel_rfl) (by kernel_rfl) (by kernel_rfl) (fun _ _ _ h => h) (yieldsIf_load_mid (by rfl) 22 (.tmp 7) rfl (b7) (0) rfl (vl 16 (pa)) (.array 16 5) (fun _ h => h.2.2.1) Try.underlying22 rfl (vln _)) hHeld ?_
            try simp only [Act.put, y1, y2, y3, y4, y5, y6]
            refine wpAnyH_take (i := 1) rfl (by kernel_rfl) (by kernel_rfl) (by kernel_rfl) (fun _ _ _ h => h) (yieldsIf_load_mid (by rfl) 22 (.tmp 8) rfl (b8) (0) rfl (vl 16 (pb)) (.array 16 5) (fun _ h => h.2.2.2.1) Try.underlying22 rfl (vln _)) hHeld ?_
            try simp only [Act.put, y1, y2, y3, y4, y5, y6]
            refine wpAnyH_take (i := 2) (v := ?_) rfl (by kernel_rfl) (by kernel_rfl) (by kernel_rfl) (fun _ _ _ h => h) (Or.inl ⟨by rfl, ?_⟩) hHeld ?_
            rotate_left
            · intro w' hSw
              (try dsimp only at hSw)
              go_simp
              try with_reducible rfl
            try simp only [Act.put, y1, y2, y3, y4, y5, y6]
            refine wpAnyH_take (i := 3) (v := ?_) rfl (by kernel_rfl) (by kernel_rfl) (by kernel_rfl) (fun _ _ _ h => h) (Or.inl ⟨by rfl, ?_⟩) hHeld ?_
            rotate_left
            · intro w' hSw
              (try dsimp only at hSw)
              go_simp
              try with_reducible rfl
            try simp only [Act.put, y1, y2, y3, y4, y5, y6]
            refine wpAnyH_take (i := 4) rfl (by kernel_rfl) (by kernel_rfl) (by kernel_rfl) (fun _ _ _ h => h) (yieldsIf_load_mid (by rfl) 22 (.tmp 9) rfl (b9) (0) rfl (vl 16 (pc)) (.array 16 5) (fun _ h => h.2.2.2.2.1) Try.underlying22 rfl (vln _)) hHeld ?_
            try simp only [Act.put, y1, y2, y3, y4, y5, y6]
            refine wpAnyH_take (i := 5) rfl (by kernel_rfl) (by kernel_rfl) (by kernel_rfl) (fun _ _ _ h => h) (yieldsIf_load_mid (by rfl) 22 (.tmp 10) rfl (b10) (0) rfl (vl 16 (pe)) (.array 16 5) (fun _ h => h.2.2.2.2.2.1) Try.underlying22 rfl (vln _)) hHeld ?_
            try simp only [Act.put, y1, y2, y3, y4, y5, y6]
            refine wpAnyH_take (i := 6) (v := ?_) rfl (by kernel_rfl) (by kernel_rfl) (by kernel_rfl) (fun _ _ _ h => h) (Or.inl ⟨by rfl, ?_⟩) hHeld ?_
            rotate_left
            · intro w' hSw
              (try dsimp only at hSw)
              go_simp
              try with_reducible rfl
            try simp only [Act.put, y1, y2, y3, y4, y5, y6]
            refine wpAnyH_take (i := 7) (v := ?_) rfl (by kernel_rfl) (by kernel_rfl) (by kernel_rfl) (fun _ _ _ h => h) (Or.inl ⟨by rfl, ?_⟩) hHeld ?_
            rotate_left
            · intro w' hSw
              (try dsimp only at hSw)
              go_simp
              try with_reducible rfl
            try simp only [Act.put, y1, y2, y3, y4, y5, y6]
            refine wpAnyH_take (i := 8) (v := ?_) rfl (by kernel_rfl) (by kernel_rfl) (by kernel_rfl) (fun _ _ _ h => h) (Or.inl ⟨by rfl, ?_⟩) hHeld ?_
            rotate_left
            · intro w' hSw
              (try dsimp only at hSw)
              go_simp
              try with_reducible rfl
            try simp only [Act.put, y1, y2, y3, y4, y5, y6]
            refine wpAnyH_take (i := 9) rfl (by kernel_rfl) (by kernel_rfl) (by kernel_rfl) (fun _ _ _ h => h) (yieldsIf_load_mid (by rfl) 22 (.tmp 11) rfl (b11) (0) rfl (vl 16 (ph)) (.array 16 5) (fun _ h => h.2.2.2.2.2.2.1) Try.underlying22 rfl (vln _)) hHeld ?_
            try simp only [Act.put, y1, y2, y3, y4, y5, y6]
            refine wpAnyH_take (i := 10) rfl (by kernel_rfl) (by kernel_rfl) (by kernel_rfl) (fun _ _ _ h => h) (yieldsIf_load_mid (by rfl) 22 (.tmp 12) rfl (b12) (0) rfl (vl 16 (pj)) (.array 16 5) (fun _ h => h.2.2.2.2.2.2.2.1) Try.underlying22 rfl (vln _)) hHeld ?_
            try simp only [Act.put, y1, y2, y3, y4, y5, y6]
            refine wpAnyH_take (i := 11) (v := ?_) rfl (by kernel_rfl) (by kernel_rfl) (by kernel_rfl) (fun _ _ _ h => h) (Or.inl ⟨by rfl, ?_⟩) hHeld ?_
            rotate_left
            · intro w' hSw
              (try dsimp only at hSw)
              go_simp
              try with_reducible rfl
            try simp only [Act.put, y1, y2, y3, y4, y5, y6]
            refine wpAnyH_take (i := 12) (v := ?_) rfl (by kernel_rfl) (by kernel_rfl) (by kernel_rfl) (fun _ _ _ h => h) (Or.inl ⟨by rfl, ?_⟩) hHeld ?_
            rotate_left
            · intro w' hSw
              (try dsimp only at hSw)
              go_simp
              try with_reducible rfl
            try simp only [Act.put, y1, y2, y3, y4, y5, y6]
            refine wpAnyH_take (i := 13) (v := ?_) rfl (by kernel_rfl) (by kernel_rfl) (by kernel_rfl) (fun _ _ _ h => h) (Or.inl ⟨by rfl, ?_⟩) hHeld ?_
            rotate_left
            · intro w' hSw
              (try dsimp only at hSw)
              go_simp
              try with_reducible rfl
            try simp only [Act.put, y1, y2, y3, y4, y5, y6]
            refine wpAnyH_take (i := 14) rfl (by kernel_rfl) (by kernel_rfl) (by kernel_rfl) (fun _ _ _ h => h) (yieldsIf_load_mid (by rfl) 22 (.tmp 3) rfl (c3) (0) rfl (vl 16 (f)) (.array 16 5) (fun _ h => h.1) Try.underlying22 rfl (vln _)) hHeld ?_
            try simp only [Act.put, y1, y2, y3, y4, y5, y6]
            refine wpAnyH_take (i := 17) rfl (by kernel_rfl) (by kernel_rfl) (by kernel_rfl) (fun _ _ _ h => h) (yieldsIf_load_mid (by rfl) 22 (.tmp 3) rfl (c3) (0) rfl (vl 16 (f)) (.array 16 5) (fun _ h => h.1) Try.underlying22 rfl (vln _)) hHeld ?_
            try simp only [Act.put, y1, y2, y3, y4, y5, y6]
            refine wpAnyH_ready (rs := [15]) (by kernel_rfl) (by simp) ?_
            refine AllReadyH.cons rfl (fun K hK => ?_) (AllReadyH.nil)
            try simp only [y1, y2, y3]
            go_simp
            refine (lone_any _).mono ?_
            rintro e w3 ⟨rfl, hb4⟩
            rw [aN_vl 16 (oneF)]
            have hw5 : Below u6.heap.size u6 w3 := hs2.trans (hb4.mono hs2.size)
            refine hK.out _ _ ?_ (fun hHeld => ?_)
            · exact ⟨range_kept (hw5) (row16_range X3.out), range_kept (hw5) (row16_range X4.out), range_kept (hw5) (row16_range X7.out), range_kept (hw5) (row16_range X8.out), range_kept (hw5) (row16_range X9.out), range_kept (hw5) (row16_range X10.out), range_kept (hw5) (row16_range X11.out), range_kept (hw5) (row16_range X12.out), range_kept (hw5) (row16_range X13.out), hw5⟩
            clear hK K
            try simp only [Act.put, y1, y2, y3, y4, y5, y6]
            clear hb4
            refine wpAnyH_ready (rs := [16]) (by kernel_rfl) (by simp) ?_
            refine AllReadyH.cons rfl (fun K hK => ?_) (AllReadyH.nil)
            try simp only [y1, y2, y3]
            go_simp
            refine (Co.out _).mono ?_
            rintro e w6 ⟨rfl, hb7⟩
            rw [aN_vl 16 (po)]
            have hw8 : Below u6.heap.size u6 w6 := hw5.trans (hb7.mono hw5.size)
            refine hK.out _ _ ?_ (fun hHeld => ?_)
            · exact ⟨range_kept (hw8) (row16_range X3.out), range_kept (hw8) (row16_range X4.out), range_kept (hw8) (row16_range X7.out), range_kept (hw8) (row16_range X8.out), range_kept (hw8) (row16_range X9.out), range_kept (hw8) (row16_range X10.out), range_kept (hw8) (row16_range X11.out), range_kept (hw8) (row16_range X12.out), range_kept (hw8) (row16_range X13.out), hw8⟩
            clear hK K
            try simp only [Act.put, y1, y2, y3, y4, y5, y6]
            clear hb7
            refine wpAnyH_take (i := 18) (v := ?_) rfl (by kernel_rfl) (by kernel_rfl) (by kernel_rfl) (fun _ _ _ h => h) (Or.inl ⟨by rfl, ?_⟩) hHeld ?_
            rotate_left
            · intro w' hSw
              (try dsimp only at hSw)
              go_simp
              try with_reducible rfl
            try simp only [Act.put, y1, y2, y3, y4, y5, y6]
            refine wpAnyH_take (i := 19) (v := ?_) rfl (by kernel_rfl) (by kernel_rfl) (by kernel_rfl) (fun _ _ _ h => h) (Or.inl ⟨by rfl, ?_⟩) hHeld ?_
            rotate_left
            · intro w' hSw
              (try dsimp only at hSw)
              go_simp
              try with_reducible rfl
            try simp only [Act.put, y1, y2, y3, y4, y5, y6]
            refine wpAnyH_take (i := 20) (v := ?_) rfl (by kernel_rfl) (by kernel_rfl) (by kernel_rfl) (fun _ _ _ h => h) (Or.inl ⟨by rfl, ?_⟩) hHeld ?_
            rotate_left
            · intro w' hSw
              (try dsimp only at hSw)
              go_simp
              try with_reducible rfl
            try simp only [Act.put, y1, y2, y3, y4, y5, y6]
            refine wpAnyH_take (i := 21) rfl (by kernel_rfl) (by kernel_rfl) (by kernel_rfl) (fun _ _ _ h => h) (yieldsIf_load_mid (by rfl) 22 (.tmp 13) rfl (b13) (0) rfl (vl 16 (pn)) (.array 16 5) (fun _ h => h.2.2.2.2.2.2.2.2.1) Try.underlying22 rfl (vln _)) hHeld ?_
            try simp only [Act.put, y1, y2, y3, y4, y5, y6]
            refine wpAnyH_take (i := 22) (v := ?_) rfl (by kernel_rfl) (by kernel_rfl) (by kernel_rfl) (fun _ _ _ h => h) (Or.inl ⟨by rfl, ?_⟩) hHeld ?_
            rotate_left
            · intro w' hSw
              (try dsimp only at hSw)
              go_simp
              try with_reducible rfl
            try simp only [Act.put, y1, y2, y3, y4, y5, y6]
            refine wpAnyH_take (i := 23) (v := ?_) rfl (by kernel_rfl) (by kernel_rfl) (by kernel_rfl) (fun _ _ _ h => h) (Or.inl ⟨by rfl, ?_⟩) hHeld ?_
            rotate_left
            · intro w' hSw
              (try dsimp only at hSw)
              go_simp
              try with_reducible rfl
            try simp only [Act.put, y1, y2, y3, y4, y5, y6]
            refine wpAnyH_take (i := 24) (v := ?_) rfl (by kernel_rfl) (by kernel_rfl) (by kernel_rfl) (fun _ _ _ h => h) (Or.inl ⟨by rfl, ?_⟩) hHeld ?_
            rotate_left
            · intro w' hSw
              (try dsimp only at hSw)
              go_simp
              try with_reducible rfl
            try simp only [Act.put, y1, y2, y3, y4, y5, y6]
            refine wpAnyH_take (i := 25) (v := ?_) rfl (by kernel_rfl) (by kernel_rfl) (by kernel_rfl) (fun _ _ _ h => h) (Or.inl ⟨by rfl, ?_⟩) hHeld ?_
            rotate_left
            · intro w' hSw
              (try dsimp only at hSw)
              go_simp
              try with_reducible rfl
            try simp only [Act.put, y1, y2, y3, y4, y5, y6]
            refine wpAnyH_take (i := 26) rfl (by kernel_rfl) (by kernel_rfl) (by kernel_rfl) (fun _ _ _ h => h) (yieldsIf_load_mid (by rfl) 22 (.tmp 7) rfl (b7) (0) rfl (vl 16 (pa)) (.array 16 5) (fun _ h => h.2.2.1) Try.underlying22 rfl (vln _)) hHeld ?_
            try simp only [Act.put, y1, y2, y3, y4, y5, y6]
            refine wpAnyH_take (i := 27) (v := ?_) rfl (by kernel_rfl) (by kernel_rfl) (by kernel_rfl) (fun _ _ _ h => h) (Or.inl ⟨by rfl, ?_⟩) hHeld ?_
            rotate_left
            · intro w' hSw
              (try dsimp only at hSw)
              go_simp
              try with_reducible rfl
            try simp only [Act.put, y1, y2, y3, y4, y5, y6]
            refine wpAnyH_take (i := 28) (v := ?_) rfl (by kernel_rfl) (by kernel_rfl) (by kernel_rfl) (fun _ _ _ h => h) (Or.inl ⟨by rfl, ?_⟩) hHeld ?_
            rotate_left
            · intro w' hSw
              (try dsimp only at hSw)
              go_simp
              try with_reducible rfl
            try simp only [Act.put, y1, y2, y3, y4, y5, y6]
            refine wpAnyH_take (i := 29) (v := ?_) rfl (by kernel_rfl) (by kernel_rfl) (by kernel_rfl) (fun _ _ _ h => h) (Or.inl ⟨by rfl, ?_⟩) hHeld ?_
            rotate_left
            · intro w' hSw
              (try dsimp only at hSw)
              go_simp
              try with_reducible rfl
            try simp only [Act.put, y1, y2, y3, y4, y5, y6]
            refine wpAnyH_take (i := 30) (v := undef) rfl (by kernel_rfl) (by kernel_rfl) (by kernel_rfl) (fun _ _ _ h => h) (Or.inr ⟨by rfl, rfl⟩) hHeld ?_
            try simp only [Act.put, y1, y2, y3, y4, y5, y6]
            refine wpAnyH_take (i := 31) (v := undef) rfl (by kernel_rfl) (by kernel_rfl) (by kernel_rfl) (fun _ _ _ h => h) (Or.inr ⟨by rfl, rfl⟩) hHeld ?_
            try simp only [Act.put, y1, y2, y3, y4, y5, y6]
            refine wpAnyH_take (i := 32) (v := undef) rfl (by kernel_rfl) (by kernel_rfl) (by kernel_rfl) (fun _ _ _ h => h) (Or.inr ⟨by rfl, rfl⟩) hHeld ?_
            try simp only [Act.put, y1, y2, y3, y4, y5, y6]
            refine wpAnyH_take (i := 33) (v := ?_) rfl (by kernel_rfl) (by kernel_rfl) (by kernel_rfl) (fun _ _ _ h => h) (Or.inl ⟨by rfl, ?_⟩) hHeld ?_
            rotate_left
            · intro w' hSw
              (try dsimp only at hSw)
              go_simp
              try with_reducible rfl
            try simp only [Act.put, y1, y2, y3, y4, y5, y6]
            refine wpAnyH_take (i := 34) (v := ?_) rfl (by kernel_rfl) (by kernel_rfl) (by kernel_rfl) (fun _ _ _ h => h) (Or.inl ⟨by rfl, ?_⟩) hHeld ?_
            rotate_left
            · intro w' hSw
              (try dsimp only at hSw)
              go_simp
              try with_reducible rfl
            try simp only [Act.put, y1, y2, y3, y4, y5, y6]
            refine wpAnyH_take (i := 35) (v := undef) rfl (by kernel_rfl) (by kernel_rfl) (by kernel_rfl) (fun _ _ _ h => h) (Or.inr ⟨by rfl, rfl⟩) hHeld ?_
            try simp only [Act.put, y1, y2, y3, y4, y5, y6]
            refine wpAnyH_take (i := 36) (v := undef) rfl (by kernel_rfl) (by kernel_rfl) (by kernel_rfl) (fun _ _ _ h => h) (Or.inr ⟨by rfl, rfl⟩) hHeld ?_
            try simp only [Act.put, y1, y2, y3, y4, y5, y6]
            refine wpAnyH_take (i := 37) (v := undef) rfl (by kernel_rfl) (by kernel_rfl) (by kernel_rfl) (fun _ _ _ h => h) (Or.inr ⟨by rfl, rfl⟩) hHeld ?_
            try simp only [Act.put, y1, y2, y3, y4, y5, y6]
            refine wpAnyH_take (i := 38) (v := ?_) rfl (by kernel_rfl) (by kernel_rfl) (by kernel_rfl) (fun _ _ _ h => h) (Or.inl ⟨by rfl, ?_⟩) hHeld ?_
            rotate_left
            · intro w' hSw
              (try dsimp only at hSw)
              go_simp
              try with_reducible rfl
            try simp only [Act.put, y1, y2, y3, y4, y5, y6]
            refine wpAnyH_take (i := 39) (v := ?_) rfl (by kernel_rfl) (by kernel_rfl) (by kernel_rfl) (fun _ _ _ h => h) (Or.inl ⟨by rfl, ?_⟩) hHeld ?_
            rotate_left
            · intro w' hSw
              (try dsimp only at hSw)
              go_simp
              try with_reducible rfl
            try simp only [Act.put, y1, y2, y3, y4, y5, y6]
            refine wpAnyH_take (i := 40) (v := ?_) rfl (by kernel_rfl) (by kernel_rfl) (by kernel_rfl) (fun _ _ _ h => h) (Or.inl ⟨by rfl, ?_⟩) hHeld ?_
            rotate_left
            · intro w' hSw
              (try dsimp only at hSw)
              go_simp
              try with_reducible rfl
            try simp only [Act.put, y1, y2, y3, y4, y5, y6]
            refine wpAnyH_ready (rs := [41]) (by kernel_rfl) (by simp) ?_
            refine AllReadyH.cons rfl (fun K hK => ?_) (AllReadyH.nil)
            try simp only [y1, y2, y3]
            go_simp
            refine (known04_any _).mono ?_
            rintro e w9 ⟨rfl, hb10⟩
            have hw11 : Below u6.heap.size u6 w9 := hw8.trans (hb10.mono hw8.size)
            refine hK.out _ _ ?_ (fun hHeld => ?_)
            · exact ⟨range_kept (hw11) (row16_range X3.out), range_kept (hw11) (row16_range X4.out), range_kept (hw11) (row16_range X7.out), range_kept (hw11) (row16_range X8.out), range_kept (hw11) (row16_range X9.out), range_kept (hw11) (row16_range X10.out), range_kept (hw11) (row16_range X11.out), range_kept (hw11) (row16_range X12.out), range_kept (hw11) (row16_range X13.out), hw11⟩
            clear hK K
            try simp only [Act.put, y1, y2, y3, y4, y5, y6]
            clear hb10
            refine wpAnyH_take (i := 42) (v := ?_) rfl (by kernel_rfl) (by kernel_rfl) (by kernel_rfl) (fun _ _ _ h => h) (Or.inl ⟨by rfl, ?_⟩) hHeld ?_
            rotate_left
            · intro w' hSw
              (try dsimp only at hSw)
              go_simp
              try with_reducible rfl
            try simp only [Act.put, y1, y2, y3, y4, y5, y6]
            refine wpAnyH_take (i := 43) (v := ?_) rfl (by kernel_rfl) (by kernel_rfl) (by kernel_rfl) (fun _ _ _ h => h) (Or.inl ⟨by rfl, ?_⟩) hHeld ?_
            rotate_left
            · intro w' hSw
              (try dsimp only at hSw)
              go_simp
              try with_reducible rfl
            try simp only [Act.put, y1, y2, y3, y4, y5, y6]
            refine wpAnyH_done (by kernel_rfl) ?_ _
            refine NoPanic.normal ?_
            go_wp2_with fail
            go_ret
            exact ⟨rfl, HB.out.trans (hw11.mono HB.out.size)⟩

set_option maxRecDepth 100000 in
theorem hfield_lifted (os : Os) (started : os.Started) (H : Type) (enc : TypeId × Value → H) :
    ReturnsInHanded {} Try.checked os 5 .any (Rows.ghashFieldSpec.pre6 enc Try.prog Try.f5 Rows.ghashFieldRow.domain false) (Rows.ghashFieldSpec.post enc Try.prog Try.f5 false true false false) := by
  refine returnsInHanded_of_change_sized (C := Try.checked) Try.own started (by kernel_rfl) Try.func5
    (ChangeSpec.witness6 (enc := enc) (C := Try.checked) false ⟨#[], #[.agg #[.int .u8 0, .int .u8 0, .int .u8 0, .int .u8 0, .int .u8 0, .int .u8 0, .int .u8 0, .int .u8 0, .int .u8 0, .int .u8 0, .int .u8 0, .int .u8 0, .int .u8 0, .int .u8 0, .int .u8 0, .int .u8 0], .agg #[.int .u8 0, .int .u8 0, .int .u8 0, .int .u8 0, .int .u8 0, .int .u8 0, .int .u8 0, .int .u8 0, .int .u8 0, .int .u8 0, .int .u8 0, .int .u8 0, .int .u8 0, .int .u8 0, .int .u8 0, .int .u8 0], .agg #[.int .u8 0, .int .u8 0, .int .u8 0, .int .u8 0, .int .u8 0, .int .u8 0, .int .u8 0, .int .u8 0, .int .u8 0, .int .u8 0, .int .u8 0, .int .u8 0, .int .u8 0, .int .u8 0, .int .u8 0, .int .u8 0]], []⟩ 8 (by kernel_rfl) (by kernel_rfl) (by kernel_rfl) (by kernel_rfl)) ?_
  intro W base args ds gs before hval0 hW _ hsz0 _
  have hsz : (DataW.weightsEach Try.prog (Try.f5.params.toList ++ Rows.ghashFieldSpec.plain.varTypes Try.prog) (ds ++ gs)).all (· ≤ reachBytes) = true := hsz0
  have hval : ∀ (j : Nat) t v, Try.f5.params[j]? = some t → args[j]? = some v → Value.okWide Try.prog W .any base t v := hval0
  have hW' := hW
  obtain ⟨p, q, hA0, hV, rfl, _, _⟩ := hW
  have hA : DataW.TrodAll enc Try.prog W 0 (fun _ => true) true Try.f5.params.toList args.toList ds p := hA0
  rw [Try.params5] at hA hval hsz
  have hlt := hW'.lt
  clear hA0 hval0 hsz0
  obtain ⟨v0, vs0, d0, ds0, p0, q0, hv0, rfl, rfl, h0, r0⟩ := trodAll_cons hA
  obtain ⟨v1, vs1, d1, ds1, p1, q1, hv1, rfl, rfl, h1, r1⟩ := trodAll_cons r0
  subst hv1
  obtain ⟨v2, vs2, d2, ds2, p2, q2, hv2, rfl, rfl, h2, r2⟩ := trodAll_cons r1
  subst hv2
  obtain ⟨rfl, rfl, rfl⟩ := trodAll_nil r2
  obtain rfl : args = #[v0, v1, v2] := by cases args; simp_all
  obtain ⟨rfl, rfl⟩ := trodVars_none hV
  obtain ⟨f0, rfl, u0⟩ := open_arr_u8 Try.underlying22 Try.underlying5 Try.cellsU8 (by kernel_rfl) (hval 0 22 v0 rfl rfl) h0
  obtain ⟨f1, rfl, u1⟩ := open_arr_u8 Try.underlying22 Try.underlying5 Try.cellsU8 (by kernel_rfl) (hval 1 22 v1 rfl rfl) h1
  obtain ⟨f2, rfl, u2⟩ := open_arr_u8 Try.underlying22 Try.underlying5 Try.cellsU8 (by kernel_rfl) (hval 2 22 v2 rfl rfl) h2
  refine (hfield_any f0 f1 f2 W u0 u1 u2).mono fun e W' ⟨he, hb⟩ => ⟨_, he, ?_⟩
  exact law_post 4 Try.underlying4 (by kernel_rfl) rfl Try.laidOut (by kernel_rfl) hW' ⟨rfl, rfl, rfl⟩ hb

theorem hfield_holds : Rows.GhashFieldSaid :=
  OpenClaim.holds_of_wide 5 Try.f5 rfl rfl rfl rfl rfl rfl rfl ⟨rfl, rfl, rfl, rfl, rfl⟩ rfl rfl rfl rfl rfl (by kernel_rfl) Try.func5 (by kernel_rfl)
    (of_decide_eq_true (by kernel_rfl)) (by unfold Func.isWrapper; first | (rw [if_pos (by decide +kernel)]; kernel_rfl) | (rw [if_neg (by decide +kernel)]; exact ⟨rfl, rfl⟩))
    (fun os started H enc _ => hfield_lifted os started H enc)
end Go.Proofs.Ytojdhcbfjiojdaa
