/-
  Noughts put behind a text change its sum by the lengths alone: GhashLengths, for every input.
-/
import Derived.Test.YtojdhcbfjiojdaaLaw
import Derived.Test.YtojdhcbfjiojdaaGhX
import Derived.Test.YtojdhcbfjiojdaaZeros
namespace Go.Proofs.Ytojdhcbfjiojdaa
open Go Go.RowKit Go.ChangeShapes Go.WideShapes Go.ChangeAt
set_option linter.unusedVariables false
set_option linter.unusedSimpArgs false

theorem lens_eq (K : Nat) (t : List Nat) : gS K [] t ^^^ gS K [] (fullN t) = hm (8 * t.length ^^^ 8 * (fullN t).length) K := by
  have hb : ((fullN t).length + 15) / 16 = (t.length + 15) / 16 := by rw [full_blocks]; omega
  have hl : ∀ n, gLen 0 n = 8 * n := fun n => by unfold gLen; omega
  rw [gS_nil, gS_nil, hb, hl, hl, gsum_congr K (fullN t) t _ (fun j k _ _ => gblk_full t j k), ← hm_add_l]
  rw [xor4, Nat.xor_self, Nat.zero_xor]
theorem xor_i64 (a b : Nat) (ha : a < 1000000) (hb : b < 1000000) : bits .xor .i64 (a : Int) (b : Int) = ((a ^^^ b : Nat) : Int) := by
  have h : bits .xor .i64 (a : Int) (b : Int) = IntKind.i64.wrap (((BitVec.ofInt 64 (a : Int) ^^^ BitVec.ofInt 64 (b : Int)).toNat : Nat) : Int) := rfl
  have hx : a ^^^ b < 2 ^ 20 := Nat.xor_lt_two_pow (by omega) (by omega)
  rw [h, BitVec.toNat_xor, bv_nat 64 a (by omega), bv_nat 64 b (by omega)]
  exact IntWalk.i64_in _ (by omega)
/-- The last s bytes of m. -/
def dK (m s j : Nat) : Nat := if 15 < j + s then hby m j else 0
theorem dK_end (m : Nat) (hm : m < 1048576) : E16 (dK m 8) (hby m) := fun j hj => by
  unfold dK
  by_cases h : 15 < j + 8
  · rw [if_pos h]
  · rw [if_neg h]
    unfold hby
    have h8 : 256 ^ 8 ≤ 256 ^ (15 - j) := Nat.pow_le_pow_right (by omega) (by omega)
    rw [Nat.div_eq_of_lt (Nat.lt_of_lt_of_le hm (Nat.le_trans (by decide) h8))]

set_option maxRecDepth 100000 in
set_option maxHeartbeats 20000000 in
theorem hlens_any (h : Nat → Nat) (A : Option Addr) (l : List UInt8) (n ca : Nat) (hn : l.length = n) (w : World) (hh : ∀ i, i < 16 → h i < 256) (hla : n ≤ 140737488351232) (hca : n ≤ ca) (h1 : Rd w w.heap.size A (vb l)) :
    Calls Try.prog 7 #[.agg (aN 16 h), .slice A n ca] w fun e w' => e = .returned (.bool true) ∧ Below w.heap.size w w' := by
  obtain ⟨j0, hi, hz0, hz1, hz2⟩ := info_parts info_b
  have HJ := Lib.hid (And.intro hi (And.intro hz0 (And.intro hz1 hz2))); clear hi hz0 hz1 hz2
  have hB : Below w.heap.size w (w.alloc (.cells (aN 16 h) 22)) := (Below.refl _ _).alloc (Nat.le_refl _) _
  have X2 : Hid (H16 (w.alloc (.cells (aN 16 h) 22)) w.heap.size h) := Lib.hid (H16.newAt rfl)
  have R1 := Lib.hid (h1.go hB); clear h1
  have HB := Lib.hid hB; clear hB
  have HH : Hid (B16 h) := Lib.hid hh; clear hh
  have HN := Lib.hid hn; clear hn
  by_cases hbig : 4000 < n
  · have i1 : (4000 : Int) < (n : Int) := by omega
    go_enter Try.func7, Try.ntmps7
    go_wp2_with fail
    refine (known04_any _).mono ?_
    rintro e w1 ⟨rfl, hb1⟩
    go_wp2_with fail
    go_ret
    exact ⟨rfl, HB.out.trans (hb1.mono HB.out.size)⟩
  · have i1 : ¬ (4000 : Int) < (n : Int) := by omega
    obtain ⟨lk, hlk⟩ : ∃ lk, lk = lackN n := ⟨_, rfl⟩
    have hlk16 : lk < 16 := by rw [hlk]; unfold lackN; omega
    have elk : (16 - (n : Int) % 16) % 16 = (lk : Int) := by rw [hlk]; unfold lackN; omega
    have HLK := Lib.hid hlk; clear hlk
    have HELK := Lib.hid elk; clear elk
    go_enter Try.func7, Try.ntmps7
    go_upto_region 4 with fail
    generalize w.alloc (.cells (aN 16 h) 22) = u1 at *
    obtain ⟨c2, hc2⟩ : ∃ c2, c2 = w.heap.size := ⟨_, rfl⟩
    rw [← hc2] at X2
    rw [← hc2]
    clear hc2
    rw [HELK.out]
    have ho0 : (u1.alloc (.cells #[] 5)).ownsRow u1.heap.size 5 1 (.slice (some ⟨u1.heap.size, 0, none⟩) 0 0) 0 [] := World.ownsRow_made u1 #[] 0 (Nat.le_refl _) (by unfold maxLen; omega) rfl
    have hb0 : Below u1.heap.size u1 (u1.alloc (.cells #[] 5)) := (Below.refl _ _).alloc (Nat.le_refl _) _
    have HO0 := Lib.hid ho0; clear ho0
    have RA0 := Lib.hid (R1.out.go hb0)
    have HB0 := Lib.hid hb0; clear hb0
    have hs0 : u1.heap.size ≤ (u1.alloc (.cells #[] 5)).heap.size := by simp
    go_wp2_with (first
      | (at_builtin; refine wpList_append_all rfl (.tmp 21) (.tmp 22) _ rfl u1.heap.size 5 j0 (.int .u8 0) 1 Try.underlying26 HJ.out.1 HJ.out.2.1 HJ.out.2.2.1 HJ.out.2.2.2 rfl (.slice (some ⟨u1.heap.size, 0, none⟩) 0 0) 0 [] rfl HO0.out A n ca (vb l) rfl (by simpa using HN.out) RA0.out (vb_onec l) (by unfold maxLen; omega) (by omega) hs0 ?_; intro v2 w2 ho2 hb2 hg2; obtain ⟨v4, w4, hr4, ho4, hg4⟩ := run_zeros_own (P := Try.prog) w2 26 3 26 5 j0 (.int .u8 0) .i64 .i64 Try.underlying26 Try.underlying3 HJ.out.1 HJ.out.2.1 HJ.out.2.2.1 HJ.out.2.2.2 rfl rfl u1.heap.size v2 (0 + n) ([] ++ vb l) ho2.out lk (by omega) (Nat.le_trans hs0 hb2.out.size))
      | (at_builtin; refine Lib.wpList_append_run _ rfl (.tmp 23) (.tmp 24) 26 3 rfl v2 (.int .i64 (lk : Int)) rfl rfl v4 w4 hr4 ?_))
    have hbb : Below u1.heap.size u1 w4 := (HB0.out.trans hb2.out).grown hg4 (Nat.le_trans hs0 hb2.out.size) (fun k hk => (ho2.out.lt k hk).1)
    obtain ⟨n2, hn2⟩ : ∃ n2, n2 = 0 + n + lk := ⟨_, rfl⟩
    rw [← hn2] at ho4
    obtain ⟨A6, c6, rfl, _, r6⟩ := Rd.of_own ho4
    have hc6 := own_cap ho4
    have e6 : ([] ++ vb l) ++ List.replicate lk (.int .u8 0) = vn (fullN (nm l)) := by
      unfold fullN nm
      rw [List.length_map, HN.out, ← HLK.out, List.nil_append, vb_vn]
      simp [vn]
    rw [e6] at r6
    have R6 := Lib.hid r6; clear r6 e6
    have hl2 : (fullN (nm l)).length = n2 := by rw [fullN_len, List.length_map, HN.out, ← HLK.out, hn2]; omega
    have hn2b : n2 ≤ 4100 := by omega
    have HN2 := Lib.hid hn2; clear hn2
    have HL2 := Lib.hid hl2; clear hl2
    replace X2 : Hid (H16 w4 c2 h) := Lib.hid (X2.out.below hbb X2.out.lt)
    replace R1 : Hid (Rd w4 w4.heap.size A (vb l)) := Lib.hid (R1.out.go hbb)
    replace HB : Hid (Below w.heap.size w w4) := Lib.hid (HB.out.trans (hbb.mono HB.out.size))
    clear hbb ho4 hg4 ho2 hb2 hg2 hr4 HO0 RA0 HB0 hs0
    obtain ⟨u5, rfl⟩ : ∃ u5 : World, u5 = w4 := ⟨_, rfl⟩
    try clear w2
    obtain ⟨m0, hm0⟩ : ∃ m0, m0 = 8 * n ^^^ 8 * n2 := ⟨_, rfl⟩
    have hm0b : m0 < 1048576 := by rw [hm0]; exact Nat.xor_lt_two_pow (n := 20) (by omega) (by omega)
    have hxm : bits .xor .i64 ((8 * n : Nat) : Int) ((8 * n2 : Nat) : Int) = (m0 : Int) := by rw [hm0]; exact xor_i64 _ _ (by omega) (by omega)
    obtain ⟨px, hpx⟩ : ∃ F : Nat → Nat, F = hby (gS (hof h) [] (nm l)) := ⟨_, rfl⟩
    have Cpx : Hid (∀ W : World, Rd W W.heap.size (A) (vb l) → Calls Try.prog 12 #[.agg (aN 16 h), .slice none 0 0, .slice (A) n ca] W fun e w' => e = .returned (.agg (aN 16 px)) ∧ Below W.heap.size W w') := Lib.hid fun W hr => by
      rw [hpx]
      exact csum_any h HH.out none (A) [] (nm l) 0 n 0 ca rfl (by simpa using HN.out) (fun _ h => by cases h) (vb_lt l) (by omega) (by omega) (by omega) (by omega) W (Rd.nil _ _ _) (by rw [← vb_vn]; exact hr)
    have Lpx : Hid (B16 px) := Lib.hid (by rw [hpx]; exact fun i _ => hby_lt _ i)
    obtain ⟨py, hpy⟩ : ∃ F : Nat → Nat, F = hby (gS (hof h) [] (fullN (nm l))) := ⟨_, rfl⟩
    have Cpy : Hid (∀ W : World, Rd W W.heap.size A6 (vn (fullN (nm l))) → Calls Try.prog 12 #[.agg (aN 16 h), .slice none 0 0, .slice A6 n2 c6] W fun e w' => e = .returned (.agg (aN 16 py)) ∧ Below W.heap.size W w') := Lib.hid fun W hr => by
      rw [hpy]
      exact csum_any h HH.out none A6 [] (fullN (nm l)) 0 n2 0 c6 rfl HL2.out (fun _ h => by cases h) (fun x hx => by
        unfold fullN at hx
        rcases List.mem_append.mp hx with hx | hx
        · exact vb_lt l x hx
        · rw [List.mem_replicate] at hx; omega) (by omega) hc6 (by omega) (by omega) W (Rd.nil _ _ _) hr
    have Lpy : Hid (B16 py) := Lib.hid (by rw [hpy]; exact fun i _ => hby_lt _ i)
    obtain ⟨pd, hpd⟩ : ∃ F : Nat → Nat, F = hby m0 := ⟨_, rfl⟩
    have Lpd : Hid (B16 pd) := Lib.hid (by rw [hpd]; exact fun i _ => hby_lt _ i)
    obtain ⟨pm, hpm⟩ : ∃ F : Nat → Nat, F = hby (hm (hof pd) (hof h)) := ⟨_, rfl⟩
    have Cpm : Hid (∀ W : World, Calls Try.prog 8 #[.agg (aN 16 pd), .agg (aN 16 h)] W fun e w' => e = .returned (.agg (aN 16 pm)) ∧ Below W.heap.size W w') := Lib.hid fun W => by rw [hpm]; exact cmul_any pd h W Lpd.out HH.out
    have hq := eqv (fun i => px i ^^^ py i) pm true (sameB_true fun i _ => by
      show px i ^^^ py i = pm i
      rw [hpx, hpy, hpm, hpd, ← hby_xor, lens_eq, HL2.out, show (nm l).length = n from by rw [List.length_map, HN.out], ← hm0, hby_hof m0 (Nat.lt_of_lt_of_le hm0b (by decide))])
    have HPD := Lib.hid hpd
    have HM0 := Lib.hid hm0b
    have hg16 := guard16
    clear hpx hpy hpm hpd hm0 hm0b
    go_cut [7, 8] (fun s7 s8 wx => ∃ b7 b8 : Nat, s7 = .pointer (some ⟨b7, 0, none⟩) ∧ s8 = .pointer (some ⟨b8, 0, none⟩) ∧ Hid (H16 wx b7 (px)) ∧ Hid (H16 wx b8 (py)) ∧ Hid (Below u5.heap.size u5 wx))
    case first =>
      refine wp_region_noPanic ?_
      refine wp_region_held_drew (S := (fun w' => w'.rangeAt (c2) 0 (vl 16 (h)) ∧ Below u5.heap.size u5 w')) (by kernel_rfl) ?_ (fun hHeld => ?_)
      · exact ⟨range_kept ((Below.refl u5.heap.size u5).drew) (row16_range X2.out), (Below.refl u5.heap.size u5).drew⟩
      have hs2 : Below u5.heap.size u5 u5.drew := (Below.refl u5.heap.size u5).drew
      generalize u5.drew = ws1 at *
      refine wpAnyH_take (i := 0) rfl (by kernel_rfl) (by kernel_rfl) (by kernel_rfl) (fun _ _ _ h => h) (yieldsIf_load_mid (by rfl) 22 (.tmp 2) rfl (c2) (0) rfl (vl 16 (h)) (.array 16 5) (fun _ h => h.1) Try.underlying22 rfl (vln _)) hHeld ?_
      try simp only [Act.put, y1, y2, y3, y4, y5, y6]
      refine wpAnyH_take (i := 1) (v := ?_) rfl (by kernel_rfl) (by kernel_rfl) (by kernel_rfl) (fun _ _ _ h => h) (Or.inl ⟨by rfl, ?_⟩) hHeld ?_
      rotate_left
      · intro w' hSw
        (try dsimp only at hSw)
        go_simp
        try with_reducible rfl
      try simp only [Act.put, y1, y2, y3, y4, y5, y6]
      refine wpAnyH_take (i := 3) rfl (by kernel_rfl) (by kernel_rfl) (by kernel_rfl) (fun _ _ _ h => h) (yieldsIf_load_mid (by rfl) 22 (.tmp 2) rfl (c2) (0) rfl (vl 16 (h)) (.array 16 5) (fun _ h => h.1) Try.underlying22 rfl (vln _)) hHeld ?_
      try simp only [Act.put, y1, y2, y3, y4, y5, y6]
      refine wpAnyH_take (i := 4) (v := ?_) rfl (by kernel_rfl) (by kernel_rfl) (by kernel_rfl) (fun _ _ _ h => h) (Or.inl ⟨by rfl, ?_⟩) hHeld ?_
      rotate_left
      · intro w' hSw
        (try dsimp only at hSw)
        go_simp
        try with_reducible rfl
      try simp only [Act.put, y1, y2, y3, y4, y5, y6]
      refine wpAnyH_ready (rs := [2, 6, 7]) (by kernel_rfl) (by simp) ?_
      refine AllReadyH.cons rfl (fun K hK => ?_) (AllReadyH.cons rfl (fun K hK => ?_) (AllReadyH.cons rfl (fun K hK => ?_) (AllReadyH.nil)))
      · try simp only [y1, y2, y3]
        go_simp
        refine (Cpx.out _ (R1.out.go hs2)).mono ?_
        rintro e w3 ⟨rfl, hb4⟩
        rw [aN_vl 16 (px)]
        have hw5 : Below u5.heap.size u5 w3 := hs2.trans (hb4.mono hs2.size)
        refine hK.out _ _ ?_ (fun hHeld => ?_)
        · exact ⟨range_kept (hw5) (row16_range X2.out), hw5⟩
        clear hK K
        try simp only [Act.put, y1, y2, y3, y4, y5, y6]
        clear hb4
        refine wpAnyH_ready (rs := [5, 6, 7]) (by kernel_rfl) (by simp) ?_
        refine AllReadyH.cons rfl (fun K hK => ?_) (AllReadyH.cons rfl (fun K hK => ?_) (AllReadyH.cons rfl (fun K hK => ?_) (AllReadyH.nil)))
        · try simp only [y1, y2, y3]
          go_simp
          refine (Cpy.out _ (R6.out.go hw5)).mono ?_
          rintro e w6 ⟨rfl, hb7⟩
          rw [aN_vl 16 (py)]
          have hw8 : Below u5.heap.size u5 w6 := hw5.trans (hb7.mono hw5.size)
          refine hK.out _ _ ?_ (fun hHeld => ?_)
          · exact ⟨range_kept (hw8) (row16_range X2.out), hw8⟩
          clear hK K
          try simp only [Act.put, y1, y2, y3, y4, y5, y6]
          clear hb7
          refine wpAnyH_ready (rs := [6, 7]) (by kernel_rfl) (by simp) ?_
          refine AllReadyH.cons rfl (fun K hK => ?_) (AllReadyH.cons rfl (fun K hK => ?_) (AllReadyH.nil))
          · try simp only [y1, y2, y3]
            go_simp
            have hw10 : Below u5.heap.size u5 (w6.alloc zO) := hw8.alloc hw8.size _
            have hz11 : H16 (w6.alloc zO) w6.heap.size fun _ => 0 := new_h w6
            have hl13 : u5.heap.size ≤ w6.heap.size := hw8.size
            refine hK.out _ _ ?_ (fun hHeld => ?_)
            · exact ⟨range_kept (hw10) (row16_range X2.out), hw10⟩
            clear hK K
            try simp only [Act.put, y1, y2, y3, y4, y5, y6]
            generalize w6.alloc zO = w9 at *
            generalize w6.heap.size = b12 at *
            refine wpAnyH_ready (rs := [7]) (by kernel_rfl) (by simp) ?_
            refine AllReadyH.cons rfl (fun K hK => ?_) (AllReadyH.nil)
            try simp only [y1, y2, y3]
            go_simp
            have hw15 : Below u5.heap.size u5 (w9.alloc zO) := hw10.alloc hw10.size _
            have hz16 : H16 (w9.alloc zO) w9.heap.size fun _ => 0 := new_h w9
            have hl18 : u5.heap.size ≤ w9.heap.size := hw10.size
            have hz19 := H16.alloc zO hz11
            have hne20 : b12 < w9.heap.size := hz11.lt
            refine hK.out _ _ ?_ (fun hHeld => ?_)
            · exact ⟨range_kept (hw15) (row16_range X2.out), hw15⟩
            clear hK K
            try simp only [Act.put, y1, y2, y3, y4, y5, y6]
            generalize w9.alloc zO = w14 at *
            generalize w9.heap.size = b17 at *
            refine wpAnyH_ready (rs := [8]) (by kernel_rfl) (by simp) ?_
            refine AllReadyH.cons rfl (fun K hK => ?_) (AllReadyH.nil)
            try simp only [y1, y2, y3]
            rw [if_pos (by rfl)]
            refine wp_store_mid 22 (.tmp 7) (.tmp 28) rfl (b12) (0) (vl 16 (px)).toArray rfl rfl (H16.there hz19) (vsz _) (von _) ?_
            simp only [Act.put, y1, y2, y3, y4, y5, y6, List.toList_toArray]
            have hw22 : Below u5.heap.size u5 (w14.setCells b12 0 (vl 16 (px))) := below_store hw15 (by omega) _ 0
            have hz23 : H16 (w14.setCells b12 0 (vl 16 (px))) b12 (px) := H16.store hz19 _
            have hz24 : H16 (w14.setCells b12 0 (vl 16 (px))) b17 _ := H16.storeOther hz16 (by omega) _
            refine hK.out _ _ ?_ (fun hHeld => ?_)
            · exact ⟨range_kept (hw22) (row16_range X2.out), hw22⟩
            clear hK K
            try simp only [Act.put, y1, y2, y3, y4, y5, y6]
            generalize w14.setCells b12 0 (vl 16 (px)) = w21 at *
            refine wpAnyH_ready (rs := [9]) (by kernel_rfl) (by simp) ?_
            refine AllReadyH.cons rfl (fun K hK => ?_) (AllReadyH.nil)
            try simp only [y1, y2, y3]
            rw [if_pos (by rfl)]
            refine wp_store_mid 22 (.tmp 8) (.tmp 31) rfl (b17) (0) (vl 16 (py)).toArray rfl rfl (H16.there hz24) (vsz _) (von _) ?_
            simp only [Act.put, y1, y2, y3, y4, y5, y6, List.toList_toArray]
            have hw26 : Below u5.heap.size u5 (w21.setCells b17 0 (vl 16 (py))) := below_store hw22 (by omega) _ 0
            have hz27 : H16 (w21.setCells b17 0 (vl 16 (py))) b17 (py) := H16.store hz24 _
            have hz28 : H16 (w21.setCells b17 0 (vl 16 (py))) b12 _ := H16.storeOther hz23 (by omega) _
            refine hK.out _ _ ?_ (fun hHeld => ?_)
            · exact ⟨range_kept (hw26) (row16_range X2.out), hw26⟩
            clear hK K
            try simp only [Act.put, y1, y2, y3, y4, y5, y6]
            generalize w21.setCells b17 0 (vl 16 (py)) = w25 at *
            refine wpAnyH_done (by kernel_rfl) ?_ _
            refine NoPanic.normal ?_
            go_wp2_with fail
            go_meet
            refine ⟨_, _, rfl, rfl, Lib.hid hz28, Lib.hid hz27, Lib.hid hw26⟩
          · try simp only [y1, y2, y3]
            go_simp
            have hw30 : Below u5.heap.size u5 (w6.alloc zO) := hw8.alloc hw8.size _
            have hz31 : H16 (w6.alloc zO) w6.heap.size fun _ => 0 := new_h w6
            have hl33 : u5.heap.size ≤ w6.heap.size := hw8.size
            refine hK.out _ _ ?_ (fun hHeld => ?_)
            · exact ⟨range_kept (hw30) (row16_range X2.out), hw30⟩
            clear hK K
            try simp only [Act.put, y1, y2, y3, y4, y5, y6]
            generalize w6.alloc zO = w29 at *
            generalize w6.heap.size = b32 at *
            refine wpAnyH_ready (rs := [6]) (by kernel_rfl) (by simp) ?_
            refine AllReadyH.cons rfl (fun K hK => ?_) (AllReadyH.nil)
            try simp only [y1, y2, y3]
            go_simp
            have hw35 : Below u5.heap.size u5 (w29.alloc zO) := hw30.alloc hw30.size _
            have hz36 : H16 (w29.alloc zO) w29.heap.size fun _ => 0 := new_h w29
            have hl38 : u5.heap.size ≤ w29.heap.size := hw30.size
            have hz39 := H16.alloc zO hz31
            have hne40 : b32 < w29.heap.size := hz31.lt
            refine hK.out _ _ ?_ (fun hHeld => ?_)
            · exact ⟨range_kept (hw35) (row16_range X2.out), hw35⟩
            clear hK K
            try simp only [Act.put, y1, y2, y3, y4, y5, y6]
            generalize w29.alloc zO = w34 at *
            generalize w29.heap.size = b37 at *
            refine wpAnyH_ready (rs := [8]) (by kernel_rfl) (by simp) ?_
            refine AllReadyH.cons rfl (fun K hK => ?_) (AllReadyH.nil)
            try simp only [y1, y2, y3]
            rw [if_pos (by rfl)]
            refine wp_store_mid 22 (.tmp 7) (.tmp 28) rfl (b37) (0) (vl 16 (px)).toArray rfl rfl (H16.there hz36) (vsz _) (von _) ?_
            simp only [Act.put, y1, y2, y3, y4, y5, y6, List.toList_toArray]
            have hw42 : Below u5.heap.size u5 (w34.setCells b37 0 (vl 16 (px))) := below_store hw35 (by omega) _ 0
            have hz43 : H16 (w34.setCells b37 0 (vl 16 (px))) b37 (px) := H16.store hz36 _
            have hz44 : H16 (w34.setCells b37 0 (vl 16 (px))) b32 _ := H16.storeOther hz39 (by omega) _
            refine hK.out _ _ ?_ (fun hHeld => ?_)
            · exact ⟨range_kept (hw42) (row16_range X2.out), hw42⟩
            clear hK K
            try simp only [Act.put, y1, y2, y3, y4, y5, y6]
            generalize w34.setCells b37 0 (vl 16 (px)) = w41 at *
            refine wpAnyH_ready (rs := [9]) (by kernel_rfl) (by simp) ?_
            refine AllReadyH.cons rfl (fun K hK => ?_) (AllReadyH.nil)
            try simp only [y1, y2, y3]
            rw [if_pos (by rfl)]
            refine wp_store_mid 22 (.tmp 8) (.tmp 31) rfl (b32) (0) (vl 16 (py)).toArray rfl rfl (H16.there hz44) (vsz _) (von _) ?_
            simp only [Act.put, y1, y2, y3, y4, y5, y6, List.toList_toArray]
            have hw46 : Below u5.heap.size u5 (w41.setCells b32 0 (vl 16 (py))) := below_store hw42 (by omega) _ 0
            have hz47 : H16 (w41.setCells b32 0 (vl 16 (py))) b32 (py) := H16.store hz44 _
            have hz48 : H16 (w41.setCells b32 0 (vl 16 (py))) b37 _ := H16.storeOther hz43 (by omega) _
            refine hK.out _ _ ?_ (fun hHeld => ?_)
            · exact ⟨range_kept (hw46) (row16_range X2.out), hw46⟩
            clear hK K
            try simp only [Act.put, y1, y2, y3, y4, y5, y6]
            generalize w41.setCells b32 0 (vl 16 (py)) = w45 at *
            refine wpAnyH_done (by kernel_rfl) ?_ _
            refine NoPanic.normal ?_
            go_wp2_with fail
            go_meet
            refine ⟨_, _, rfl, rfl, Lib.hid hz48, Lib.hid hz47, Lib.hid hw46⟩
        · try simp only [y1, y2, y3]
          go_simp
          have hw50 : Below u5.heap.size u5 (w3.alloc zO) := hw5.alloc hw5.size _
          have hz51 : H16 (w3.alloc zO) w3.heap.size fun _ => 0 := new_h w3
          have hl53 : u5.heap.size ≤ w3.heap.size := hw5.size
          refine hK.out _ _ ?_ (fun hHeld => ?_)
          · exact ⟨range_kept (hw50) (row16_range X2.out), hw50⟩
          clear hK K
          try simp only [Act.put, y1, y2, y3, y4, y5, y6]
          generalize w3.alloc zO = w49 at *
          generalize w3.heap.size = b52 at *
          refine wpAnyH_ready (rs := [5, 7]) (by kernel_rfl) (by simp) ?_
          refine AllReadyH.cons rfl (fun K hK => ?_) (AllReadyH.cons rfl (fun K hK => ?_) (AllReadyH.nil))
          · try simp only [y1, y2, y3]
            go_simp
            refine (Cpy.out _ (R6.out.go hw50)).mono ?_
            rintro e w54 ⟨rfl, hb55⟩
            rw [aN_vl 16 (py)]
            have hw56 : Below u5.heap.size u5 w54 := hw50.trans (hb55.mono hw50.size)
            have hz57 := H16.call hb55 hz51
            refine hK.out _ _ ?_ (fun hHeld => ?_)
            · exact ⟨range_kept (hw56) (row16_range X2.out), hw56⟩
            clear hK K
            try simp only [Act.put, y1, y2, y3, y4, y5, y6]
            clear hb55
            refine wpAnyH_ready (rs := [7]) (by kernel_rfl) (by simp) ?_
            refine AllReadyH.cons rfl (fun K hK => ?_) (AllReadyH.nil)
            try simp only [y1, y2, y3]
            go_simp
            have hw59 : Below u5.heap.size u5 (w54.alloc zO) := hw56.alloc hw56.size _
            have hz60 : H16 (w54.alloc zO) w54.heap.size fun _ => 0 := new_h w54
            have hl62 : u5.heap.size ≤ w54.heap.size := hw56.size
            have hz63 := H16.alloc zO hz57
            have hne64 : b52 < w54.heap.size := hz57.lt
            refine hK.out _ _ ?_ (fun hHeld => ?_)
            · exact ⟨range_kept (hw59) (row16_range X2.out), hw59⟩
            clear hK K
            try simp only [Act.put, y1, y2, y3, y4, y5, y6]
            generalize w54.alloc zO = w58 at *
            generalize w54.heap.size = b61 at *
            refine wpAnyH_ready (rs := [8]) (by kernel_rfl) (by simp) ?_
            refine AllReadyH.cons rfl (fun K hK => ?_) (AllReadyH.nil)
            try simp only [y1, y2, y3]
            rw [if_pos (by rfl)]
            refine wp_store_mid 22 (.tmp 7) (.tmp 28) rfl (b52) (0) (vl 16 (px)).toArray rfl rfl (H16.there hz63) (vsz _) (von _) ?_
            simp only [Act.put, y1, y2, y3, y4, y5, y6, List.toList_toArray]
            have hw66 : Below u5.heap.size u5 (w58.setCells b52 0 (vl 16 (px))) := below_store hw59 (by omega) _ 0
            have hz67 : H16 (w58.setCells b52 0 (vl 16 (px))) b52 (px) := H16.store hz63 _
            have hz68 : H16 (w58.setCells b52 0 (vl 16 (px))) b61 _ := H16.storeOther hz60 (by omega) _
            refine hK.out _ _ ?_ (fun hHeld => ?_)
            · exact ⟨range_kept (hw66) (row16_range X2.out), hw66⟩
            clear hK K
            try simp only [Act.put, y1, y2, y3, y4, y5, y6]
            generalize w58.setCells b52 0 (vl 16 (px)) = w65 at *
            refine wpAnyH_ready (rs := [9]) (by kernel_rfl) (by simp) ?_
            refine AllReadyH.cons rfl (fun K hK => ?_) (AllReadyH.nil)
            try simp only [y1, y2, y3]
            rw [if_pos (by rfl)]
            refine wp_store_mid 22 (.tmp 8) (.tmp 31) rfl (b61) (0) (vl 16 (py)).toArray rfl rfl (H16.there hz68) (vsz _) (von _) ?_
            simp only [Act.put, y1, y2, y3, y4, y5, y6, List.toList_toArray]
            have hw70 : Below u5.heap.size u5 (w65.setCells b61 0 (vl 16 (py))) := below_store hw66 (by omega) _ 0
            have hz71 : H16 (w65.setCells b61 0 (vl 16 (py))) b61 (py) := H16.store hz68 _
            have hz72 : H16 (w65.setCells b61 0 (vl 16 (py))) b52 _ := H16.storeOther hz67 (by omega) _
            refine hK.out _ _ ?_ (fun hHeld => ?_)
            · exact ⟨range_kept (hw70) (row16_range X2.out), hw70⟩
            clear hK K
            try simp only [Act.put, y1, y2, y3, y4, y5, y6]
            generalize w65.setCells b61 0 (vl 16 (py)) = w69 at *
            refine wpAnyH_done (by kernel_rfl) ?_ _
            refine NoPanic.normal ?_
            go_wp2_with fail
            go_meet
            refine ⟨_, _, rfl, rfl, Lib.hid hz72, Lib.hid hz71, Lib.hid hw70⟩
          · try simp only [y1, y2, y3]
            go_simp
            have hw74 : Below u5.heap.size u5 (w49.alloc zO) := hw50.alloc hw50.size _
            have hz75 : H16 (w49.alloc zO) w49.heap.size fun _ => 0 := new_h w49
            have hl77 : u5.heap.size ≤ w49.heap.size := hw50.size
            have hz78 := H16.alloc zO hz51
            have hne79 : b52 < w49.heap.size := hz51.lt
            refine hK.out _ _ ?_ (fun hHeld => ?_)
            · exact ⟨range_kept (hw74) (row16_range X2.out), hw74⟩
            clear hK K
            try simp only [Act.put, y1, y2, y3, y4, y5, y6]
            generalize w49.alloc zO = w73 at *
            generalize w49.heap.size = b76 at *
            refine wpAnyH_ready (rs := [5]) (by kernel_rfl) (by simp) ?_
            refine AllReadyH.cons rfl (fun K hK => ?_) (AllReadyH.nil)
            try simp only [y1, y2, y3]
            go_simp
            refine (Cpy.out _ (R6.out.go hw74)).mono ?_
            rintro e w80 ⟨rfl, hb81⟩
            rw [aN_vl 16 (py)]
            have hw82 : Below u5.heap.size u5 w80 := hw74.trans (hb81.mono hw74.size)
            have hz83 := H16.call hb81 hz78
            have hz84 := H16.call hb81 hz75
            refine hK.out _ _ ?_ (fun hHeld => ?_)
            · exact ⟨range_kept (hw82) (row16_range X2.out), hw82⟩
            clear hK K
            try simp only [Act.put, y1, y2, y3, y4, y5, y6]
            clear hb81
            refine wpAnyH_ready (rs := [8]) (by kernel_rfl) (by simp) ?_
            refine AllReadyH.cons rfl (fun K hK => ?_) (AllReadyH.nil)
            try simp only [y1, y2, y3]
            rw [if_pos (by rfl)]
            refine wp_store_mid 22 (.tmp 7) (.tmp 28) rfl (b52) (0) (vl 16 (px)).toArray rfl rfl (H16.there hz83) (vsz _) (von _) ?_
            simp only [Act.put, y1, y2, y3, y4, y5, y6, List.toList_toArray]
            have hw86 : Below u5.heap.size u5 (w80.setCells b52 0 (vl 16 (px))) := below_store hw82 (by omega) _ 0
            have hz87 : H16 (w80.setCells b52 0 (vl 16 (px))) b52 (px) := H16.store hz83 _
            have hz88 : H16 (w80.setCells b52 0 (vl 16 (px))) b76 _ := H16.storeOther hz84 (by omega) _
            refine hK.out _ _ ?_ (fun hHeld => ?_)
            · exact ⟨range_kept (hw86) (row16_range X2.out), hw86⟩
            clear hK K
            try simp only [Act.put, y1, y2, y3, y4, y5, y6]
            generalize w80.setCells b52 0 (vl 16 (px)) = w85 at *
            refine wpAnyH_ready (rs := [9]) (by kernel_rfl) (by simp) ?_
            refine AllReadyH.cons rfl (fun K hK => ?_) (AllReadyH.nil)
            try simp only [y1, y2, y3]
            rw [if_pos (by rfl)]
            refine wp_store_mid 22 (.tmp 8) (.tmp 31) rfl (b76) (0) (vl 16 (py)).toArray rfl rfl (H16.there hz88) (vsz _) (von _) ?_
            simp only [Act.put, y1, y2, y3, y4, y5, y6, List.toList_toArray]
            have hw90 : Below u5.heap.size u5 (w85.setCells b76 0 (vl 16 (py))) := below_store hw86 (by omega) _ 0
            have hz91 : H16 (w85.setCells b76 0 (vl 16 (py))) b76 (py) := H16.store hz88 _
            have hz92 : H16 (w85.setCells b76 0 (vl 16 (py))) b52 _ := H16.storeOther hz87 (by omega) _
            refine hK.out _ _ ?_ (fun hHeld => ?_)
            · exact ⟨range_kept (hw90) (row16_range X2.out), hw90⟩
            clear hK K
            try simp only [Act.put, y1, y2, y3, y4, y5, y6]
            generalize w85.setCells b76 0 (vl 16 (py)) = w89 at *
            refine wpAnyH_done (by kernel_rfl) ?_ _
            refine NoPanic.normal ?_
            go_wp2_with fail
            go_meet
            refine ⟨_, _, rfl, rfl, Lib.hid hz92, Lib.hid hz91, Lib.hid hw90⟩
        · try simp only [y1, y2, y3]
          go_simp
          have hw94 : Below u5.heap.size u5 (w3.alloc zO) := hw5.alloc hw5.size _
          have hz95 : H16 (w3.alloc zO) w3.heap.size fun _ => 0 := new_h w3
          have hl97 : u5.heap.size ≤ w3.heap.size := hw5.size
          refine hK.out _ _ ?_ (fun hHeld => ?_)
          · exact ⟨range_kept (hw94) (row16_range X2.out), hw94⟩
          clear hK K
          try simp only [Act.put, y1, y2, y3, y4, y5, y6]
          generalize w3.alloc zO = w93 at *
          generalize w3.heap.size = b96 at *
          refine wpAnyH_ready (rs := [5, 6]) (by kernel_rfl) (by simp) ?_
          refine AllReadyH.cons rfl (fun K hK => ?_) (AllReadyH.cons rfl (fun K hK => ?_) (AllReadyH.nil))
          · try simp only [y1, y2, y3]
            go_simp
            refine (Cpy.out _ (R6.out.go hw94)).mono ?_
            rintro e w98 ⟨rfl, hb99⟩
            rw [aN_vl 16 (py)]
            have hw100 : Below u5.heap.size u5 w98 := hw94.trans (hb99.mono hw94.size)
            have hz101 := H16.call hb99 hz95
            refine hK.out _ _ ?_ (fun hHeld => ?_)
            · exact ⟨range_kept (hw100) (row16_range X2.out), hw100⟩
            clear hK K
            try simp only [Act.put, y1, y2, y3, y4, y5, y6]
            clear hb99
            refine wpAnyH_ready (rs := [6]) (by kernel_rfl) (by simp) ?_
            refine AllReadyH.cons rfl (fun K hK => ?_) (AllReadyH.nil)
            try simp only [y1, y2, y3]
            go_simp
            have hw103 : Below u5.heap.size u5 (w98.alloc zO) := hw100.alloc hw100.size _
            have hz104 : H16 (w98.alloc zO) w98.heap.size fun _ => 0 := new_h w98
            have hl106 : u5.heap.size ≤ w98.heap.size := hw100.size
            have hz107 := H16.alloc zO hz101
            have hne108 : b96 < w98.heap.size := hz101.lt
            refine hK.out _ _ ?_ (fun hHeld => ?_)
            · exact ⟨range_kept (hw103) (row16_range X2.out), hw103⟩
            clear hK K
            try simp only [Act.put, y1, y2, y3, y4, y5, y6]
            generalize w98.alloc zO = w102 at *
            generalize w98.heap.size = b105 at *
            refine wpAnyH_ready (rs := [8]) (by kernel_rfl) (by simp) ?_
            refine AllReadyH.cons rfl (fun K hK => ?_) (AllReadyH.nil)
            try simp only [y1, y2, y3]
            rw [if_pos (by rfl)]
            refine wp_store_mid 22 (.tmp 7) (.tmp 28) rfl (b105) (0) (vl 16 (px)).toArray rfl rfl (H16.there hz104) (vsz _) (von _) ?_
            simp only [Act.put, y1, y2, y3, y4, y5, y6, List.toList_toArray]
            have hw110 : Below u5.heap.size u5 (w102.setCells b105 0 (vl 16 (px))) := below_store hw103 (by omega) _ 0
            have hz111 : H16 (w102.setCells b105 0 (vl 16 (px))) b105 (px) := H16.store hz104 _
            have hz112 : H16 (w102.setCells b105 0 (vl 16 (px))) b96 _ := H16.storeOther hz107 (by omega) _
            refine hK.out _ _ ?_ (fun hHeld => ?_)
            · exact ⟨range_kept (hw110) (row16_range X2.out), hw110⟩
            clear hK K
            try simp only [Act.put, y1, y2, y3, y4, y5, y6]
            generalize w102.setCells b105 0 (vl 16 (px)) = w109 at *
            refine wpAnyH_ready (rs := [9]) (by kernel_rfl) (by simp) ?_
            refine AllReadyH.cons rfl (fun K hK => ?_) (AllReadyH.nil)
            try simp only [y1, y2, y3]
            rw [if_pos (by rfl)]
            refine wp_store_mid 22 (.tmp 8) (.tmp 31) rfl (b96) (0) (vl 16 (py)).toArray rfl rfl (H16.there hz112) (vsz _) (von _) ?_
            simp only [Act.put, y1, y2, y3, y4, y5, y6, List.toList_toArray]
            have hw114 : Below u5.heap.size u5 (w109.setCells b96 0 (vl 16 (py))) := below_store hw110 (by omega) _ 0
            have hz115 : H16 (w109.setCells b96 0 (vl 16 (py))) b96 (py) := H16.store hz112 _
            have hz116 : H16 (w109.setCells b96 0 (vl 16 (py))) b105 _ := H16.storeOther hz111 (by omega) _
            refine hK.out _ _ ?_ (fun hHeld => ?_)
            · exact ⟨range_kept (hw114) (row16_range X2.out), hw114⟩
            clear hK K
            try simp only [Act.put, y1, y2, y3, y4, y5, y6]
            generalize w109.setCells b96 0 (vl 16 (py)) = w113 at *
            refine wpAnyH_done (by kernel_rfl) ?_ _
            refine NoPanic.normal ?_
            go_wp2_with fail
            go_meet
            refine ⟨_, _, rfl, rfl, Lib.hid hz116, Lib.hid hz115, Lib.hid hw114⟩
          · try simp only [y1, y2, y3]
            go_simp
            have hw118 : Below u5.heap.size u5 (w93.alloc zO) := hw94.alloc hw94.size _
            have hz119 : H16 (w93.alloc zO) w93.heap.size fun _ => 0 := new_h w93
            have hl121 : u5.heap.size ≤ w93.heap.size := hw94.size
            have hz122 := H16.alloc zO hz95
            have hne123 : b96 < w93.heap.size := hz95.lt
            refine hK.out _ _ ?_ (fun hHeld => ?_)
            · exact ⟨range_kept (hw118) (row16_range X2.out), hw118⟩
            clear hK K
            try simp only [Act.put, y1, y2, y3, y4, y5, y6]
            generalize w93.alloc zO = w117 at *
            generalize w93.heap.size = b120 at *
            refine wpAnyH_ready (rs := [5]) (by kernel_rfl) (by simp) ?_
            refine AllReadyH.cons rfl (fun K hK => ?_) (AllReadyH.nil)
            try simp only [y1, y2, y3]
            go_simp
            refine (Cpy.out _ (R6.out.go hw118)).mono ?_
            rintro e w124 ⟨rfl, hb125⟩
            rw [aN_vl 16 (py)]
            have hw126 : Below u5.heap.size u5 w124 := hw118.trans (hb125.mono hw118.size)
            have hz127 := H16.call hb125 hz122
            have hz128 := H16.call hb125 hz119
            refine hK.out _ _ ?_ (fun hHeld => ?_)
            · exact ⟨range_kept (hw126) (row16_range X2.out), hw126⟩
            clear hK K
            try simp only [Act.put, y1, y2, y3, y4, y5, y6]
            clear hb125
            refine wpAnyH_ready (rs := [8]) (by kernel_rfl) (by simp) ?_
            refine AllReadyH.cons rfl (fun K hK => ?_) (AllReadyH.nil)
            try simp only [y1, y2, y3]
            rw [if_pos (by rfl)]
            refine wp_store_mid 22 (.tmp 7) (.tmp 28) rfl (b120) (0) (vl 16 (px)).toArray rfl rfl (H16.there hz128) (vsz _) (von _) ?_
            simp only [Act.put, y1, y2, y3, y4, y5, y6, List.toList_toArray]
            have hw130 : Below u5.heap.size u5 (w124.setCells b120 0 (vl 16 (px))) := below_store hw126 (by omega) _ 0
            have hz131 : H16 (w124.setCells b120 0 (vl 16 (px))) b120 (px) := H16.store hz128 _
            have hz132 : H16 (w124.setCells b120 0 (vl 16 (px))) b96 _ := H16.storeOther hz127 (by omega) _
            refine hK.out _ _ ?_ (fun hHeld => ?_)
            · exact ⟨range_kept (hw130) (row16_range X2.out), hw130⟩
            clear hK K
            try simp only [Act.put, y1, y2, y3, y4, y5, y6]
            generalize w124.setCells b120 0 (vl 16 (px)) = w129 at *
            refine wpAnyH_ready (rs := [9]) (by kernel_rfl) (by simp) ?_
            refine AllReadyH.cons rfl (fun K hK => ?_) (AllReadyH.nil)
            try simp only [y1, y2, y3]
            rw [if_pos (by rfl)]
            refine wp_store_mid 22 (.tmp 8) (.tmp 31) rfl (b96) (0) (vl 16 (py)).toArray rfl rfl (H16.there hz132) (vsz _) (von _) ?_
            simp only [Act.put, y1, y2, y3, y4, y5, y6, List.toList_toArray]
            have hw134 : Below u5.heap.size u5 (w129.setCells b96 0 (vl 16 (py))) := below_store hw130 (by omega) _ 0
            have hz135 : H16 (w129.setCells b96 0 (vl 16 (py))) b96 (py) := H16.store hz132 _
            have hz136 : H16 (w129.setCells b96 0 (vl 16 (py))) b120 _ := H16.storeOther hz131 (by omega) _
            refine hK.out _ _ ?_ (fun hHeld => ?_)
            · exact ⟨range_kept (hw134) (row16_range X2.out), hw134⟩
            clear hK K
            try simp only [Act.put, y1, y2, y3, y4, y5, y6]
            generalize w129.setCells b96 0 (vl 16 (py)) = w133 at *
            refine wpAnyH_done (by kernel_rfl) ?_ _
            refine NoPanic.normal ?_
            go_wp2_with fail
            go_meet
            refine ⟨_, _, rfl, rfl, Lib.hid hz136, Lib.hid hz135, Lib.hid hw134⟩
      · try simp only [y1, y2, y3]
        go_simp
        have hw138 : Below u5.heap.size u5 (ws1.alloc zO) := hs2.alloc hs2.size _
        have hz139 : H16 (ws1.alloc zO) ws1.heap.size fun _ => 0 := new_h ws1
        have hl141 : u5.heap.size ≤ ws1.heap.size := hs2.size
        refine hK.out _ _ ?_ (fun hHeld => ?_)
        · exact ⟨range_kept (hw138) (row16_range X2.out), hw138⟩
        clear hK K
        try simp only [Act.put, y1, y2, y3, y4, y5, y6]
        generalize ws1.alloc zO = w137 at *
        generalize ws1.heap.size = b140 at *
        refine wpAnyH_ready (rs := [2, 7]) (by kernel_rfl) (by simp) ?_
        refine AllReadyH.cons rfl (fun K hK => ?_) (AllReadyH.cons rfl (fun K hK => ?_) (AllReadyH.nil))
        · try simp only [y1, y2, y3]
          go_simp
          refine (Cpx.out _ (R1.out.go hw138)).mono ?_
          rintro e w142 ⟨rfl, hb143⟩
          rw [aN_vl 16 (px)]
          have hw144 : Below u5.heap.size u5 w142 := hw138.trans (hb143.mono hw138.size)
          have hz145 := H16.call hb143 hz139
          refine hK.out _ _ ?_ (fun hHeld => ?_)
          · exact ⟨range_kept (hw144) (row16_range X2.out), hw144⟩
          clear hK K
          try simp only [Act.put, y1, y2, y3, y4, y5, y6]
          clear hb143
          refine wpAnyH_ready (rs := [5, 7]) (by kernel_rfl) (by simp) ?_
          refine AllReadyH.cons rfl (fun K hK => ?_) (AllReadyH.cons rfl (fun K hK => ?_) (AllReadyH.nil))
          · try simp only [y1, y2, y3]
            go_simp
            refine (Cpy.out _ (R6.out.go hw144)).mono ?_
            rintro e w146 ⟨rfl, hb147⟩
            rw [aN_vl 16 (py)]
            have hw148 : Below u5.heap.size u5 w146 := hw144.trans (hb147.mono hw144.size)
            have hz149 := H16.call hb147 hz145
            refine hK.out _ _ ?_ (fun hHeld => ?_)
            · exact ⟨range_kept (hw148) (row16_range X2.out), hw148⟩
            clear hK K
            try simp only [Act.put, y1, y2, y3, y4, y5, y6]
            clear hb147
            refine wpAnyH_ready (rs := [7]) (by kernel_rfl) (by simp) ?_
            refine AllReadyH.cons rfl (fun K hK => ?_) (AllReadyH.nil)
            try simp only [y1, y2, y3]
            go_simp
            have hw151 : Below u5.heap.size u5 (w146.alloc zO) := hw148.alloc hw148.size _
            have hz152 : H16 (w146.alloc zO) w146.heap.size fun _ => 0 := new_h w146
            have hl154 : u5.heap.size ≤ w146.heap.size := hw148.size
            have hz155 := H16.alloc zO hz149
            have hne156 : b140 < w146.heap.size := hz149.lt
            refine hK.out _ _ ?_ (fun hHeld => ?_)
            · exact ⟨range_kept (hw151) (row16_range X2.out), hw151⟩
            clear hK K
            try simp only [Act.put, y1, y2, y3, y4, y5, y6]
            generalize w146.alloc zO = w150 at *
            generalize w146.heap.size = b153 at *
            refine wpAnyH_ready (rs := [8]) (by kernel_rfl) (by simp) ?_
            refine AllReadyH.cons rfl (fun K hK => ?_) (AllReadyH.nil)
            try simp only [y1, y2, y3]
            rw [if_pos (by rfl)]
            refine wp_store_mid 22 (.tmp 7) (.tmp 28) rfl (b140) (0) (vl 16 (px)).toArray rfl rfl (H16.there hz155) (vsz _) (von _) ?_
            simp only [Act.put, y1, y2, y3, y4, y5, y6, List.toList_toArray]
            have hw158 : Below u5.heap.size u5 (w150.setCells b140 0 (vl 16 (px))) := below_store hw151 (by omega) _ 0
            have hz159 : H16 (w150.setCells b140 0 (vl 16 (px))) b140 (px) := H16.store hz155 _
            have hz160 : H16 (w150.setCells b140 0 (vl 16 (px))) b153 _ := H16.storeOther hz152 (by omega) _
            refine hK.out _ _ ?_ (fun hHeld => ?_)
            · exact ⟨range_kept (hw158) (row16_range X2.out), hw158⟩
            clear hK K
            try simp only [Act.put, y1, y2, y3, y4, y5, y6]
            generalize w150.setCells b140 0 (vl 16 (px)) = w157 at *
            refine wpAnyH_ready (rs := [9]) (by kernel_rfl) (by simp) ?_
            refine AllReadyH.cons rfl (fun K hK => ?_) (AllReadyH.nil)
            try simp only [y1, y2, y3]
            rw [if_pos (by rfl)]
            refine wp_store_mid 22 (.tmp 8) (.tmp 31) rfl (b153) (0) (vl 16 (py)).toArray rfl rfl (H16.there hz160) (vsz _) (von _) ?_
            simp only [Act.put, y1, y2, y3, y4, y5, y6, List.toList_toArray]
            have hw162 : Below u5.heap.size u5 (w157.setCells b153 0 (vl 16 (py))) := below_store hw158 (by omega) _ 0
            have hz163 : H16 (w157.setCells b153 0 (vl 16 (py))) b153 (py) := H16.store hz160 _
            have hz164 : H16 (w157.setCells b153 0 (vl 16 (py))) b140 _ := H16.storeOther hz159 (by omega) _
            refine hK.out _ _ ?_ (fun hHeld => ?_)
            · exact ⟨range_kept (hw162) (row16_range X2.out), hw162⟩
            clear hK K
            try simp only [Act.put, y1, y2, y3, y4, y5, y6]
            generalize w157.setCells b153 0 (vl 16 (py)) = w161 at *
            refine wpAnyH_done (by kernel_rfl) ?_ _
            refine NoPanic.normal ?_
            go_wp2_with fail
            go_meet
            refine ⟨_, _, rfl, rfl, Lib.hid hz164, Lib.hid hz163, Lib.hid hw162⟩
          · try simp only [y1, y2, y3]
            go_simp
            have hw166 : Below u5.heap.size u5 (w142.alloc zO) := hw144.alloc hw144.size _
            have hz167 : H16 (w142.alloc zO) w142.heap.size fun _ => 0 := new_h w142
            have hl169 : u5.heap.size ≤ w142.heap.size := hw144.size
            have hz170 := H16.alloc zO hz145
            have hne171 : b140 < w142.heap.size := hz145.lt
            refine hK.out _ _ ?_ (fun hHeld => ?_)
            · exact ⟨range_kept (hw166) (row16_range X2.out), hw166⟩
            clear hK K
            try simp only [Act.put, y1, y2, y3, y4, y5, y6]
            generalize w142.alloc zO = w165 at *
            generalize w142.heap.size = b168 at *
            refine wpAnyH_ready (rs := [5]) (by kernel_rfl) (by simp) ?_
            refine AllReadyH.cons rfl (fun K hK => ?_) (AllReadyH.nil)
            try simp only [y1, y2, y3]
            go_simp
            refine (Cpy.out _ (R6.out.go hw166)).mono ?_
            rintro e w172 ⟨rfl, hb173⟩
            rw [aN_vl 16 (py)]
            have hw174 : Below u5.heap.size u5 w172 := hw166.trans (hb173.mono hw166.size)
            have hz175 := H16.call hb173 hz170
            have hz176 := H16.call hb173 hz167
            refine hK.out _ _ ?_ (fun hHeld => ?_)
            · exact ⟨range_kept (hw174) (row16_range X2.out), hw174⟩
            clear hK K
            try simp only [Act.put, y1, y2, y3, y4, y5, y6]
            clear hb173
            refine wpAnyH_ready (rs := [8]) (by kernel_rfl) (by simp) ?_
            refine AllReadyH.cons rfl (fun K hK => ?_) (AllReadyH.nil)
            try simp only [y1, y2, y3]
            rw [if_pos (by rfl)]
            refine wp_store_mid 22 (.tmp 7) (.tmp 28) rfl (b140) (0) (vl 16 (px)).toArray rfl rfl (H16.there hz175) (vsz _) (von _) ?_
            simp only [Act.put, y1, y2, y3, y4, y5, y6, List.toList_toArray]
            have hw178 : Below u5.heap.size u5 (w172.setCells b140 0 (vl 16 (px))) := below_store hw174 (by omega) _ 0
            have hz179 : H16 (w172.setCells b140 0 (vl 16 (px))) b140 (px) := H16.store hz175 _
            have hz180 : H16 (w172.setCells b140 0 (vl 16 (px))) b168 _ := H16.storeOther hz176 (by omega) _
            refine hK.out _ _ ?_ (fun hHeld => ?_)
            · exact ⟨range_kept (hw178) (row16_range X2.out), hw178⟩
            clear hK K
            try simp only [Act.put, y1, y2, y3, y4, y5, y6]
            generalize w172.setCells b140 0 (vl 16 (px)) = w177 at *
            refine wpAnyH_ready (rs := [9]) (by kernel_rfl) (by simp) ?_
            refine AllReadyH.cons rfl (fun K hK => ?_) (AllReadyH.nil)
            try simp only [y1, y2, y3]
            rw [if_pos (by rfl)]
            refine wp_store_mid 22 (.tmp 8) (.tmp 31) rfl (b168) (0) (vl 16 (py)).toArray rfl rfl (H16.there hz180) (vsz _) (von _) ?_
            simp only [Act.put, y1, y2, y3, y4, y5, y6, List.toList_toArray]
            have hw182 : Below u5.heap.size u5 (w177.setCells b168 0 (vl 16 (py))) := below_store hw178 (by omega) _ 0
            have hz183 : H16 (w177.setCells b168 0 (vl 16 (py))) b168 (py) := H16.store hz180 _
            have hz184 : H16 (w177.setCells b168 0 (vl 16 (py))) b140 _ := H16.storeOther hz179 (by omega) _
            refine hK.out _ _ ?_ (fun hHeld => ?_)
            · exact ⟨range_kept (hw182) (row16_range X2.out), hw182⟩
            clear hK K
            try simp only [Act.put, y1, y2, y3, y4, y5, y6]
            generalize w177.setCells b168 0 (vl 16 (py)) = w181 at *
            refine wpAnyH_done (by kernel_rfl) ?_ _
            refine NoPanic.normal ?_
            go_wp2_with fail
            go_meet
            refine ⟨_, _, rfl, rfl, Lib.hid hz184, Lib.hid hz183, Lib.hid hw182⟩
        · try simp only [y1, y2, y3]
          go_simp
          have hw186 : Below u5.heap.size u5 (w137.alloc zO) := hw138.alloc hw138.size _
          have hz187 : H16 (w137.alloc zO) w137.heap.size fun _ => 0 := new_h w137
          have hl189 : u5.heap.size ≤ w137.heap.size := hw138.size
          have hz190 := H16.alloc zO hz139
          have hne191 : b140 < w137.heap.size := hz139.lt
          refine hK.out _ _ ?_ (fun hHeld => ?_)
          · exact ⟨range_kept (hw186) (row16_range X2.out), hw186⟩
          clear hK K
          try simp only [Act.put, y1, y2, y3, y4, y5, y6]
          generalize w137.alloc zO = w185 at *
          generalize w137.heap.size = b188 at *
          refine wpAnyH_ready (rs := [2]) (by kernel_rfl) (by simp) ?_
          refine AllReadyH.cons rfl (fun K hK => ?_) (AllReadyH.nil)
          try simp only [y1, y2, y3]
          go_simp
          refine (Cpx.out _ (R1.out.go hw186)).mono ?_
          rintro e w192 ⟨rfl, hb193⟩
          rw [aN_vl 16 (px)]
          have hw194 : Below u5.heap.size u5 w192 := hw186.trans (hb193.mono hw186.size)
          have hz195 := H16.call hb193 hz190
          have hz196 := H16.call hb193 hz187
          refine hK.out _ _ ?_ (fun hHeld => ?_)
          · exact ⟨range_kept (hw194) (row16_range X2.out), hw194⟩
          clear hK K
          try simp only [Act.put, y1, y2, y3, y4, y5, y6]
          clear hb193
          refine wpAnyH_ready (rs := [5]) (by kernel_rfl) (by simp) ?_
          refine AllReadyH.cons rfl (fun K hK => ?_) (AllReadyH.nil)
          try simp only [y1, y2, y3]
          go_simp
          refine (Cpy.out _ (R6.out.go hw194)).mono ?_
          rintro e w197 ⟨rfl, hb198⟩
          rw [aN_vl 16 (py)]
          have hw199 : Below u5.heap.size u5 w197 := hw194.trans (hb198.mono hw194.size)
          have hz200 := H16.call hb198 hz195
          have hz201 := H16.call hb198 hz196
          refine hK.out _ _ ?_ (fun hHeld => ?_)
          · exact ⟨range_kept (hw199) (row16_range X2.out), hw199⟩
          clear hK K
          try simp only [Act.put, y1, y2, y3, y4, y5, y6]
          clear hb198
          refine wpAnyH_ready (rs := [8]) (by kernel_rfl) (by simp) ?_
          refine AllReadyH.cons rfl (fun K hK => ?_) (AllReadyH.nil)
          try simp only [y1, y2, y3]
          rw [if_pos (by rfl)]
          refine wp_store_mid 22 (.tmp 7) (.tmp 28) rfl (b140) (0) (vl 16 (px)).toArray rfl rfl (H16.there hz200) (vsz _) (von _) ?_
          simp only [Act.put, y1, y2, y3, y4, y5, y6, List.toList_toArray]
          have hw203 : Below u5.heap.size u5 (w197.setCells b140 0 (vl 16 (px))) := below_store hw199 (by omega) _ 0
          have hz204 : H16 (w197.setCells b140 0 (vl 16 (px))) b140 (px) := H16.store hz200 _
          have hz205 : H16 (w197.setCells b140 0 (vl 16 (px))) b188 _ := H16.storeOther hz201 (by omega) _
          refine hK.out _ _ ?_ (fun hHeld => ?_)
          · exact ⟨range_kept (hw203) (row16_range X2.out), hw203⟩
          clear hK K
          try simp only [Act.put, y1, y2, y3, y4, y5, y6]
          generalize w197.setCells b140 0 (vl 16 (px)) = w202 at *
          refine wpAnyH_ready (rs := [9]) (by kernel_rfl) (by simp) ?_
          refine AllReadyH.cons rfl (fun K hK => ?_) (AllReadyH.nil)
          try simp only [y1, y2, y3]
          rw [if_pos (by rfl)]
          refine wp_store_mid 22 (.tmp 8) (.tmp 31) rfl (b188) (0) (vl 16 (py)).toArray rfl rfl (H16.there hz205) (vsz _) (von _) ?_
          simp only [Act.put, y1, y2, y3, y4, y5, y6, List.toList_toArray]
          have hw207 : Below u5.heap.size u5 (w202.setCells b188 0 (vl 16 (py))) := below_store hw203 (by omega) _ 0
          have hz208 : H16 (w202.setCells b188 0 (vl 16 (py))) b188 (py) := H16.store hz205 _
          have hz209 : H16 (w202.setCells b188 0 (vl 16 (py))) b140 _ := H16.storeOther hz204 (by omega) _
          refine hK.out _ _ ?_ (fun hHeld => ?_)
          · exact ⟨range_kept (hw207) (row16_range X2.out), hw207⟩
          clear hK K
          try simp only [Act.put, y1, y2, y3, y4, y5, y6]
          generalize w202.setCells b188 0 (vl 16 (py)) = w206 at *
          refine wpAnyH_done (by kernel_rfl) ?_ _
          refine NoPanic.normal ?_
          go_wp2_with fail
          go_meet
          refine ⟨_, _, rfl, rfl, Lib.hid hz209, Lib.hid hz208, Lib.hid hw207⟩
      · try simp only [y1, y2, y3]
        go_simp
        have hw211 : Below u5.heap.size u5 (ws1.alloc zO) := hs2.alloc hs2.size _
        have hz212 : H16 (ws1.alloc zO) ws1.heap.size fun _ => 0 := new_h ws1
        have hl214 : u5.heap.size ≤ ws1.heap.size := hs2.size
        refine hK.out _ _ ?_ (fun hHeld => ?_)
        · exact ⟨range_kept (hw211) (row16_range X2.out), hw211⟩
        clear hK K
        try simp only [Act.put, y1, y2, y3, y4, y5, y6]
        generalize ws1.alloc zO = w210 at *
        generalize ws1.heap.size = b213 at *
        refine wpAnyH_ready (rs := [2, 6]) (by kernel_rfl) (by simp) ?_
        refine AllReadyH.cons rfl (fun K hK => ?_) (AllReadyH.cons rfl (fun K hK => ?_) (AllReadyH.nil))
        · try simp only [y1, y2, y3]
          go_simp
          refine (Cpx.out _ (R1.out.go hw211)).mono ?_
          rintro e w215 ⟨rfl, hb216⟩
          rw [aN_vl 16 (px)]
          have hw217 : Below u5.heap.size u5 w215 := hw211.trans (hb216.mono hw211.size)
          have hz218 := H16.call hb216 hz212
          refine hK.out _ _ ?_ (fun hHeld => ?_)
          · exact ⟨range_kept (hw217) (row16_range X2.out), hw217⟩
          clear hK K
          try simp only [Act.put, y1, y2, y3, y4, y5, y6]
          clear hb216
          refine wpAnyH_ready (rs := [5, 6]) (by kernel_rfl) (by simp) ?_
          refine AllReadyH.cons rfl (fun K hK => ?_) (AllReadyH.cons rfl (fun K hK => ?_) (AllReadyH.nil))
          · try simp only [y1, y2, y3]
            go_simp
            refine (Cpy.out _ (R6.out.go hw217)).mono ?_
            rintro e w219 ⟨rfl, hb220⟩
            rw [aN_vl 16 (py)]
            have hw221 : Below u5.heap.size u5 w219 := hw217.trans (hb220.mono hw217.size)
            have hz222 := H16.call hb220 hz218
            refine hK.out _ _ ?_ (fun hHeld => ?_)
            · exact ⟨range_kept (hw221) (row16_range X2.out), hw221⟩
            clear hK K
            try simp only [Act.put, y1, y2, y3, y4, y5, y6]
            clear hb220
            refine wpAnyH_ready (rs := [6]) (by kernel_rfl) (by simp) ?_
            refine AllReadyH.cons rfl (fun K hK => ?_) (AllReadyH.nil)
            try simp only [y1, y2, y3]
            go_simp
            have hw224 : Below u5.heap.size u5 (w219.alloc zO) := hw221.alloc hw221.size _
            have hz225 : H16 (w219.alloc zO) w219.heap.size fun _ => 0 := new_h w219
            have hl227 : u5.heap.size ≤ w219.heap.size := hw221.size
            have hz228 := H16.alloc zO hz222
            have hne229 : b213 < w219.heap.size := hz222.lt
            refine hK.out _ _ ?_ (fun hHeld => ?_)
            · exact ⟨range_kept (hw224) (row16_range X2.out), hw224⟩
            clear hK K
            try simp only [Act.put, y1, y2, y3, y4, y5, y6]
            generalize w219.alloc zO = w223 at *
            generalize w219.heap.size = b226 at *
            refine wpAnyH_ready (rs := [8]) (by kernel_rfl) (by simp) ?_
            refine AllReadyH.cons rfl (fun K hK => ?_) (AllReadyH.nil)
            try simp only [y1, y2, y3]
            rw [if_pos (by rfl)]
            refine wp_store_mid 22 (.tmp 7) (.tmp 28) rfl (b226) (0) (vl 16 (px)).toArray rfl rfl (H16.there hz225) (vsz _) (von _) ?_
            simp only [Act.put, y1, y2, y3, y4, y5, y6, List.toList_toArray]
            have hw231 : Below u5.heap.size u5 (w223.setCells b226 0 (vl 16 (px))) := below_store hw224 (by omega) _ 0
            have hz232 : H16 (w223.setCells b226 0 (vl 16 (px))) b226 (px) := H16.store hz225 _
            have hz233 : H16 (w223.setCells b226 0 (vl 16 (px))) b213 _ := H16.storeOther hz228 (by omega) _
            refine hK.out _ _ ?_ (fun hHeld => ?_)
            · exact ⟨range_kept (hw231) (row16_range X2.out), hw231⟩
            clear hK K
            try simp only [Act.put, y1, y2, y3, y4, y5, y6]
            generalize w223.setCells b226 0 (vl 16 (px)) = w230 at *
            refine wpAnyH_ready (rs := [9]) (by kernel_rfl) (by simp) ?_
            refine AllReadyH.cons rfl (fun K hK => ?_) (AllReadyH.nil)
            try simp only [y1, y2, y3]
            rw [if_pos (by rfl)]
            refine wp_store_mid 22 (.tmp 8) (.tmp 31) rfl (b213) (0) (vl 16 (py)).toArray rfl rfl (H16.there hz233) (vsz _) (von _) ?_
            simp only [Act.put, y1, y2, y3, y4, y5, y6, List.toList_toArray]
            have hw235 : Below u5.heap.size u5 (w230.setCells b213 0 (vl 16 (py))) := below_store hw231 (by omega) _ 0
            have hz236 : H16 (w230.setCells b213 0 (vl 16 (py))) b213 (py) := H16.store hz233 _
            have hz237 : H16 (w230.setCells b213 0 (vl 16 (py))) b226 _ := H16.storeOther hz232 (by omega) _
            refine hK.out _ _ ?_ (fun hHeld => ?_)
            · exact ⟨range_kept (hw235) (row16_range X2.out), hw235⟩
            clear hK K
            try simp only [Act.put, y1, y2, y3, y4, y5, y6]
            generalize w230.setCells b213 0 (vl 16 (py)) = w234 at *
            refine wpAnyH_done (by kernel_rfl) ?_ _
            refine NoPanic.normal ?_
            go_wp2_with fail
            go_meet
            refine ⟨_, _, rfl, rfl, Lib.hid hz237, Lib.hid hz236, Lib.hid hw235⟩
          · try simp only [y1, y2, y3]
            go_simp
            have hw239 : Below u5.heap.size u5 (w215.alloc zO) := hw217.alloc hw217.size _
            have hz240 : H16 (w215.alloc zO) w215.heap.size fun _ => 0 := new_h w215
            have hl242 : u5.heap.size ≤ w215.heap.size := hw217.size
            have hz243 := H16.alloc zO hz218
            have hne244 : b213 < w215.heap.size := hz218.lt
            refine hK.out _ _ ?_ (fun hHeld => ?_)
            · exact ⟨range_kept (hw239) (row16_range X2.out), hw239⟩
            clear hK K
            try simp only [Act.put, y1, y2, y3, y4, y5, y6]
            generalize w215.alloc zO = w238 at *
            generalize w215.heap.size = b241 at *
            refine wpAnyH_ready (rs := [5]) (by kernel_rfl) (by simp) ?_
            refine AllReadyH.cons rfl (fun K hK => ?_) (AllReadyH.nil)
            try simp only [y1, y2, y3]
            go_simp
            refine (Cpy.out _ (R6.out.go hw239)).mono ?_
            rintro e w245 ⟨rfl, hb246⟩
            rw [aN_vl 16 (py)]
            have hw247 : Below u5.heap.size u5 w245 := hw239.trans (hb246.mono hw239.size)
            have hz248 := H16.call hb246 hz243
            have hz249 := H16.call hb246 hz240
            refine hK.out _ _ ?_ (fun hHeld => ?_)
            · exact ⟨range_kept (hw247) (row16_range X2.out), hw247⟩
            clear hK K
            try simp only [Act.put, y1, y2, y3, y4, y5, y6]
            clear hb246
            refine wpAnyH_ready (rs := [8]) (by kernel_rfl) (by simp) ?_
            refine AllReadyH.cons rfl (fun K hK => ?_) (AllReadyH.nil)
            try simp only [y1, y2, y3]
            rw [if_pos (by rfl)]
            refine wp_store_mid 22 (.tmp 7) (.tmp 28) rfl (b241) (0) (vl 16 (px)).toArray rfl rfl (H16.there hz249) (vsz _) (von _) ?_
            simp only [Act.put, y1, y2, y3, y4, y5, y6, List.toList_toArray]
            have hw251 : Below u5.heap.size u5 (w245.setCells b241 0 (vl 16 (px))) := below_store hw247 (by omega) _ 0
            have hz252 : H16 (w245.setCells b241 0 (vl 16 (px))) b241 (px) := H16.store hz249 _
            have hz253 : H16 (w245.setCells b241 0 (vl 16 (px))) b213 _ := H16.storeOther hz248 (by omega) _
            refine hK.out _ _ ?_ (fun hHeld => ?_)
            · exact ⟨range_kept (hw251) (row16_range X2.out), hw251⟩
            clear hK K
            try simp only [Act.put, y1, y2, y3, y4, y5, y6]
            generalize w245.setCells b241 0 (vl 16 (px)) = w250 at *
            refine wpAnyH_ready (rs := [9]) (by kernel_rfl) (by simp) ?_
            refine AllReadyH.cons rfl (fun K hK => ?_) (AllReadyH.nil)
            try simp only [y1, y2, y3]
            rw [if_pos (by rfl)]
            refine wp_store_mid 22 (.tmp 8) (.tmp 31) rfl (b213) (0) (vl 16 (py)).toArray rfl rfl (H16.there hz253) (vsz _) (von _) ?_
            simp only [Act.put, y1, y2, y3, y4, y5, y6, List.toList_toArray]
            have hw255 : Below u5.heap.size u5 (w250.setCells b213 0 (vl 16 (py))) := below_store hw251 (by omega) _ 0
            have hz256 : H16 (w250.setCells b213 0 (vl 16 (py))) b213 (py) := H16.store hz253 _
            have hz257 : H16 (w250.setCells b213 0 (vl 16 (py))) b241 _ := H16.storeOther hz252 (by omega) _
            refine hK.out _ _ ?_ (fun hHeld => ?_)
            · exact ⟨range_kept (hw255) (row16_range X2.out), hw255⟩
            clear hK K
            try simp only [Act.put, y1, y2, y3, y4, y5, y6]
            generalize w250.setCells b213 0 (vl 16 (py)) = w254 at *
            refine wpAnyH_done (by kernel_rfl) ?_ _
            refine NoPanic.normal ?_
            go_wp2_with fail
            go_meet
            refine ⟨_, _, rfl, rfl, Lib.hid hz257, Lib.hid hz256, Lib.hid hw255⟩
        · try simp only [y1, y2, y3]
          go_simp
          have hw259 : Below u5.heap.size u5 (w210.alloc zO) := hw211.alloc hw211.size _
          have hz260 : H16 (w210.alloc zO) w210.heap.size fun _ => 0 := new_h w210
          have hl262 : u5.heap.size ≤ w210.heap.size := hw211.size
          have hz263 := H16.alloc zO hz212
          have hne264 : b213 < w210.heap.size := hz212.lt
          refine hK.out _ _ ?_ (fun hHeld => ?_)
          · exact ⟨range_kept (hw259) (row16_range X2.out), hw259⟩
          clear hK K
          try simp only [Act.put, y1, y2, y3, y4, y5, y6]
          generalize w210.alloc zO = w258 at *
          generalize w210.heap.size = b261 at *
          refine wpAnyH_ready (rs := [2]) (by kernel_rfl) (by simp) ?_
          refine AllReadyH.cons rfl (fun K hK => ?_) (AllReadyH.nil)
          try simp only [y1, y2, y3]
          go_simp
          refine (Cpx.out _ (R1.out.go hw259)).mono ?_
          rintro e w265 ⟨rfl, hb266⟩
          rw [aN_vl 16 (px)]
          have hw267 : Below u5.heap.size u5 w265 := hw259.trans (hb266.mono hw259.size)
          have hz268 := H16.call hb266 hz263
          have hz269 := H16.call hb266 hz260
          refine hK.out _ _ ?_ (fun hHeld => ?_)
          · exact ⟨range_kept (hw267) (row16_range X2.out), hw267⟩
          clear hK K
          try simp only [Act.put, y1, y2, y3, y4, y5, y6]
          clear hb266
          refine wpAnyH_ready (rs := [5]) (by kernel_rfl) (by simp) ?_
          refine AllReadyH.cons rfl (fun K hK => ?_) (AllReadyH.nil)
          try simp only [y1, y2, y3]
          go_simp
          refine (Cpy.out _ (R6.out.go hw267)).mono ?_
          rintro e w270 ⟨rfl, hb271⟩
          rw [aN_vl 16 (py)]
          have hw272 : Below u5.heap.size u5 w270 := hw267.trans (hb271.mono hw267.size)
          have hz273 := H16.call hb271 hz268
          have hz274 := H16.call hb271 hz269
          refine hK.out _ _ ?_ (fun hHeld => ?_)
          · exact ⟨range_kept (hw272) (row16_range X2.out), hw272⟩
          clear hK K
          try simp only [Act.put, y1, y2, y3, y4, y5, y6]
          clear hb271
          refine wpAnyH_ready (rs := [8]) (by kernel_rfl) (by simp) ?_
          refine AllReadyH.cons rfl (fun K hK => ?_) (AllReadyH.nil)
          try simp only [y1, y2, y3]
          rw [if_pos (by rfl)]
          refine wp_store_mid 22 (.tmp 7) (.tmp 28) rfl (b261) (0) (vl 16 (px)).toArray rfl rfl (H16.there hz274) (vsz _) (von _) ?_
          simp only [Act.put, y1, y2, y3, y4, y5, y6, List.toList_toArray]
          have hw276 : Below u5.heap.size u5 (w270.setCells b261 0 (vl 16 (px))) := below_store hw272 (by omega) _ 0
          have hz277 : H16 (w270.setCells b261 0 (vl 16 (px))) b261 (px) := H16.store hz274 _
          have hz278 : H16 (w270.setCells b261 0 (vl 16 (px))) b213 _ := H16.storeOther hz273 (by omega) _
          refine hK.out _ _ ?_ (fun hHeld => ?_)
          · exact ⟨range_kept (hw276) (row16_range X2.out), hw276⟩
          clear hK K
          try simp only [Act.put, y1, y2, y3, y4, y5, y6]
          generalize w270.setCells b261 0 (vl 16 (px)) = w275 at *
          refine wpAnyH_ready (rs := [9]) (by kernel_rfl) (by simp) ?_
          refine AllReadyH.cons rfl (fun K hK => ?_) (AllReadyH.nil)
          try simp only [y1, y2, y3]
          rw [if_pos (by rfl)]
          refine wp_store_mid 22 (.tmp 8) (.tmp 31) rfl (b213) (0) (vl 16 (py)).toArray rfl rfl (H16.there hz278) (vsz _) (von _) ?_
          simp only [Act.put, y1, y2, y3, y4, y5, y6, List.toList_toArray]
          have hw280 : Below u5.heap.size u5 (w275.setCells b213 0 (vl 16 (py))) := below_store hw276 (by omega) _ 0
          have hz281 : H16 (w275.setCells b213 0 (vl 16 (py))) b213 (py) := H16.store hz278 _
          have hz282 : H16 (w275.setCells b213 0 (vl 16 (py))) b261 _ := H16.storeOther hz277 (by omega) _
          refine hK.out _ _ ?_ (fun hHeld => ?_)
          · exact ⟨range_kept (hw280) (row16_range X2.out), hw280⟩
          clear hK K
          try simp only [Act.put, y1, y2, y3, y4, y5, y6]
          generalize w275.setCells b213 0 (vl 16 (py)) = w279 at *
          refine wpAnyH_done (by kernel_rfl) ?_ _
          refine NoPanic.normal ?_
          go_wp2_with fail
          go_meet
          refine ⟨_, _, rfl, rfl, Lib.hid hz282, Lib.hid hz281, Lib.hid hw280⟩
    case rest =>
      obtain ⟨b7, b8, rfl, rfl, X7, X8, HW⟩ := hcut
      obtain ⟨u6, rfl⟩ : ∃ u6 : World, u6 = wc := ⟨_, rfl⟩
      replace X2 := Lib.hid (H16.call HW.out X2.out)
      replace R1 := Lib.hid (R1.out.go HW.out)
      replace R6 := Lib.hid (R6.out.go HW.out)
      replace HB : Hid (Below w.heap.size w u6) := Lib.hid (HB.out.trans (HW.out.mono HB.out.size))
      clear HW
      try clear u5
      have e8n : 8 * (n : Int) = ((8 * n : Nat) : Int) := by omega
      have e8m : 8 * (n2 : Int) = ((8 * n2 : Nat) : Int) := by omega
      obtain ⟨t1, ht1⟩ : ∃ t1, t1 = 8 * n := ⟨_, rfl⟩
      obtain ⟨t2, ht2⟩ : ∃ t2, t2 = 8 * n2 := ⟨_, rfl⟩
      rw [← ht1] at hxm e8n
      rw [← ht2] at hxm e8m
      have HT := Lib.hid (And.intro ht1 ht2); clear ht1 ht2
      obtain ⟨b9, hb9⟩ : ∃ b9, b9 = u6.heap.size := ⟨_, rfl⟩
      have F9 : H16 (u6.alloc (.cells (aN 16 fun _ => 0) 22)) b9 fun _ => 0 := H16.newAt hb9
      have FB : Below u6.heap.size u6 (u6.alloc (.cells (aN 16 fun _ => 0) 22)) := (Below.refl _ _).alloc (Nat.le_refl _) _
      have hb9l : u6.heap.size ≤ b9 := by omega
      have HF9 := Lib.hid F9; clear F9
      have HFB := Lib.hid FB; clear FB
      have HB9 := Lib.hid hb9
      go_wp2_with fail
      rw [zero16]
      generalize u6.alloc (.cells (aN 16 fun _ => 0) 22) = u7 at *
      rw [← hb9]
      clear hb9
      go_loopw [10, 11] (fun v i wr => ∃ s : Nat, s ≤ 8 ∧ i = .int .i64 ((15 - s : Nat) : Int) ∧ v = .int .i64 ((m0 / 256 ^ s : Nat) : Int) ∧ Hid (H16 wr b9 (dK m0 s)) ∧ Hid (Below u6.heap.size u6 wr)) (fun _ i _ => (intOf i).toNat)
      case atStart => exact ⟨0, by omega, rfl, by simp, Lib.hid (HF9.out.congr fun i hi => by unfold dK; rw [if_neg (by omega)]), HFB⟩
      case round =>
        clear HF9 HFB
        obtain ⟨s, hs, rfl, rfl, H9, HBr⟩ := hrel
        obtain ⟨q, hq⟩ : ∃ q, q = 15 - s := ⟨_, rfl⟩
        obtain ⟨mv, hmv⟩ : ∃ mv, mv = m0 / 256 ^ s := ⟨_, rfl⟩
        have hmvb : mv < 1048576 := by rw [hmv]; exact Nat.lt_of_le_of_lt (Nat.div_le_self _ _) HM0.out
        rw [← hq, ← hmv]
        by_cases hlt : s < 8
        · have hq16 : q < 16 := by omega
          have hq7 : (7 : Int) < (q : Int) := by omega
          have hq7n : 7 < q := by omega
          have c9 := H9.out.cell q hq16
          have f9 := H9.out.free q
          have hcv : IntKind.u8.wrap (mv : Int) = ((mv % 256 : Nat) : Int) := by rw [IntKind.wrap_u8]; omega
          have hcv2 : ((mv : Int) % 256) = ((mv % 256 : Nat) : Int) := by omega
          have hdv : (mv : Int) / 256 = ((mv / 256 : Nat) : Int) := by omega
          have hby1 : mv % 256 = hby m0 q := by unfold hby; rw [hmv, show 15 - q = s from by omega]
          rw [hby1] at hcv hcv2
          obtain ⟨bv, hbv⟩ : ∃ bv, bv = hby m0 q := ⟨_, rfl⟩
          rw [← hbv] at hcv hcv2
          obtain ⟨md, hmd⟩ : ∃ md, md = mv / 256 := ⟨_, rfl⟩
          rw [← hmd] at hdv
          have HQ := Lib.hid (And.intro hq (And.intro hmv (And.intro hbv hmd)))
          clear hq hmv hby1 hbv hmd
          go_wp2_with fail
          go_roundw
          case rel =>
            obtain ⟨k1, k2, k3, k4⟩ := HQ.out
            refine ⟨s + 1, by omega, val_int (by omega), val_int (by rw [k4, k2, Nat.div_div_eq_div_mul, Nat.pow_succ]), Lib.hid ?_, Lib.hid (HBr.out.setCell (by simp; omega) _)⟩
            refine H9.out.set q bv hq16 ?_ fun j hj hne => ?_
            · unfold dK; rw [if_pos (by omega), k3]
            · unfold dK
              by_cases h1 : 15 < j + s
              · rw [if_pos h1, if_pos (by omega)]
              · rw [if_neg h1, if_neg (by omega)]
          case measure => simp [intOf]; omega
        · obtain rfl : s = 8 := by omega
          obtain rfl : q = 7 := by omega
          have X9 : Hid (H16 wr b9 pd) := Lib.hid (by rw [HPD.out]; exact H9.out.congr (dK_end m0 HM0.out))
          replace X2 := Lib.hid (H16.below HBr.out X2.out X2.out.lt)
          replace X7 := Lib.hid (H16.below HBr.out X7.out X7.out.lt)
          replace X8 := Lib.hid (H16.below HBr.out X8.out X8.out.lt)
          replace HB : Hid (Below w.heap.size w wr) := Lib.hid (HB.out.trans (HBr.out.mono HB.out.size))
          clear H9 HBr
          go_upto_region 13 with fail
          obtain ⟨u8, rfl⟩ : ∃ u8 : World, u8 = wr := ⟨_, rfl⟩
          refine wp_region_noPanic ?_
          refine wp_region_held_drew (S := (fun w' => w'.rangeAt (b7) 0 (vl 16 (px)) ∧ w'.rangeAt (b8) 0 (vl 16 (py)) ∧ w'.rangeAt (b9) 0 (vl 16 (pd)) ∧ w'.rangeAt (c2) 0 (vl 16 (h)) ∧ Below u8.heap.size u8 w')) (by kernel_rfl) ?_ (fun hHeld => ?_)
          · exact ⟨range_kept ((Below.refl u8.heap.size u8).drew) (row16_range X7.out), range_kept ((Below.refl u8.heap.size u8).drew) (row16_range X8.out), range_kept ((Below.refl u8.heap.size u8).drew) (row16_range X9.out), range_kept ((Below.refl u8.heap.size u8).drew) (row16_range X2.out), (Below.refl u8.heap.size u8).drew⟩
          have hs2 : Below u8.heap.size u8 u8.drew := (Below.refl u8.heap.size u8).drew
          generalize u8.drew = ws1 at *
          refine wpAnyH_take (i := 0) rfl (by kernel_rfl) (by kernel_rfl) (by kernel_rfl) (fun _ _ _ h => h) (yieldsIf_load_mid (by rfl) 22 (.tmp 7) rfl (b7) (0) rfl (vl 16 (px)) (.array 16 5) (fun _ h => h.1) Try.underlying22 rfl (vln _)) hHeld ?_
          try simp only [Act.put, y1, y2, y3, y4, y5, y6]
          refine wpAnyH_take (i := 1) rfl (by kernel_rfl) (by kernel_rfl) (by kernel_rfl) (fun _ _ _ h => h) (yieldsIf_load_mid (by rfl) 22 (.tmp 8) rfl (b8) (0) rfl (vl 16 (py)) (.array 16 5) (fun _ h => h.2.1) Try.underlying22 rfl (vln _)) hHeld ?_
          try simp only [Act.put, y1, y2, y3, y4, y5, y6]
          refine wpAnyH_take (i := 3) rfl (by kernel_rfl) (by kernel_rfl) (by kernel_rfl) (fun _ _ _ h => h) (yieldsIf_load_mid (by rfl) 22 (.tmp 9) rfl (b9) (0) rfl (vl 16 (pd)) (.array 16 5) (fun _ h => h.2.2.1) Try.underlying22 rfl (vln _)) hHeld ?_
          try simp only [Act.put, y1, y2, y3, y4, y5, y6]
          refine wpAnyH_take (i := 4) rfl (by kernel_rfl) (by kernel_rfl) (by kernel_rfl) (fun _ _ _ h => h) (yieldsIf_load_mid (by rfl) 22 (.tmp 2) rfl (c2) (0) rfl (vl 16 (h)) (.array 16 5) (fun _ h => h.2.2.2.1) Try.underlying22 rfl (vln _)) hHeld ?_
          try simp only [Act.put, y1, y2, y3, y4, y5, y6]
          refine wpAnyH_ready (rs := [2]) (by kernel_rfl) (by simp) ?_
          refine AllReadyH.cons rfl (fun K hK => ?_) (AllReadyH.nil)
          try simp only [y1, y2, y3]
          go_simp
          refine (lplus_any px py _ Lpx.out Lpy.out).mono ?_
          rintro e w3 ⟨rfl, hb4⟩
          rw [aN_vl 16 (fun i => px i ^^^ py i)]
          have hw5 : Below u8.heap.size u8 w3 := hs2.trans (hb4.mono hs2.size)
          refine hK.out _ _ ?_ (fun hHeld => ?_)
          · exact ⟨range_kept (hw5) (row16_range X7.out), range_kept (hw5) (row16_range X8.out), range_kept (hw5) (row16_range X9.out), range_kept (hw5) (row16_range X2.out), hw5⟩
          clear hK K
          try simp only [Act.put, y1, y2, y3, y4, y5, y6]
          clear hb4
          refine wpAnyH_ready (rs := [5]) (by kernel_rfl) (by simp) ?_
          refine AllReadyH.cons rfl (fun K hK => ?_) (AllReadyH.nil)
          try simp only [y1, y2, y3]
          go_simp
          refine (Cpm.out _).mono ?_
          rintro e w6 ⟨rfl, hb7⟩
          rw [aN_vl 16 (pm)]
          have hw8 : Below u8.heap.size u8 w6 := hw5.trans (hb7.mono hw5.size)
          refine hK.out _ _ ?_ (fun hHeld => ?_)
          · exact ⟨range_kept (hw8) (row16_range X7.out), range_kept (hw8) (row16_range X8.out), range_kept (hw8) (row16_range X9.out), range_kept (hw8) (row16_range X2.out), hw8⟩
          clear hK K
          try simp only [Act.put, y1, y2, y3, y4, y5, y6]
          clear hb7
          refine wpAnyH_take (i := 6) (v := ?_) rfl (by kernel_rfl) (by kernel_rfl) (by kernel_rfl) (fun _ _ _ h => h) (Or.inl ⟨by rfl, ?_⟩) hHeld ?_
          rotate_left
          · intro w' hSw
            (try dsimp only at hSw)
            go_simp
            try with_reducible rfl
          try simp only [Act.put, y1, y2, y3, y4, y5, y6]
          refine wpAnyH_take (i := 7) (v := ?_) rfl (by kernel_rfl) (by kernel_rfl) (by kernel_rfl) (fun _ _ _ h => h) (Or.inl ⟨by rfl, ?_⟩) hHeld ?_
          rotate_left
          · intro w' hSw
            (try dsimp only at hSw)
            go_simp
            try with_reducible rfl
          try simp only [Act.put, y1, y2, y3, y4, y5, y6]
          refine wpAnyH_ready (rs := [8]) (by kernel_rfl) (by simp) ?_
          refine AllReadyH.cons rfl (fun K hK => ?_) (AllReadyH.nil)
          try simp only [y1, y2, y3]
          go_simp
          refine (known04_any _).mono ?_
          rintro e w9 ⟨rfl, hb10⟩
          have hw11 : Below u8.heap.size u8 w9 := hw8.trans (hb10.mono hw8.size)
          refine hK.out _ _ ?_ (fun hHeld => ?_)
          · exact ⟨range_kept (hw11) (row16_range X7.out), range_kept (hw11) (row16_range X8.out), range_kept (hw11) (row16_range X9.out), range_kept (hw11) (row16_range X2.out), hw11⟩
          clear hK K
          try simp only [Act.put, y1, y2, y3, y4, y5, y6]
          clear hb10
          refine wpAnyH_take (i := 9) (v := ?_) rfl (by kernel_rfl) (by kernel_rfl) (by kernel_rfl) (fun _ _ _ h => h) (Or.inl ⟨by rfl, ?_⟩) hHeld ?_
          rotate_left
          · intro w' hSw
            (try dsimp only at hSw)
            go_simp
            try with_reducible rfl
          try simp only [Act.put, y1, y2, y3, y4, y5, y6]
          refine wpAnyH_take (i := 10) (v := ?_) rfl (by kernel_rfl) (by kernel_rfl) (by kernel_rfl) (fun _ _ _ h => h) (Or.inl ⟨by rfl, ?_⟩) hHeld ?_
          rotate_left
          · intro w' hSw
            (try dsimp only at hSw)
            go_simp
            try with_reducible rfl
          try simp only [Act.put, y1, y2, y3, y4, y5, y6]
          refine wpAnyH_done (by kernel_rfl) ?_ _
          refine NoPanic.normal ?_
          go_wp2_with fail
          go_ret
          exact ⟨rfl, HB.out.trans (hw11.mono HB.out.size)⟩

set_option maxRecDepth 100000 in
theorem hlens_lifted (os : Os) (started : os.Started) (H : Type) (enc : TypeId × Value → H) :
    ReturnsInHanded {} Try.checked os 7 .any (Rows.ghashLengthsSpec.pre6 enc Try.prog Try.f7 Rows.ghashLengthsRow.domain false) (Rows.ghashLengthsSpec.post enc Try.prog Try.f7 false true false false) := by
  refine returnsInHanded_of_change_sized (C := Try.checked) Try.own started (by kernel_rfl) Try.func7
    (ChangeSpec.witness6 (enc := enc) (C := Try.checked) false ⟨#[], #[.agg #[.int .u8 0, .int .u8 0, .int .u8 0, .int .u8 0, .int .u8 0, .int .u8 0, .int .u8 0, .int .u8 0, .int .u8 0, .int .u8 0, .int .u8 0, .int .u8 0, .int .u8 0, .int .u8 0, .int .u8 0, .int .u8 0], .slice none 0 0], []⟩ 8 (by kernel_rfl) (by kernel_rfl) (by kernel_rfl) (by kernel_rfl)) ?_
  intro W base args ds gs before hval0 hW _ hsz0 _
  have hsz : (DataW.weightsEach Try.prog (Try.f7.params.toList ++ Rows.ghashLengthsSpec.plain.varTypes Try.prog) (ds ++ gs)).all (· ≤ reachBytes) = true := hsz0
  have hval : ∀ (j : Nat) t v, Try.f7.params[j]? = some t → args[j]? = some v → Value.okWide Try.prog W .any base t v := hval0
  have hW' := hW
  obtain ⟨p, q, hA0, hV, rfl, _, _⟩ := hW
  have hA : DataW.TrodAll enc Try.prog W 0 (fun _ => true) true Try.f7.params.toList args.toList ds p := hA0
  rw [Try.params7] at hA hval hsz
  have hlt := hW'.lt
  clear hA0 hval0 hsz0
  obtain ⟨v0, vs0, d0, ds0, p0, q0, hv0, rfl, rfl, h0, r0⟩ := trodAll_cons hA
  obtain ⟨v1, vs1, d1, ds1, p1, q1, hv1, rfl, rfl, h1, r1⟩ := trodAll_cons r0
  subst hv1
  obtain ⟨rfl, rfl, rfl⟩ := trodAll_nil r1
  obtain rfl : args = #[v0, v1] := by cases args; simp_all
  obtain ⟨rfl, rfl⟩ := trodVars_none hV
  obtain ⟨f0, rfl, u0⟩ := open_arr_u8 Try.underlying22 Try.underlying5 Try.cellsU8 (by kernel_rfl) (hval 0 22 v0 rfl rfl) h0
  obtain ⟨A1, l1, c1, rfl, rd1, le1, lc1⟩ := open_bytes_cap Try.underlying26 Try.underlying5 Try.cellsU8 (hval 1 26 v1 rfl rfl) h1 (fun x hx => hlt x (by simp [hx])) (fun es sp he => by subst he; have := sized_slice hsz (j := 1) (t := 26) (e := 5) rfl rfl Try.underlying26; rw [Try.bytesU8, Nat.mul_one] at this; exact this)
  refine (hlens_any f0 A1 l1 l1.length c1 rfl W u0 le1 lc1 rd1).mono fun e W' ⟨he, hb⟩ => ⟨_, he, ?_⟩
  exact law_post 4 Try.underlying4 (by kernel_rfl) rfl Try.laidOut (by kernel_rfl) hW' ⟨rfl, rfl, rfl⟩ hb

theorem hlens_holds : Rows.GhashLengthsSaid :=
  OpenClaim.holds_of_wide 7 Try.f7 rfl rfl rfl rfl rfl rfl rfl ⟨rfl, rfl, rfl, rfl, rfl⟩ rfl rfl rfl rfl rfl (by kernel_rfl) Try.func7 (by kernel_rfl)
    (of_decide_eq_true (by kernel_rfl)) (by unfold Func.isWrapper; first | (rw [if_pos (by decide +kernel)]; kernel_rfl) | (rw [if_neg (by decide +kernel)]; exact ⟨rfl, rfl⟩))
    (fun os started H enc _ => hlens_lifted os started H enc)
end Go.Proofs.Ytojdhcbfjiojdaa
