/-
  Sums of two texts of one length differ by the sum of the texts' difference, less that of as many noughts: GhashAdds, for every input.
-/
import Derived.Test.YtojdhcbfjiojdaaLaw
import Derived.Test.YtojdhcbfjiojdaaGhX
namespace Go.Proofs.Ytojdhcbfjiojdaa
open Go Go.RowKit Go.ChangeShapes Go.WideShapes Go.ChangeAt
set_option linter.unusedVariables false
set_option linter.unusedSimpArgs false

theorem zz : (0 : Nat) = 0 := rfl

set_option maxRecDepth 100000 in
set_option maxHeartbeats 20000000 in
theorem hadds_any (h : Nat → Nat) (A : Option Addr) (l1 : List UInt8) (na ca : Nat) (hna : l1.length = na) (B : Option Addr) (l2 : List UInt8) (nb cb : Nat) (hnb : l2.length = nb) (w : World) (hh : ∀ i, i < 16 → h i < 256) (hla : na ≤ 140737488351232) (hca : na ≤ ca) (h1 : Rd w w.heap.size A (vb l1)) (hlb : nb ≤ 140737488351232) (hcb : nb ≤ cb) (h2 : Rd w w.heap.size B (vb l2)) :
    Calls Try.prog 6 #[.agg (aN 16 h), .slice A na ca, .slice B nb cb] w fun e w' => e = .returned (.bool true) ∧ Below w.heap.size w w' := by
  obtain ⟨n, hn⟩ : ∃ n, n = min (min na nb) 4000 := ⟨_, rfl⟩
  have hn1 : n ≤ na := by omega
  have hn2 : n ≤ nb := by omega
  have hn3 : n ≤ 4000 := by omega
  have HMN := Lib.hid hn; clear hn
  have e1 : (l1.take n).length = n := by simp; omega
  have e2 : (l2.take n).length = n := by simp; omega
  have g1 : Rd w w.heap.size A (vb (l1.take n)) := by have := h1.take n; simpa [vb, List.map_take] using this
  have g2 : Rd w w.heap.size B (vb (l2.take n)) := by have := h2.take n; simpa [vb, List.map_take] using this
  have cA : n ≤ ca := by omega
  have cB : n ≤ cb := by omega
  generalize l1.take n = a at *
  generalize l2.take n = b at *
  clear hna hnb h1 h2
  obtain ⟨j0, hi, hz0, hz1, hz2⟩ := info_parts info_b
  have r1 := run_head (P := Try.prog) 26 5 j0 Try.underlying26 hi A na ca n (by omega)
  have r2 := run_head (P := Try.prog) 26 5 j0 Try.underlying26 hi B nb cb n (by omega)
  have HJ := Lib.hid (And.intro hi (And.intro hz0 (And.intro hz1 hz2))); clear hi hz0 hz1 hz2
  have HA := Lib.hid e1; clear e1
  have HBl := Lib.hid e2; clear e2
  have hB : Below w.heap.size w (w.alloc (.cells (aN 16 h) 22)) := (Below.refl _ _).alloc (Nat.le_refl _) _
  have X3 : Hid (H16 (w.alloc (.cells (aN 16 h) 22)) w.heap.size h) := Lib.hid (H16.newAt rfl)
  have R1 := Lib.hid (g1.go hB); clear g1
  have R2 := Lib.hid (g2.go hB); clear g2
  have HB := Lib.hid hB; clear hB
  have HH : Hid (B16 h) := Lib.hid hh; clear hh
  go_enter Try.func6, Try.ntmps6
  go_upto_region 1 with fail
  generalize w.alloc (.cells (aN 16 h) 22) = u1 at *
  obtain ⟨c3, hc3⟩ : ∃ c3, c3 = w.heap.size := ⟨_, rfl⟩
  rw [← hc3] at X3
  rw [← hc3]
  clear hc3
  obtain ⟨q, hq⟩ : ∃ q, q = min na nb := ⟨_, rfl⟩
  have m1 : (if (nb : Int) < (na : Int) then (nb : Int) else (na : Int)) = (q : Int) := by rw [hq]; split <;> omega
  have m2 : (if (4000 : Int) < (q : Int) then (4000 : Int) else (q : Int)) = (n : Int) := by have := HMN.out; split <;> omega
  have HQ := Lib.hid hq; clear hq
  have i0 : (0 : Int) ≤ (n : Int) := by omega
  have hmin : ∀ w : World, (Builtin.min_ #[3, 3, 3] 3 #[.int .i64 (na : Int), .int .i64 (nb : Int), .int .i64 4000]).run Try.prog w = .ok (.int .i64 (n : Int)) w := fun w => by rw [run_min_int3, m1, m2]
  clear m1 m2
  go_wp2_with fail
  clear hmin
  go_loopw [8, 20] (fun v i wr => ∃ k : Nat, k ≤ n ∧ i = .int .i64 (k : Int) ∧ Hid (wr.ownsRow u1.heap.size 5 1 v k (vb (xorL (a.take k) (b.take k)))) ∧ Hid (Below u1.heap.size u1 wr)) (fun _ i _ => n - (intOf i).toNat)
  case atStart => exact ⟨0, by omega, rfl, Lib.hid (World.ownsRow_nil _ _ _ _), Lib.hid (Below.refl _ _)⟩
  case round =>
    rename_i wr _ _
    obtain ⟨k, hk, rfl, HO, HBr⟩ := hrel
    by_cases hlt : k < n
    · have hka : k < a.length := by have := HA.out; omega
      have hkb : k < b.length := by have := HBl.out; omega
      have hown := HO.out
      have hb := HBr.out
      have hkna : (k : Int) < (na : Int) := by omega
      have hknb : (k : Int) < (nb : Int) := by omega
      obtain ⟨ad, rfl, hbd, hck⟩ := (R1.out.below hb).byte hka
      obtain ⟨bd, rfl, hbd', hck'⟩ := (R2.out.below hb).byte hkb
      have fa := own_far hown (g := ad.block) hbd
      have fb := own_far hown (g := bd.block) hbd'
      have sz := hb.size
      have hi := HJ.out.1
      have hz0 := HJ.out.2.1
      have hz1 := HJ.out.2.2.1
      have hz2 := HJ.out.2.2.2
      have hx : bits .xor .u8 (a[k].toNat : Int) (b[k].toNat : Int) = ((a[k] ^^^ b[k]).toNat : Int) := bits_xor _ _
      go_wp2_with fail
      go_region_held3 (fun w' => w'.cell? (ad.add k) = some (.int .u8 (a[k].toNat : Int)) ∧ w'.cell? (bd.add k) = some (.int .u8 (b[k].toNat : Int)))
        (first
          | go_keep
          | (go_split_ands
             refine ⟨?_, ?_⟩
             · (rw [hgrow.cell_far _ (by rw [add_block]; simp; omega) (by rw [add_block]; exact fa)]; assumption)
             · (rw [hgrow.cell_far _ (by rw [add_block]; simp; omega) (by rw [add_block]; exact fb)]; assumption)))
        (first | (refine step_append_lies _ (by rfl) _ _ _ (by rfl) u1.heap.size 5 j0 _ 1 1 Try.underlying26 hi hz0 hz1 hz2 rfl (by omega) u8 k _ (by rfl) (by exact hown.alloc _) ⟨wr.heap.size, 0, none⟩ 1 1 [.int .u8 ((a[k] ^^^ b[k]).toNat : Int)] (by rfl) (by rfl) (World.news_of_block (cs := #[.int .u8 ((a[k] ^^^ b[k]).toNat : Int)]) (t := 5) (fr := (0, 0)) (heap_alloc_new _ _)) (by simp [Value.oneCell']) (by omega) (by unfold maxLen; omega) (by omega) (by simp; omega) (wr.heap.size + 1) (by simp) ?_; intro gg cap w1 hown1 hgrow hat hlt1))
      go_wp2_with fail
      go_roundw
      case rel =>
        refine ⟨k + 1, by omega, by go_num, Lib.hid ?_, Lib.hid ?_⟩
        · rw [xorL_snoc a b n k HA.out HBl.out hlt]
          simpa [vb] using hown1
        · exact (((bdrewN hb _).alloc (by exact sz) _).grown hgrow (by simp; omega) (fun k hk => (hown.lt k hk).1))
      case measure => simp [intOf]; omega
    · obtain rfl : k = n := by omega
      have hxl := HO.out
      rw [List.take_of_length_le (by have := HA.out; omega), List.take_of_length_le (by have := HBl.out; omega)] at hxl
      obtain ⟨A8, c8, rfl, _, r8⟩ := Rd.of_own hxl
      have hc8 := own_cap hxl
      have R8 := Lib.hid r8; clear r8 hxl HO
      obtain ⟨u2, rfl⟩ : ∃ u2 : World, u2 = wr := ⟨_, rfl⟩
      replace X3 : Hid (H16 u2 c3 h) := Lib.hid (X3.out.below HBr.out X3.out.lt)
      replace R1 : Hid (Rd u2 u2.heap.size A (vb a)) := Lib.hid (R1.out.go HBr.out)
      replace R2 : Hid (Rd u2 u2.heap.size B (vb b)) := Lib.hid (R2.out.go HBr.out)
      replace HB : Hid (Below w.heap.size w u2) := Lib.hid (HB.out.trans (HBr.out.mono HB.out.size))
      clear HBr
      try clear u1
      obtain ⟨px, hpx⟩ : ∃ F : Nat → Nat, F = hby (gS (hof h) [] (nm a)) := ⟨_, rfl⟩
      have Cpx : Hid (∀ W : World, Rd W W.heap.size (A) (vb a) → Calls Try.prog 12 #[.agg (aN 16 h), .slice none 0 0, .slice (A) k ca] W fun e w' => e = .returned (.agg (aN 16 px)) ∧ Below W.heap.size W w') := Lib.hid fun W hr => by
        rw [hpx]
        exact csum_any h HH.out none (A) [] (nm a) 0 k 0 ca rfl (by simpa using HA.out) (fun _ h => by cases h) (vb_lt a) (by omega) (by omega) (by omega) (by omega) W (Rd.nil _ _ _) (by rw [← vb_vn]; exact hr)
      have Lpx : Hid (B16 px) := Lib.hid (by rw [hpx]; exact fun i _ => hby_lt _ i)
      obtain ⟨py, hpy⟩ : ∃ F : Nat → Nat, F = hby (gS (hof h) [] (nm b)) := ⟨_, rfl⟩
      have Cpy : Hid (∀ W : World, Rd W W.heap.size (B) (vb b) → Calls Try.prog 12 #[.agg (aN 16 h), .slice none 0 0, .slice (B) k cb] W fun e w' => e = .returned (.agg (aN 16 py)) ∧ Below W.heap.size W w') := Lib.hid fun W hr => by
        rw [hpy]
        exact csum_any h HH.out none (B) [] (nm b) 0 k 0 cb rfl (by simpa using HBl.out) (fun _ h => by cases h) (vb_lt b) (by omega) (by omega) (by omega) (by omega) W (Rd.nil _ _ _) (by rw [← vb_vn]; exact hr)
      have Lpy : Hid (B16 py) := Lib.hid (by rw [hpy]; exact fun i _ => hby_lt _ i)
      obtain ⟨pz, hpz⟩ : ∃ F : Nat → Nat, F = hby (gS (hof h) [] (nm (xorL a b))) := ⟨_, rfl⟩
      have Cpz : Hid (∀ W : World, Rd W W.heap.size (A8) (vb (xorL a b)) → Calls Try.prog 12 #[.agg (aN 16 h), .slice none 0 0, .slice (A8) k c8] W fun e w' => e = .returned (.agg (aN 16 pz)) ∧ Below W.heap.size W w') := Lib.hid fun W hr => by
        rw [hpz]
        exact csum_any h HH.out none (A8) [] (nm (xorL a b)) 0 k 0 c8 rfl (by simpa using xorL_len a b k HA.out HBl.out) (fun _ h => by cases h) (vb_lt _) (by omega) (by omega) (by omega) (by omega) W (Rd.nil _ _ _) (by rw [← vb_vn]; exact hr)
      have Lpz : Hid (B16 pz) := Lib.hid (by rw [hpz]; exact fun i _ => hby_lt _ i)
      obtain ⟨po, hpo⟩ : ∃ F : Nat → Nat, F = hby (gS (hof h) [] (List.replicate k 0)) := ⟨_, rfl⟩
      have Cpo : Hid (∀ (W : World) (b : Nat), Rd W W.heap.size (some ⟨b, 0, none⟩) (vn (List.replicate k 0)) → Calls Try.prog 12 #[.agg (aN 16 h), .slice none 0 0, .slice (some ⟨b, 0, none⟩) k k] W fun e w' => e = .returned (.agg (aN 16 po)) ∧ Below W.heap.size W w') := Lib.hid fun W b hr => by
        rw [hpo]
        exact csum_any h HH.out none _ [] (List.replicate k 0) 0 k 0 k rfl (by simp) (fun _ h => by cases h) (fun x hx => by rw [List.mem_replicate] at hx; omega) (by omega) (by omega) (by omega) (by omega) W (Rd.nil _ _ _) hr
      have Lpo : Hid (B16 po) := Lib.hid (by rw [hpo]; exact fun i _ => hby_lt _ i)
      have hq := eqv (fun i => px i ^^^ py i) (fun i => pz i ^^^ po i) true (sameB_true fun i _ => by
        show px i ^^^ py i = pz i ^^^ po i
        rw [hpx, hpy, hpz, hpo, ← hby_xor, ← hby_xor, adds_eq (hof h) a b k HA.out HBl.out])
      have hg16 := guard16
      have hmk := zrow_make k (by omega)
      clear hpx hpy hpz hpo HMN HQ
      go_upto_region 8 with fail
      go_cut [10, 11] (fun s10 s11 wx => ∃ b10 b11 : Nat, s10 = .pointer (some ⟨b10, 0, none⟩) ∧ s11 = .pointer (some ⟨b11, 0, none⟩) ∧ Hid (H16 wx b10 (px)) ∧ Hid (H16 wx b11 (py)) ∧ Hid (Below u2.heap.size u2 wx))
      case first =>
        refine wp_region_noPanic ?_
        refine wp_region_held_drew (S := (fun w' => w'.rangeAt (c3) 0 (vl 16 (h)) ∧ Below u2.heap.size u2 w')) (by kernel_rfl) ?_ (fun hHeld => ?_)
        · exact ⟨range_kept ((Below.refl u2.heap.size u2).drew) (row16_range X3.out), (Below.refl u2.heap.size u2).drew⟩
        have hs2 : Below u2.heap.size u2 u2.drew := (Below.refl u2.heap.size u2).drew
        generalize u2.drew = ws1 at *
        refine wpAnyH_take (i := 0) rfl (by kernel_rfl) (by kernel_rfl) (by kernel_rfl) (fun _ _ _ h => h) (yieldsIf_load_mid (by rfl) 22 (.tmp 3) rfl (c3) (0) rfl (vl 16 (h)) (.array 16 5) (fun _ h => h.1) Try.underlying22 rfl (vln _)) hHeld ?_
        try simp only [Act.put, y1, y2, y3, y4, y5, y6]
        refine wpAnyH_take (i := 1) (v := ?_) rfl (by kernel_rfl) (by kernel_rfl) (by kernel_rfl) (fun _ _ _ h => h) (Or.inl ⟨by rfl, ?_⟩) hHeld ?_
        rotate_left
        · intro w' hSw
          (try dsimp only at hSw)
          go_simp
          try with_reducible rfl
        try simp only [Act.put, y1, y2, y3, y4, y5, y6]
        refine wpAnyH_take (i := 2) (v := ?_) rfl (by kernel_rfl) (by kernel_rfl) (by kernel_rfl) (fun _ _ _ h => h) (Or.inl ⟨by rfl, ?_⟩) hHeld ?_
        rotate_left
        · intro w' hSw
          (try dsimp only at hSw)
          go_simp
          try with_reducible rfl
        try simp only [Act.put, y1, y2, y3, y4, y5, y6]
        refine wpAnyH_take (i := 3) (v := ?_) rfl (by kernel_rfl) (by kernel_rfl) (by kernel_rfl) (fun _ _ _ h => h) (Or.inl ⟨by rfl, ?_⟩) hHeld ?_
        rotate_left
        · intro w' hSw
          (try dsimp only at hSw)
          go_simp
          try with_reducible rfl
        try simp only [Act.put, y1, y2, y3, y4, y5, y6]
        refine wpAnyH_take (i := 5) rfl (by kernel_rfl) (by kernel_rfl) (by kernel_rfl) (fun _ _ _ h => h) (yieldsIf_load_mid (by rfl) 22 (.tmp 3) rfl (c3) (0) rfl (vl 16 (h)) (.array 16 5) (fun _ h => h.1) Try.underlying22 rfl (vln _)) hHeld ?_
        try simp only [Act.put, y1, y2, y3, y4, y5, y6]
        refine wpAnyH_take (i := 6) (v := ?_) rfl (by kernel_rfl) (by kernel_rfl) (by kernel_rfl) (fun _ _ _ h => h) (Or.inl ⟨by rfl, ?_⟩) hHeld ?_
        rotate_left
        · intro w' hSw
          (try dsimp only at hSw)
          go_simp
          try with_reducible rfl
        try simp only [Act.put, y1, y2, y3, y4, y5, y6]
        refine wpAnyH_take (i := 7) (v := ?_) rfl (by kernel_rfl) (by kernel_rfl) (by kernel_rfl) (fun _ _ _ h => h) (Or.inl ⟨by rfl, ?_⟩) hHeld ?_
        rotate_left
        · intro w' hSw
          (try dsimp only at hSw)
          go_simp
          try with_reducible rfl
        try simp only [Act.put, y1, y2, y3, y4, y5, y6]
        refine wpAnyH_take (i := 8) (v := ?_) rfl (by kernel_rfl) (by kernel_rfl) (by kernel_rfl) (fun _ _ _ h => h) (Or.inl ⟨by rfl, ?_⟩) hHeld ?_
        rotate_left
        · intro w' hSw
          (try dsimp only at hSw)
          go_simp
          try with_reducible rfl
        try simp only [Act.put, y1, y2, y3, y4, y5, y6]
        refine wpAnyH_ready (rs := [4, 10, 11]) (by kernel_rfl) (by simp) ?_
        refine AllReadyH.cons rfl (fun K hK => ?_) (AllReadyH.cons rfl (fun K hK => ?_) (AllReadyH.cons rfl (fun K hK => ?_) (AllReadyH.nil)))
        · try simp only [y1, y2, y3]
          go_simp
          refine (Cpx.out _ (R1.out.go hs2)).mono ?_
          rintro e w3 ⟨rfl, hb4⟩
          rw [aN_vl 16 (px)]
          have hw5 : Below u2.heap.size u2 w3 := hs2.trans (hb4.mono hs2.size)
          refine hK.out _ _ ?_ (fun hHeld => ?_)
          · exact ⟨range_kept (hw5) (row16_range X3.out), hw5⟩
          clear hK K
          try simp only [Act.put, y1, y2, y3, y4, y5, y6]
          clear hb4
          refine wpAnyH_ready (rs := [9, 10, 11]) (by kernel_rfl) (by simp) ?_
          refine AllReadyH.cons rfl (fun K hK => ?_) (AllReadyH.cons rfl (fun K hK => ?_) (AllReadyH.cons rfl (fun K hK => ?_) (AllReadyH.nil)))
          · try simp only [y1, y2, y3]
            go_simp
            refine (Cpy.out _ (R2.out.go hw5)).mono ?_
            rintro e w6 ⟨rfl, hb7⟩
            rw [aN_vl 16 (py)]
            have hw8 : Below u2.heap.size u2 w6 := hw5.trans (hb7.mono hw5.size)
            refine hK.out _ _ ?_ (fun hHeld => ?_)
            · exact ⟨range_kept (hw8) (row16_range X3.out), hw8⟩
            clear hK K
            try simp only [Act.put, y1, y2, y3, y4, y5, y6]
            clear hb7
            refine wpAnyH_ready (rs := [10, 11]) (by kernel_rfl) (by simp) ?_
            refine AllReadyH.cons rfl (fun K hK => ?_) (AllReadyH.cons rfl (fun K hK => ?_) (AllReadyH.nil))
            · try simp only [y1, y2, y3]
              go_simp
              have hw10 : Below u2.heap.size u2 (w6.alloc zO) := hw8.alloc hw8.size _
              have hz11 : H16 (w6.alloc zO) w6.heap.size fun _ => 0 := new_h w6
              have hl13 : u2.heap.size ≤ w6.heap.size := hw8.size
              refine hK.out _ _ ?_ (fun hHeld => ?_)
              · exact ⟨range_kept (hw10) (row16_range X3.out), hw10⟩
              clear hK K
              try simp only [Act.put, y1, y2, y3, y4, y5, y6]
              generalize w6.alloc zO = w9 at *
              generalize w6.heap.size = b12 at *
              refine wpAnyH_ready (rs := [11]) (by kernel_rfl) (by simp) ?_
              refine AllReadyH.cons rfl (fun K hK => ?_) (AllReadyH.nil)
              try simp only [y1, y2, y3]
              go_simp
              have hw15 : Below u2.heap.size u2 (w9.alloc zO) := hw10.alloc hw10.size _
              have hz16 : H16 (w9.alloc zO) w9.heap.size fun _ => 0 := new_h w9
              have hl18 : u2.heap.size ≤ w9.heap.size := hw10.size
              have hz19 := H16.alloc zO hz11
              have hne20 : b12 < w9.heap.size := hz11.lt
              refine hK.out _ _ ?_ (fun hHeld => ?_)
              · exact ⟨range_kept (hw15) (row16_range X3.out), hw15⟩
              clear hK K
              try simp only [Act.put, y1, y2, y3, y4, y5, y6]
              generalize w9.alloc zO = w14 at *
              generalize w9.heap.size = b17 at *
              refine wpAnyH_ready (rs := [12]) (by kernel_rfl) (by simp) ?_
              refine AllReadyH.cons rfl (fun K hK => ?_) (AllReadyH.nil)
              try simp only [y1, y2, y3]
              rw [if_pos (by rfl)]
              refine wp_store_mid 22 (.tmp 10) (.tmp 40) rfl (b12) (0) (vl 16 (px)).toArray rfl rfl (H16.there hz19) (vsz _) (von _) ?_
              simp only [Act.put, y1, y2, y3, y4, y5, y6, List.toList_toArray]
              have hw22 : Below u2.heap.size u2 (w14.setCells b12 0 (vl 16 (px))) := below_store hw15 (by omega) _ 0
              have hz23 : H16 (w14.setCells b12 0 (vl 16 (px))) b12 (px) := H16.store hz19 _
              have hz24 : H16 (w14.setCells b12 0 (vl 16 (px))) b17 _ := H16.storeOther hz16 (by omega) _
              refine hK.out _ _ ?_ (fun hHeld => ?_)
              · exact ⟨range_kept (hw22) (row16_range X3.out), hw22⟩
              clear hK K
              try simp only [Act.put, y1, y2, y3, y4, y5, y6]
              generalize w14.setCells b12 0 (vl 16 (px)) = w21 at *
              refine wpAnyH_ready (rs := [13]) (by kernel_rfl) (by simp) ?_
              refine AllReadyH.cons rfl (fun K hK => ?_) (AllReadyH.nil)
              try simp only [y1, y2, y3]
              rw [if_pos (by rfl)]
              refine wp_store_mid 22 (.tmp 11) (.tmp 45) rfl (b17) (0) (vl 16 (py)).toArray rfl rfl (H16.there hz24) (vsz _) (von _) ?_
              simp only [Act.put, y1, y2, y3, y4, y5, y6, List.toList_toArray]
              have hw26 : Below u2.heap.size u2 (w21.setCells b17 0 (vl 16 (py))) := below_store hw22 (by omega) _ 0
              have hz27 : H16 (w21.setCells b17 0 (vl 16 (py))) b17 (py) := H16.store hz24 _
              have hz28 : H16 (w21.setCells b17 0 (vl 16 (py))) b12 _ := H16.storeOther hz23 (by omega) _
              refine hK.out _ _ ?_ (fun hHeld => ?_)
              · exact ⟨range_kept (hw26) (row16_range X3.out), hw26⟩
              clear hK K
              try simp only [Act.put, y1, y2, y3, y4, y5, y6]
              generalize w21.setCells b17 0 (vl 16 (py)) = w25 at *
              refine wpAnyH_done (by kernel_rfl) ?_ _
              refine NoPanic.normal ?_
              go_wp2_with fail
              go_meet
              refine ⟨_, _, rfl, rfl, Lib.hid hz28, Lib.hid hz27, Lib.hid hw26⟩
            · try simp only [y1, y2, y3]
              go_simp
              have hw30 : Below u2.heap.size u2 (w6.alloc zO) := hw8.alloc hw8.size _
              have hz31 : H16 (w6.alloc zO) w6.heap.size fun _ => 0 := new_h w6
              have hl33 : u2.heap.size ≤ w6.heap.size := hw8.size
              refine hK.out _ _ ?_ (fun hHeld => ?_)
              · exact ⟨range_kept (hw30) (row16_range X3.out), hw30⟩
              clear hK K
              try simp only [Act.put, y1, y2, y3, y4, y5, y6]
              generalize w6.alloc zO = w29 at *
              generalize w6.heap.size = b32 at *
              refine wpAnyH_ready (rs := [10]) (by kernel_rfl) (by simp) ?_
              refine AllReadyH.cons rfl (fun K hK => ?_) (AllReadyH.nil)
              try simp only [y1, y2, y3]
              go_simp
              have hw35 : Below u2.heap.size u2 (w29.alloc zO) := hw30.alloc hw30.size _
              have hz36 : H16 (w29.alloc zO) w29.heap.size fun _ => 0 := new_h w29
              have hl38 : u2.heap.size ≤ w29.heap.size := hw30.size
              have hz39 := H16.alloc zO hz31
              have hne40 : b32 < w29.heap.size := hz31.lt
              refine hK.out _ _ ?_ (fun hHeld => ?_)
              · exact ⟨range_kept (hw35) (row16_range X3.out), hw35⟩
              clear hK K
              try simp only [Act.put, y1, y2, y3, y4, y5, y6]
              generalize w29.alloc zO = w34 at *
              generalize w29.heap.size = b37 at *
              refine wpAnyH_ready (rs := [12]) (by kernel_rfl) (by simp) ?_
              refine AllReadyH.cons rfl (fun K hK => ?_) (AllReadyH.nil)
              try simp only [y1, y2, y3]
              rw [if_pos (by rfl)]
              refine wp_store_mid 22 (.tmp 10) (.tmp 40) rfl (b37) (0) (vl 16 (px)).toArray rfl rfl (H16.there hz36) (vsz _) (von _) ?_
              simp only [Act.put, y1, y2, y3, y4, y5, y6, List.toList_toArray]
              have hw42 : Below u2.heap.size u2 (w34.setCells b37 0 (vl 16 (px))) := below_store hw35 (by omega) _ 0
              have hz43 : H16 (w34.setCells b37 0 (vl 16 (px))) b37 (px) := H16.store hz36 _
              have hz44 : H16 (w34.setCells b37 0 (vl 16 (px))) b32 _ := H16.storeOther hz39 (by omega) _
              refine hK.out _ _ ?_ (fun hHeld => ?_)
              · exact ⟨range_kept (hw42) (row16_range X3.out), hw42⟩
              clear hK K
              try simp only [Act.put, y1, y2, y3, y4, y5, y6]
              generalize w34.setCells b37 0 (vl 16 (px)) = w41 at *
              refine wpAnyH_ready (rs := [13]) (by kernel_rfl) (by simp) ?_
              refine AllReadyH.cons rfl (fun K hK => ?_) (AllReadyH.nil)
              try simp only [y1, y2, y3]
              rw [if_pos (by rfl)]
              refine wp_store_mid 22 (.tmp 11) (.tmp 45) rfl (b32) (0) (vl 16 (py)).toArray rfl rfl (H16.there hz44) (vsz _) (von _) ?_
              simp only [Act.put, y1, y2, y3, y4, y5, y6, List.toList_toArray]
              have hw46 : Below u2.heap.size u2 (w41.setCells b32 0 (vl 16 (py))) := below_store hw42 (by omega) _ 0
              have hz47 : H16 (w41.setCells b32 0 (vl 16 (py))) b32 (py) := H16.store hz44 _
              have hz48 : H16 (w41.setCells b32 0 (vl 16 (py))) b37 _ := H16.storeOther hz43 (by omega) _
              refine hK.out _ _ ?_ (fun hHeld => ?_)
              · exact ⟨range_kept (hw46) (row16_range X3.out), hw46⟩
              clear hK K
              try simp only [Act.put, y1, y2, y3, y4, y5, y6]
              generalize w41.setCells b32 0 (vl 16 (py)) = w45 at *
              refine wpAnyH_done (by kernel_rfl) ?_ _
              refine NoPanic.normal ?_
              go_wp2_with fail
              go_meet
              refine ⟨_, _, rfl, rfl, Lib.hid hz48, Lib.hid hz47, Lib.hid hw46⟩
          · try simp only [y1, y2, y3]
            go_simp
            have hw50 : Below u2.heap.size u2 (w3.alloc zO) := hw5.alloc hw5.size _
            have hz51 : H16 (w3.alloc zO) w3.heap.size fun _ => 0 := new_h w3
            have hl53 : u2.heap.size ≤ w3.heap.size := hw5.size
            refine hK.out _ _ ?_ (fun hHeld => ?_)
            · exact ⟨range_kept (hw50) (row16_range X3.out), hw50⟩
            clear hK K
            try simp only [Act.put, y1, y2, y3, y4, y5, y6]
            generalize w3.alloc zO = w49 at *
            generalize w3.heap.size = b52 at *
            refine wpAnyH_ready (rs := [9, 11]) (by kernel_rfl) (by simp) ?_
            refine AllReadyH.cons rfl (fun K hK => ?_) (AllReadyH.cons rfl (fun K hK => ?_) (AllReadyH.nil))
            · try simp only [y1, y2, y3]
              go_simp
              refine (Cpy.out _ (R2.out.go hw50)).mono ?_
              rintro e w54 ⟨rfl, hb55⟩
              rw [aN_vl 16 (py)]
              have hw56 : Below u2.heap.size u2 w54 := hw50.trans (hb55.mono hw50.size)
              have hz57 := H16.call hb55 hz51
              refine hK.out _ _ ?_ (fun hHeld => ?_)
              · exact ⟨range_kept (hw56) (row16_range X3.out), hw56⟩
              clear hK K
              try simp only [Act.put, y1, y2, y3, y4, y5, y6]
              clear hb55
              refine wpAnyH_ready (rs := [11]) (by kernel_rfl) (by simp) ?_
              refine AllReadyH.cons rfl (fun K hK => ?_) (AllReadyH.nil)
              try simp only [y1, y2, y3]
              go_simp
              have hw59 : Below u2.heap.size u2 (w54.alloc zO) := hw56.alloc hw56.size _
              have hz60 : H16 (w54.alloc zO) w54.heap.size fun _ => 0 := new_h w54
              have hl62 : u2.heap.size ≤ w54.heap.size := hw56.size
              have hz63 := H16.alloc zO hz57
              have hne64 : b52 < w54.heap.size := hz57.lt
              refine hK.out _ _ ?_ (fun hHeld => ?_)
              · exact ⟨range_kept (hw59) (row16_range X3.out), hw59⟩
              clear hK K
              try simp only [Act.put, y1, y2, y3, y4, y5, y6]
              generalize w54.alloc zO = w58 at *
              generalize w54.heap.size = b61 at *
              refine wpAnyH_ready (rs := [12]) (by kernel_rfl) (by simp) ?_
              refine AllReadyH.cons rfl (fun K hK => ?_) (AllReadyH.nil)
              try simp only [y1, y2, y3]
              rw [if_pos (by rfl)]
              refine wp_store_mid 22 (.tmp 10) (.tmp 40) rfl (b52) (0) (vl 16 (px)).toArray rfl rfl (H16.there hz63) (vsz _) (von _) ?_
              simp only [Act.put, y1, y2, y3, y4, y5, y6, List.toList_toArray]
              have hw66 : Below u2.heap.size u2 (w58.setCells b52 0 (vl 16 (px))) := below_store hw59 (by omega) _ 0
              have hz67 : H16 (w58.setCells b52 0 (vl 16 (px))) b52 (px) := H16.store hz63 _
              have hz68 : H16 (w58.setCells b52 0 (vl 16 (px))) b61 _ := H16.storeOther hz60 (by omega) _
              refine hK.out _ _ ?_ (fun hHeld => ?_)
              · exact ⟨range_kept (hw66) (row16_range X3.out), hw66⟩
              clear hK K
              try simp only [Act.put, y1, y2, y3, y4, y5, y6]
              generalize w58.setCells b52 0 (vl 16 (px)) = w65 at *
              refine wpAnyH_ready (rs := [13]) (by kernel_rfl) (by simp) ?_
              refine AllReadyH.cons rfl (fun K hK => ?_) (AllReadyH.nil)
              try simp only [y1, y2, y3]
              rw [if_pos (by rfl)]
              refine wp_store_mid 22 (.tmp 11) (.tmp 45) rfl (b61) (0) (vl 16 (py)).toArray rfl rfl (H16.there hz68) (vsz _) (von _) ?_
              simp only [Act.put, y1, y2, y3, y4, y5, y6, List.toList_toArray]
              have hw70 : Below u2.heap.size u2 (w65.setCells b61 0 (vl 16 (py))) := below_store hw66 (by omega) _ 0
              have hz71 : H16 (w65.setCells b61 0 (vl 16 (py))) b61 (py) := H16.store hz68 _
              have hz72 : H16 (w65.setCells b61 0 (vl 16 (py))) b52 _ := H16.storeOther hz67 (by omega) _
              refine hK.out _ _ ?_ (fun hHeld => ?_)
              · exact ⟨range_kept (hw70) (row16_range X3.out), hw70⟩
              clear hK K
              try simp only [Act.put, y1, y2, y3, y4, y5, y6]
              generalize w65.setCells b61 0 (vl 16 (py)) = w69 at *
              refine wpAnyH_done (by kernel_rfl) ?_ _
              refine NoPanic.normal ?_
              go_wp2_with fail
              go_meet
              refine ⟨_, _, rfl, rfl, Lib.hid hz72, Lib.hid hz71, Lib.hid hw70⟩
            · try simp only [y1, y2, y3]
              go_simp
              have hw74 : Below u2.heap.size u2 (w49.alloc zO) := hw50.alloc hw50.size _
              have hz75 : H16 (w49.alloc zO) w49.heap.size fun _ => 0 := new_h w49
              have hl77 : u2.heap.size ≤ w49.heap.size := hw50.size
              have hz78 := H16.alloc zO hz51
              have hne79 : b52 < w49.heap.size := hz51.lt
              refine hK.out _ _ ?_ (fun hHeld => ?_)
              · exact ⟨range_kept (hw74) (row16_range X3.out), hw74⟩
              clear hK K
              try simp only [Act.put, y1, y2, y3, y4, y5, y6]
              generalize w49.alloc zO = w73 at *
              generalize w49.heap.size = b76 at *
              refine wpAnyH_ready (rs := [9]) (by kernel_rfl) (by simp) ?_
              refine AllReadyH.cons rfl (fun K hK => ?_) (AllReadyH.nil)
              try simp only [y1, y2, y3]
              go_simp
              refine (Cpy.out _ (R2.out.go hw74)).mono ?_
              rintro e w80 ⟨rfl, hb81⟩
              rw [aN_vl 16 (py)]
              have hw82 : Below u2.heap.size u2 w80 := hw74.trans (hb81.mono hw74.size)
              have hz83 := H16.call hb81 hz78
              have hz84 := H16.call hb81 hz75
              refine hK.out _ _ ?_ (fun hHeld => ?_)
              · exact ⟨range_kept (hw82) (row16_range X3.out), hw82⟩
              clear hK K
              try simp only [Act.put, y1, y2, y3, y4, y5, y6]
              clear hb81
              refine wpAnyH_ready (rs := [12]) (by kernel_rfl) (by simp) ?_
              refine AllReadyH.cons rfl (fun K hK => ?_) (AllReadyH.nil)
              try simp only [y1, y2, y3]
              rw [if_pos (by rfl)]
              refine wp_store_mid 22 (.tmp 10) (.tmp 40) rfl (b52) (0) (vl 16 (px)).toArray rfl rfl (H16.there hz83) (vsz _) (von _) ?_
              simp only [Act.put, y1, y2, y3, y4, y5, y6, List.toList_toArray]
              have hw86 : Below u2.heap.size u2 (w80.setCells b52 0 (vl 16 (px))) := below_store hw82 (by omega) _ 0
              have hz87 : H16 (w80.setCells b52 0 (vl 16 (px))) b52 (px) := H16.store hz83 _
              have hz88 : H16 (w80.setCells b52 0 (vl 16 (px))) b76 _ := H16.storeOther hz84 (by omega) _
              refine hK.out _ _ ?_ (fun hHeld => ?_)
              · exact ⟨range_kept (hw86) (row16_range X3.out), hw86⟩
              clear hK K
              try simp only [Act.put, y1, y2, y3, y4, y5, y6]
              generalize w80.setCells b52 0 (vl 16 (px)) = w85 at *
              refine wpAnyH_ready (rs := [13]) (by kernel_rfl) (by simp) ?_
              refine AllReadyH.cons rfl (fun K hK => ?_) (AllReadyH.nil)
              try simp only [y1, y2, y3]
              rw [if_pos (by rfl)]
              refine wp_store_mid 22 (.tmp 11) (.tmp 45) rfl (b76) (0) (vl 16 (py)).toArray rfl rfl (H16.there hz88) (vsz _) (von _) ?_
              simp only [Act.put, y1, y2, y3, y4, y5, y6, List.toList_toArray]
              have hw90 : Below u2.heap.size u2 (w85.setCells b76 0 (vl 16 (py))) := below_store hw86 (by omega) _ 0
              have hz91 : H16 (w85.setCells b76 0 (vl 16 (py))) b76 (py) := H16.store hz88 _
              have hz92 : H16 (w85.setCells b76 0 (vl 16 (py))) b52 _ := H16.storeOther hz87 (by omega) _
              refine hK.out _ _ ?_ (fun hHeld => ?_)
              · exact ⟨range_kept (hw90) (row16_range X3.out), hw90⟩
              clear hK K
              try simp only [Act.put, y1, y2, y3, y4, y5, y6]
              generalize w85.setCells b76 0 (vl 16 (py)) = w89 at *
              refine wpAnyH_done (by kernel_rfl) ?_ _
              refine NoPanic.normal ?_
              go_wp2_with fail
              go_meet
              refine ⟨_, _, rfl, rfl, Lib.hid hz92, Lib.hid hz91, Lib.hid hw90⟩
          · try simp only [y1, y2, y3]
            go_simp
            have hw94 : Below u2.heap.size u2 (w3.alloc zO) := hw5.alloc hw5.size _
            have hz95 : H16 (w3.alloc zO) w3.heap.size fun _ => 0 := new_h w3
            have hl97 : u2.heap.size ≤ w3.heap.size := hw5.size
            refine hK.out _ _ ?_ (fun hHeld => ?_)
            · exact ⟨range_kept (hw94) (row16_range X3.out), hw94⟩
            clear hK K
            try simp only [Act.put, y1, y2, y3, y4, y5, y6]
            generalize w3.alloc zO = w93 at *
            generalize w3.heap.size = b96 at *
            refine wpAnyH_ready (rs := [9, 10]) (by kernel_rfl) (by simp) ?_
            refine AllReadyH.cons rfl (fun K hK => ?_) (AllReadyH.cons rfl (fun K hK => ?_) (AllReadyH.nil))
            · try simp only [y1, y2, y3]
              go_simp
              refine (Cpy.out _ (R2.out.go hw94)).mono ?_
              rintro e w98 ⟨rfl, hb99⟩
              rw [aN_vl 16 (py)]
              have hw100 : Below u2.heap.size u2 w98 := hw94.trans (hb99.mono hw94.size)
              have hz101 := H16.call hb99 hz95
              refine hK.out _ _ ?_ (fun hHeld => ?_)
              · exact ⟨range_kept (hw100) (row16_range X3.out), hw100⟩
              clear hK K
              try simp only [Act.put, y1, y2, y3, y4, y5, y6]
              clear hb99
              refine wpAnyH_ready (rs := [10]) (by kernel_rfl) (by simp) ?_
              refine AllReadyH.cons rfl (fun K hK => ?_) (AllReadyH.nil)
              try simp only [y1, y2, y3]
              go_simp
              have hw103 : Below u2.heap.size u2 (w98.alloc zO) := hw100.alloc hw100.size _
              have hz104 : H16 (w98.alloc zO) w98.heap.size fun _ => 0 := new_h w98
              have hl106 : u2.heap.size ≤ w98.heap.size := hw100.size
              have hz107 := H16.alloc zO hz101
              have hne108 : b96 < w98.heap.size := hz101.lt
              refine hK.out _ _ ?_ (fun hHeld => ?_)
              · exact ⟨range_kept (hw103) (row16_range X3.out), hw103⟩
              clear hK K
              try simp only [Act.put, y1, y2, y3, y4, y5, y6]
              generalize w98.alloc zO = w102 at *
              generalize w98.heap.size = b105 at *
              refine wpAnyH_ready (rs := [12]) (by kernel_rfl) (by simp) ?_
              refine AllReadyH.cons rfl (fun K hK => ?_) (AllReadyH.nil)
              try simp only [y1, y2, y3]
              rw [if_pos (by rfl)]
              refine wp_store_mid 22 (.tmp 10) (.tmp 40) rfl (b105) (0) (vl 16 (px)).toArray rfl rfl (H16.there hz104) (vsz _) (von _) ?_
              simp only [Act.put, y1, y2, y3, y4, y5, y6, List.toList_toArray]
              have hw110 : Below u2.heap.size u2 (w102.setCells b105 0 (vl 16 (px))) := below_store hw103 (by omega) _ 0
              have hz111 : H16 (w102.setCells b105 0 (vl 16 (px))) b105 (px) := H16.store hz104 _
              have hz112 : H16 (w102.setCells b105 0 (vl 16 (px))) b96 _ := H16.storeOther hz107 (by omega) _
              refine hK.out _ _ ?_ (fun hHeld => ?_)
              · exact ⟨range_kept (hw110) (row16_range X3.out), hw110⟩
              clear hK K
              try simp only [Act.put, y1, y2, y3, y4, y5, y6]
              generalize w102.setCells b105 0 (vl 16 (px)) = w109 at *
              refine wpAnyH_ready (rs := [13]) (by kernel_rfl) (by simp) ?_
              refine AllReadyH.cons rfl (fun K hK => ?_) (AllReadyH.nil)
              try simp only [y1, y2, y3]
              rw [if_pos (by rfl)]
              refine wp_store_mid 22 (.tmp 11) (.tmp 45) rfl (b96) (0) (vl 16 (py)).toArray rfl rfl (H16.there hz112) (vsz _) (von _) ?_
              simp only [Act.put, y1, y2, y3, y4, y5, y6, List.toList_toArray]
              have hw114 : Below u2.heap.size u2 (w109.setCells b96 0 (vl 16 (py))) := below_store hw110 (by omega) _ 0
              have hz115 : H16 (w109.setCells b96 0 (vl 16 (py))) b96 (py) := H16.store hz112 _
              have hz116 : H16 (w109.setCells b96 0 (vl 16 (py))) b105 _ := H16.storeOther hz111 (by omega) _
              refine hK.out _ _ ?_ (fun hHeld => ?_)
              · exact ⟨range_kept (hw114) (row16_range X3.out), hw114⟩
              clear hK K
              try simp only [Act.put, y1, y2, y3, y4, y5, y6]
              generalize w109.setCells b96 0 (vl 16 (py)) = w113 at *
              refine wpAnyH_done (by kernel_rfl) ?_ _
              refine NoPanic.normal ?_
              go_wp2_with fail
              go_meet
              refine ⟨_, _, rfl, rfl, Lib.hid hz116, Lib.hid hz115, Lib.hid hw114⟩
            · try simp only [y1, y2, y3]
              go_simp
              have hw118 : Below u2.heap.size u2 (w93.alloc zO) := hw94.alloc hw94.size _
              have hz119 : H16 (w93.alloc zO) w93.heap.size fun _ => 0 := new_h w93
              have hl121 : u2.heap.size ≤ w93.heap.size := hw94.size
              have hz122 := H16.alloc zO hz95
              have hne123 : b96 < w93.heap.size := hz95.lt
              refine hK.out _ _ ?_ (fun hHeld => ?_)
              · exact ⟨range_kept (hw118) (row16_range X3.out), hw118⟩
              clear hK K
              try simp only [Act.put, y1, y2, y3, y4, y5, y6]
              generalize w93.alloc zO = w117 at *
              generalize w93.heap.size = b120 at *
              refine wpAnyH_ready (rs := [9]) (by kernel_rfl) (by simp) ?_
              refine AllReadyH.cons rfl (fun K hK => ?_) (AllReadyH.nil)
              try simp only [y1, y2, y3]
              go_simp
              refine (Cpy.out _ (R2.out.go hw118)).mono ?_
              rintro e w124 ⟨rfl, hb125⟩
              rw [aN_vl 16 (py)]
              have hw126 : Below u2.heap.size u2 w124 := hw118.trans (hb125.mono hw118.size)
              have hz127 := H16.call hb125 hz122
              have hz128 := H16.call hb125 hz119
              refine hK.out _ _ ?_ (fun hHeld => ?_)
              · exact ⟨range_kept (hw126) (row16_range X3.out), hw126⟩
              clear hK K
              try simp only [Act.put, y1, y2, y3, y4, y5, y6]
              clear hb125
              refine wpAnyH_ready (rs := [12]) (by kernel_rfl) (by simp) ?_
              refine AllReadyH.cons rfl (fun K hK => ?_) (AllReadyH.nil)
              try simp only [y1, y2, y3]
              rw [if_pos (by rfl)]
              refine wp_store_mid 22 (.tmp 10) (.tmp 40) rfl (b120) (0) (vl 16 (px)).toArray rfl rfl (H16.there hz128) (vsz _) (von _) ?_
              simp only [Act.put, y1, y2, y3, y4, y5, y6, List.toList_toArray]
              have hw130 : Below u2.heap.size u2 (w124.setCells b120 0 (vl 16 (px))) := below_store hw126 (by omega) _ 0
              have hz131 : H16 (w124.setCells b120 0 (vl 16 (px))) b120 (px) := H16.store hz128 _
              have hz132 : H16 (w124.setCells b120 0 (vl 16 (px))) b96 _ := H16.storeOther hz127 (by omega) _
              refine hK.out _ _ ?_ (fun hHeld => ?_)
              · exact ⟨range_kept (hw130) (row16_range X3.out), hw130⟩
              clear hK K
              try simp only [Act.put, y1, y2, y3, y4, y5, y6]
              generalize w124.setCells b120 0 (vl 16 (px)) = w129 at *
              refine wpAnyH_ready (rs := [13]) (by kernel_rfl) (by simp) ?_
              refine AllReadyH.cons rfl (fun K hK => ?_) (AllReadyH.nil)
              try simp only [y1, y2, y3]
              rw [if_pos (by rfl)]
              refine wp_store_mid 22 (.tmp 11) (.tmp 45) rfl (b96) (0) (vl 16 (py)).toArray rfl rfl (H16.there hz132) (vsz _) (von _) ?_
              simp only [Act.put, y1, y2, y3, y4, y5, y6, List.toList_toArray]
              have hw134 : Below u2.heap.size u2 (w129.setCells b96 0 (vl 16 (py))) := below_store hw130 (by omega) _ 0
              have hz135 : H16 (w129.setCells b96 0 (vl 16 (py))) b96 (py) := H16.store hz132 _
              have hz136 : H16 (w129.setCells b96 0 (vl 16 (py))) b120 _ := H16.storeOther hz131 (by omega) _
              refine hK.out _ _ ?_ (fun hHeld => ?_)
              · exact ⟨range_kept (hw134) (row16_range X3.out), hw134⟩
              clear hK K
              try simp only [Act.put, y1, y2, y3, y4, y5, y6]
              generalize w129.setCells b96 0 (vl 16 (py)) = w133 at *
              refine wpAnyH_done (by kernel_rfl) ?_ _
              refine NoPanic.normal ?_
              go_wp2_with fail
              go_meet
              refine ⟨_, _, rfl, rfl, Lib.hid hz136, Lib.hid hz135, Lib.hid hw134⟩
        · try simp only [y1, y2, y3]
          go_simp
          have hw138 : Below u2.heap.size u2 (ws1.alloc zO) := hs2.alloc hs2.size _
          have hz139 : H16 (ws1.alloc zO) ws1.heap.size fun _ => 0 := new_h ws1
          have hl141 : u2.heap.size ≤ ws1.heap.size := hs2.size
          refine hK.out _ _ ?_ (fun hHeld => ?_)
          · exact ⟨range_kept (hw138) (row16_range X3.out), hw138⟩
          clear hK K
          try simp only [Act.put, y1, y2, y3, y4, y5, y6]
          generalize ws1.alloc zO = w137 at *
          generalize ws1.heap.size = b140 at *
          refine wpAnyH_ready (rs := [4, 11]) (by kernel_rfl) (by simp) ?_
          refine AllReadyH.cons rfl (fun K hK => ?_) (AllReadyH.cons rfl (fun K hK => ?_) (AllReadyH.nil))
          · try simp only [y1, y2, y3]
            go_simp
            refine (Cpx.out _ (R1.out.go hw138)).mono ?_
            rintro e w142 ⟨rfl, hb143⟩
            rw [aN_vl 16 (px)]
            have hw144 : Below u2.heap.size u2 w142 := hw138.trans (hb143.mono hw138.size)
            have hz145 := H16.call hb143 hz139
            refine hK.out _ _ ?_ (fun hHeld => ?_)
            · exact ⟨range_kept (hw144) (row16_range X3.out), hw144⟩
            clear hK K
            try simp only [Act.put, y1, y2, y3, y4, y5, y6]
            clear hb143
            refine wpAnyH_ready (rs := [9, 11]) (by kernel_rfl) (by simp) ?_
            refine AllReadyH.cons rfl (fun K hK => ?_) (AllReadyH.cons rfl (fun K hK => ?_) (AllReadyH.nil))
            · try simp only [y1, y2, y3]
              go_simp
              refine (Cpy.out _ (R2.out.go hw144)).mono ?_
              rintro e w146 ⟨rfl, hb147⟩
              rw [aN_vl 16 (py)]
              have hw148 : Below u2.heap.size u2 w146 := hw144.trans (hb147.mono hw144.size)
              have hz149 := H16.call hb147 hz145
              refine hK.out _ _ ?_ (fun hHeld => ?_)
              · exact ⟨range_kept (hw148) (row16_range X3.out), hw148⟩
              clear hK K
              try simp only [Act.put, y1, y2, y3, y4, y5, y6]
              clear hb147
              refine wpAnyH_ready (rs := [11]) (by kernel_rfl) (by simp) ?_
              refine AllReadyH.cons rfl (fun K hK => ?_) (AllReadyH.nil)
              try simp only [y1, y2, y3]
              go_simp
              have hw151 : Below u2.heap.size u2 (w146.alloc zO) := hw148.alloc hw148.size _
              have hz152 : H16 (w146.alloc zO) w146.heap.size fun _ => 0 := new_h w146
              have hl154 : u2.heap.size ≤ w146.heap.size := hw148.size
              have hz155 := H16.alloc zO hz149
              have hne156 : b140 < w146.heap.size := hz149.lt
              refine hK.out _ _ ?_ (fun hHeld => ?_)
              · exact ⟨range_kept (hw151) (row16_range X3.out), hw151⟩
              clear hK K
              try simp only [Act.put, y1, y2, y3, y4, y5, y6]
              generalize w146.alloc zO = w150 at *
              generalize w146.heap.size = b153 at *
              refine wpAnyH_ready (rs := [12]) (by kernel_rfl) (by simp) ?_
              refine AllReadyH.cons rfl (fun K hK => ?_) (AllReadyH.nil)
              try simp only [y1, y2, y3]
              rw [if_pos (by rfl)]
              refine wp_store_mid 22 (.tmp 10) (.tmp 40) rfl (b140) (0) (vl 16 (px)).toArray rfl rfl (H16.there hz155) (vsz _) (von _) ?_
              simp only [Act.put, y1, y2, y3, y4, y5, y6, List.toList_toArray]
              have hw158 : Below u2.heap.size u2 (w150.setCells b140 0 (vl 16 (px))) := below_store hw151 (by omega) _ 0
              have hz159 : H16 (w150.setCells b140 0 (vl 16 (px))) b140 (px) := H16.store hz155 _
              have hz160 : H16 (w150.setCells b140 0 (vl 16 (px))) b153 _ := H16.storeOther hz152 (by omega) _
              refine hK.out _ _ ?_ (fun hHeld => ?_)
              · exact ⟨range_kept (hw158) (row16_range X3.out), hw158⟩
              clear hK K
              try simp only [Act.put, y1, y2, y3, y4, y5, y6]
              generalize w150.setCells b140 0 (vl 16 (px)) = w157 at *
              refine wpAnyH_ready (rs := [13]) (by kernel_rfl) (by simp) ?_
              refine AllReadyH.cons rfl (fun K hK => ?_) (AllReadyH.nil)
              try simp only [y1, y2, y3]
              rw [if_pos (by rfl)]
              refine wp_store_mid 22 (.tmp 11) (.tmp 45) rfl (b153) (0) (vl 16 (py)).toArray rfl rfl (H16.there hz160) (vsz _) (von _) ?_
              simp only [Act.put, y1, y2, y3, y4, y5, y6, List.toList_toArray]
              have hw162 : Below u2.heap.size u2 (w157.setCells b153 0 (vl 16 (py))) := below_store hw158 (by omega) _ 0
              have hz163 : H16 (w157.setCells b153 0 (vl 16 (py))) b153 (py) := H16.store hz160 _
              have hz164 : H16 (w157.setCells b153 0 (vl 16 (py))) b140 _ := H16.storeOther hz159 (by omega) _
              refine hK.out _ _ ?_ (fun hHeld => ?_)
              · exact ⟨range_kept (hw162) (row16_range X3.out), hw162⟩
              clear hK K
              try simp only [Act.put, y1, y2, y3, y4, y5, y6]
              generalize w157.setCells b153 0 (vl 16 (py)) = w161 at *
              refine wpAnyH_done (by kernel_rfl) ?_ _
              refine NoPanic.normal ?_
              go_wp2_with fail
              go_meet
              refine ⟨_, _, rfl, rfl, Lib.hid hz164, Lib.hid hz163, Lib.hid hw162⟩
            · try simp only [y1, y2, y3]
              go_simp
              have hw166 : Below u2.heap.size u2 (w142.alloc zO) := hw144.alloc hw144.size _
              have hz167 : H16 (w142.alloc zO) w142.heap.size fun _ => 0 := new_h w142
              have hl169 : u2.heap.size ≤ w142.heap.size := hw144.size
              have hz170 := H16.alloc zO hz145
              have hne171 : b140 < w142.heap.size := hz145.lt
              refine hK.out _ _ ?_ (fun hHeld => ?_)
              · exact ⟨range_kept (hw166) (row16_range X3.out), hw166⟩
              clear hK K
              try simp only [Act.put, y1, y2, y3, y4, y5, y6]
              generalize w142.alloc zO = w165 at *
              generalize w142.heap.size = b168 at *
              refine wpAnyH_ready (rs := [9]) (by kernel_rfl) (by simp) ?_
              refine AllReadyH.cons rfl (fun K hK => ?_) (AllReadyH.nil)
              try simp only [y1, y2, y3]
              go_simp
              refine (Cpy.out _ (R2.out.go hw166)).mono ?_
              rintro e w172 ⟨rfl, hb173⟩
              rw [aN_vl 16 (py)]
              have hw174 : Below u2.heap.size u2 w172 := hw166.trans (hb173.mono hw166.size)
              have hz175 := H16.call hb173 hz170
              have hz176 := H16.call hb173 hz167
              refine hK.out _ _ ?_ (fun hHeld => ?_)
              · exact ⟨range_kept (hw174) (row16_range X3.out), hw174⟩
              clear hK K
              try simp only [Act.put, y1, y2, y3, y4, y5, y6]
              clear hb173
              refine wpAnyH_ready (rs := [12]) (by kernel_rfl) (by simp) ?_
              refine AllReadyH.cons rfl (fun K hK => ?_) (AllReadyH.nil)
              try simp only [y1, y2, y3]
              rw [if_pos (by rfl)]
              refine wp_store_mid 22 (.tmp 10) (.tmp 40) rfl (b140) (0) (vl 16 (px)).toArray rfl rfl (H16.there hz175) (vsz _) (von _) ?_
              simp only [Act.put, y1, y2, y3, y4, y5, y6, List.toList_toArray]
              have hw178 : Below u2.heap.size u2 (w172.setCells b140 0 (vl 16 (px))) := below_store hw174 (by omega) _ 0
              have hz179 : H16 (w172.setCells b140 0 (vl 16 (px))) b140 (px) := H16.store hz175 _
              have hz180 : H16 (w172.setCells b140 0 (vl 16 (px))) b168 _ := H16.storeOther hz176 (by omega) _
              refine hK.out _ _ ?_ (fun hHeld => ?_)
              · exact ⟨range_kept (hw178) (row16_range X3.out), hw178⟩
              clear hK K
              try simp only [Act.put, y1, y2, y3, y4, y5, y6]
              generalize w172.setCells b140 0 (vl 16 (px)) = w177 at *
              refine wpAnyH_ready (rs := [13]) (by kernel_rfl) (by simp) ?_
              refine AllReadyH.cons rfl (fun K hK => ?_) (AllReadyH.nil)
              try simp only [y1, y2, y3]
              rw [if_pos (by rfl)]
              refine wp_store_mid 22 (.tmp 11) (.tmp 45) rfl (b168) (0) (vl 16 (py)).toArray rfl rfl (H16.there hz180) (vsz _) (von _) ?_
              simp only [Act.put, y1, y2, y3, y4, y5, y6, List.toList_toArray]
              have hw182 : Below u2.heap.size u2 (w177.setCells b168 0 (vl 16 (py))) := below_store hw178 (by omega) _ 0
              have hz183 : H16 (w177.setCells b168 0 (vl 16 (py))) b168 (py) := H16.store hz180 _
              have hz184 : H16 (w177.setCells b168 0 (vl 16 (py))) b140 _ := H16.storeOther hz179 (by omega) _
              refine hK.out _ _ ?_ (fun hHeld => ?_)
              · exact ⟨range_kept (hw182) (row16_range X3.out), hw182⟩
              clear hK K
              try simp only [Act.put, y1, y2, y3, y4, y5, y6]
              generalize w177.setCells b168 0 (vl 16 (py)) = w181 at *
              refine wpAnyH_done (by kernel_rfl) ?_ _
              refine NoPanic.normal ?_
              go_wp2_with fail
              go_meet
              refine ⟨_, _, rfl, rfl, Lib.hid hz184, Lib.hid hz183, Lib.hid hw182⟩
          · try simp only [y1, y2, y3]
            go_simp
            have hw186 : Below u2.heap.size u2 (w137.alloc zO) := hw138.alloc hw138.size _
            have hz187 : H16 (w137.alloc zO) w137.heap.size fun _ => 0 := new_h w137
            have hl189 : u2.heap.size ≤ w137.heap.size := hw138.size
            have hz190 := H16.alloc zO hz139
            have hne191 : b140 < w137.heap.size := hz139.lt
            refine hK.out _ _ ?_ (fun hHeld => ?_)
            · exact ⟨range_kept (hw186) (row16_range X3.out), hw186⟩
            clear hK K
            try simp only [Act.put, y1, y2, y3, y4, y5, y6]
            generalize w137.alloc zO = w185 at *
            generalize w137.heap.size = b188 at *
            refine wpAnyH_ready (rs := [4]) (by kernel_rfl) (by simp) ?_
            refine AllReadyH.cons rfl (fun K hK => ?_) (AllReadyH.nil)
            try simp only [y1, y2, y3]
            go_simp
            refine (Cpx.out _ (R1.out.go hw186)).mono ?_
            rintro e w192 ⟨rfl, hb193⟩
            rw [aN_vl 16 (px)]
            have hw194 : Below u2.heap.size u2 w192 := hw186.trans (hb193.mono hw186.size)
            have hz195 := H16.call hb193 hz190
            have hz196 := H16.call hb193 hz187
            refine hK.out _ _ ?_ (fun hHeld => ?_)
            · exact ⟨range_kept (hw194) (row16_range X3.out), hw194⟩
            clear hK K
            try simp only [Act.put, y1, y2, y3, y4, y5, y6]
            clear hb193
            refine wpAnyH_ready (rs := [9]) (by kernel_rfl) (by simp) ?_
            refine AllReadyH.cons rfl (fun K hK => ?_) (AllReadyH.nil)
            try simp only [y1, y2, y3]
            go_simp
            refine (Cpy.out _ (R2.out.go hw194)).mono ?_
            rintro e w197 ⟨rfl, hb198⟩
            rw [aN_vl 16 (py)]
            have hw199 : Below u2.heap.size u2 w197 := hw194.trans (hb198.mono hw194.size)
            have hz200 := H16.call hb198 hz195
            have hz201 := H16.call hb198 hz196
            refine hK.out _ _ ?_ (fun hHeld => ?_)
            · exact ⟨range_kept (hw199) (row16_range X3.out), hw199⟩
            clear hK K
            try simp only [Act.put, y1, y2, y3, y4, y5, y6]
            clear hb198
            refine wpAnyH_ready (rs := [12]) (by kernel_rfl) (by simp) ?_
            refine AllReadyH.cons rfl (fun K hK => ?_) (AllReadyH.nil)
            try simp only [y1, y2, y3]
            rw [if_pos (by rfl)]
            refine wp_store_mid 22 (.tmp 10) (.tmp 40) rfl (b140) (0) (vl 16 (px)).toArray rfl rfl (H16.there hz200) (vsz _) (von _) ?_
            simp only [Act.put, y1, y2, y3, y4, y5, y6, List.toList_toArray]
            have hw203 : Below u2.heap.size u2 (w197.setCells b140 0 (vl 16 (px))) := below_store hw199 (by omega) _ 0
            have hz204 : H16 (w197.setCells b140 0 (vl 16 (px))) b140 (px) := H16.store hz200 _
            have hz205 : H16 (w197.setCells b140 0 (vl 16 (px))) b188 _ := H16.storeOther hz201 (by omega) _
            refine hK.out _ _ ?_ (fun hHeld => ?_)
            · exact ⟨range_kept (hw203) (row16_range X3.out), hw203⟩
            clear hK K
            try simp only [Act.put, y1, y2, y3, y4, y5, y6]
            generalize w197.setCells b140 0 (vl 16 (px)) = w202 at *
            refine wpAnyH_ready (rs := [13]) (by kernel_rfl) (by simp) ?_
            refine AllReadyH.cons rfl (fun K hK => ?_) (AllReadyH.nil)
            try simp only [y1, y2, y3]
            rw [if_pos (by rfl)]
            refine wp_store_mid 22 (.tmp 11) (.tmp 45) rfl (b188) (0) (vl 16 (py)).toArray rfl rfl (H16.there hz205) (vsz _) (von _) ?_
            simp only [Act.put, y1, y2, y3, y4, y5, y6, List.toList_toArray]
            have hw207 : Below u2.heap.size u2 (w202.setCells b188 0 (vl 16 (py))) := below_store hw203 (by omega) _ 0
            have hz208 : H16 (w202.setCells b188 0 (vl 16 (py))) b188 (py) := H16.store hz205 _
            have hz209 : H16 (w202.setCells b188 0 (vl 16 (py))) b140 _ := H16.storeOther hz204 (by omega) _
            refine hK.out _ _ ?_ (fun hHeld => ?_)
            · exact ⟨range_kept (hw207) (row16_range X3.out), hw207⟩
            clear hK K
            try simp only [Act.put, y1, y2, y3, y4, y5, y6]
            generalize w202.setCells b188 0 (vl 16 (py)) = w206 at *
            refine wpAnyH_done (by kernel_rfl) ?_ _
            refine NoPanic.normal ?_
            go_wp2_with fail
            go_meet
            refine ⟨_, _, rfl, rfl, Lib.hid hz209, Lib.hid hz208, Lib.hid hw207⟩
        · try simp only [y1, y2, y3]
          go_simp
          have hw211 : Below u2.heap.size u2 (ws1.alloc zO) := hs2.alloc hs2.size _
          have hz212 : H16 (ws1.alloc zO) ws1.heap.size fun _ => 0 := new_h ws1
          have hl214 : u2.heap.size ≤ ws1.heap.size := hs2.size
          refine hK.out _ _ ?_ (fun hHeld => ?_)
          · exact ⟨range_kept (hw211) (row16_range X3.out), hw211⟩
          clear hK K
          try simp only [Act.put, y1, y2, y3, y4, y5, y6]
          generalize ws1.alloc zO = w210 at *
          generalize ws1.heap.size = b213 at *
          refine wpAnyH_ready (rs := [4, 10]) (by kernel_rfl) (by simp) ?_
          refine AllReadyH.cons rfl (fun K hK => ?_) (AllReadyH.cons rfl (fun K hK => ?_) (AllReadyH.nil))
          · try simp only [y1, y2, y3]
            go_simp
            refine (Cpx.out _ (R1.out.go hw211)).mono ?_
            rintro e w215 ⟨rfl, hb216⟩
            rw [aN_vl 16 (px)]
            have hw217 : Below u2.heap.size u2 w215 := hw211.trans (hb216.mono hw211.size)
            have hz218 := H16.call hb216 hz212
            refine hK.out _ _ ?_ (fun hHeld => ?_)
            · exact ⟨range_kept (hw217) (row16_range X3.out), hw217⟩
            clear hK K
            try simp only [Act.put, y1, y2, y3, y4, y5, y6]
            clear hb216
            refine wpAnyH_ready (rs := [9, 10]) (by kernel_rfl) (by simp) ?_
            refine AllReadyH.cons rfl (fun K hK => ?_) (AllReadyH.cons rfl (fun K hK => ?_) (AllReadyH.nil))
            · try simp only [y1, y2, y3]
              go_simp
              refine (Cpy.out _ (R2.out.go hw217)).mono ?_
              rintro e w219 ⟨rfl, hb220⟩
              rw [aN_vl 16 (py)]
              have hw221 : Below u2.heap.size u2 w219 := hw217.trans (hb220.mono hw217.size)
              have hz222 := H16.call hb220 hz218
              refine hK.out _ _ ?_ (fun hHeld => ?_)
              · exact ⟨range_kept (hw221) (row16_range X3.out), hw221⟩
              clear hK K
              try simp only [Act.put, y1, y2, y3, y4, y5, y6]
              clear hb220
              refine wpAnyH_ready (rs := [10]) (by kernel_rfl) (by simp) ?_
              refine AllReadyH.cons rfl (fun K hK => ?_) (AllReadyH.nil)
              try simp only [y1, y2, y3]
              go_simp
              have hw224 : Below u2.heap.size u2 (w219.alloc zO) := hw221.alloc hw221.size _
              have hz225 : H16 (w219.alloc zO) w219.heap.size fun _ => 0 := new_h w219
              have hl227 : u2.heap.size ≤ w219.heap.size := hw221.size
              have hz228 := H16.alloc zO hz222
              have hne229 : b213 < w219.heap.size := hz222.lt
              refine hK.out _ _ ?_ (fun hHeld => ?_)
              · exact ⟨range_kept (hw224) (row16_range X3.out), hw224⟩
              clear hK K
              try simp only [Act.put, y1, y2, y3, y4, y5, y6]
              generalize w219.alloc zO = w223 at *
              generalize w219.heap.size = b226 at *
              refine wpAnyH_ready (rs := [12]) (by kernel_rfl) (by simp) ?_
              refine AllReadyH.cons rfl (fun K hK => ?_) (AllReadyH.nil)
              try simp only [y1, y2, y3]
              rw [if_pos (by rfl)]
              refine wp_store_mid 22 (.tmp 10) (.tmp 40) rfl (b226) (0) (vl 16 (px)).toArray rfl rfl (H16.there hz225) (vsz _) (von _) ?_
              simp only [Act.put, y1, y2, y3, y4, y5, y6, List.toList_toArray]
              have hw231 : Below u2.heap.size u2 (w223.setCells b226 0 (vl 16 (px))) := below_store hw224 (by omega) _ 0
              have hz232 : H16 (w223.setCells b226 0 (vl 16 (px))) b226 (px) := H16.store hz225 _
              have hz233 : H16 (w223.setCells b226 0 (vl 16 (px))) b213 _ := H16.storeOther hz228 (by omega) _
              refine hK.out _ _ ?_ (fun hHeld => ?_)
              · exact ⟨range_kept (hw231) (row16_range X3.out), hw231⟩
              clear hK K
              try simp only [Act.put, y1, y2, y3, y4, y5, y6]
              generalize w223.setCells b226 0 (vl 16 (px)) = w230 at *
              refine wpAnyH_ready (rs := [13]) (by kernel_rfl) (by simp) ?_
              refine AllReadyH.cons rfl (fun K hK => ?_) (AllReadyH.nil)
              try simp only [y1, y2, y3]
              rw [if_pos (by rfl)]
              refine wp_store_mid 22 (.tmp 11) (.tmp 45) rfl (b213) (0) (vl 16 (py)).toArray rfl rfl (H16.there hz233) (vsz _) (von _) ?_
              simp only [Act.put, y1, y2, y3, y4, y5, y6, List.toList_toArray]
              have hw235 : Below u2.heap.size u2 (w230.setCells b213 0 (vl 16 (py))) := below_store hw231 (by omega) _ 0
              have hz236 : H16 (w230.setCells b213 0 (vl 16 (py))) b213 (py) := H16.store hz233 _
              have hz237 : H16 (w230.setCells b213 0 (vl 16 (py))) b226 _ := H16.storeOther hz232 (by omega) _
              refine hK.out _ _ ?_ (fun hHeld => ?_)
              · exact ⟨range_kept (hw235) (row16_range X3.out), hw235⟩
              clear hK K
              try simp only [Act.put, y1, y2, y3, y4, y5, y6]
              generalize w230.setCells b213 0 (vl 16 (py)) = w234 at *
              refine wpAnyH_done (by kernel_rfl) ?_ _
              refine NoPanic.normal ?_
              go_wp2_with fail
              go_meet
              refine ⟨_, _, rfl, rfl, Lib.hid hz237, Lib.hid hz236, Lib.hid hw235⟩
            · try simp only [y1, y2, y3]
              go_simp
              have hw239 : Below u2.heap.size u2 (w215.alloc zO) := hw217.alloc hw217.size _
              have hz240 : H16 (w215.alloc zO) w215.heap.size fun _ => 0 := new_h w215
              have hl242 : u2.heap.size ≤ w215.heap.size := hw217.size
              have hz243 := H16.alloc zO hz218
              have hne244 : b213 < w215.heap.size := hz218.lt
              refine hK.out _ _ ?_ (fun hHeld => ?_)
              · exact ⟨range_kept (hw239) (row16_range X3.out), hw239⟩
              clear hK K
              try simp only [Act.put, y1, y2, y3, y4, y5, y6]
              generalize w215.alloc zO = w238 at *
              generalize w215.heap.size = b241 at *
              refine wpAnyH_ready (rs := [9]) (by kernel_rfl) (by simp) ?_
              refine AllReadyH.cons rfl (fun K hK => ?_) (AllReadyH.nil)
              try simp only [y1, y2, y3]
              go_simp
              refine (Cpy.out _ (R2.out.go hw239)).mono ?_
              rintro e w245 ⟨rfl, hb246⟩
              rw [aN_vl 16 (py)]
              have hw247 : Below u2.heap.size u2 w245 := hw239.trans (hb246.mono hw239.size)
              have hz248 := H16.call hb246 hz243
              have hz249 := H16.call hb246 hz240
              refine hK.out _ _ ?_ (fun hHeld => ?_)
              · exact ⟨range_kept (hw247) (row16_range X3.out), hw247⟩
              clear hK K
              try simp only [Act.put, y1, y2, y3, y4, y5, y6]
              clear hb246
              refine wpAnyH_ready (rs := [12]) (by kernel_rfl) (by simp) ?_
              refine AllReadyH.cons rfl (fun K hK => ?_) (AllReadyH.nil)
              try simp only [y1, y2, y3]
              rw [if_pos (by rfl)]
              refine wp_store_mid 22 (.tmp 10) (.tmp 40) rfl (b241) (0) (vl 16 (px)).toArray rfl rfl (H16.there hz249) (vsz _) (von _) ?_
              simp only [Act.put, y1, y2, y3, y4, y5, y6, List.toList_toArray]
              have hw251 : Below u2.heap.size u2 (w245.setCells b241 0 (vl 16 (px))) := below_store hw247 (by omega) _ 0
              have hz252 : H16 (w245.setCells b241 0 (vl 16 (px))) b241 (px) := H16.store hz249 _
              have hz253 : H16 (w245.setCells b241 0 (vl 16 (px))) b213 _ := H16.storeOther hz248 (by omega) _
              refine hK.out _ _ ?_ (fun hHeld => ?_)
              · exact ⟨range_kept (hw251) (row16_range X3.out), hw251⟩
              clear hK K
              try simp only [Act.put, y1, y2, y3, y4, y5, y6]
              generalize w245.setCells b241 0 (vl 16 (px)) = w250 at *
              refine wpAnyH_ready (rs := [13]) (by kernel_rfl) (by simp) ?_
              refine AllReadyH.cons rfl (fun K hK => ?_) (AllReadyH.nil)
              try simp only [y1, y2, y3]
              rw [if_pos (by rfl)]
              refine wp_store_mid 22 (.tmp 11) (.tmp 45) rfl (b213) (0) (vl 16 (py)).toArray rfl rfl (H16.there hz253) (vsz _) (von _) ?_
              simp only [Act.put, y1, y2, y3, y4, y5, y6, List.toList_toArray]
              have hw255 : Below u2.heap.size u2 (w250.setCells b213 0 (vl 16 (py))) := below_store hw251 (by omega) _ 0
              have hz256 : H16 (w250.setCells b213 0 (vl 16 (py))) b213 (py) := H16.store hz253 _
              have hz257 : H16 (w250.setCells b213 0 (vl 16 (py))) b241 _ := H16.storeOther hz252 (by omega) _
              refine hK.out _ _ ?_ (fun hHeld => ?_)
              · exact ⟨range_kept (hw255) (row16_range X3.out), hw255⟩
              clear hK K
              try simp only [Act.put, y1, y2, y3, y4, y5, y6]
              generalize w250.setCells b213 0 (vl 16 (py)) = w254 at *
              refine wpAnyH_done (by kernel_rfl) ?_ _
              refine NoPanic.normal ?_
              go_wp2_with fail
              go_meet
              refine ⟨_, _, rfl, rfl, Lib.hid hz257, Lib.hid hz256, Lib.hid hw255⟩
          · try simp only [y1, y2, y3]
            go_simp
            have hw259 : Below u2.heap.size u2 (w210.alloc zO) := hw211.alloc hw211.size _
            have hz260 : H16 (w210.alloc zO) w210.heap.size fun _ => 0 := new_h w210
            have hl262 : u2.heap.size ≤ w210.heap.size := hw211.size
            have hz263 := H16.alloc zO hz212
            have hne264 : b213 < w210.heap.size := hz212.lt
            refine hK.out _ _ ?_ (fun hHeld => ?_)
            · exact ⟨range_kept (hw259) (row16_range X3.out), hw259⟩
            clear hK K
            try simp only [Act.put, y1, y2, y3, y4, y5, y6]
            generalize w210.alloc zO = w258 at *
            generalize w210.heap.size = b261 at *
            refine wpAnyH_ready (rs := [4]) (by kernel_rfl) (by simp) ?_
            refine AllReadyH.cons rfl (fun K hK => ?_) (AllReadyH.nil)
            try simp only [y1, y2, y3]
            go_simp
            refine (Cpx.out _ (R1.out.go hw259)).mono ?_
            rintro e w265 ⟨rfl, hb266⟩
            rw [aN_vl 16 (px)]
            have hw267 : Below u2.heap.size u2 w265 := hw259.trans (hb266.mono hw259.size)
            have hz268 := H16.call hb266 hz263
            have hz269 := H16.call hb266 hz260
            refine hK.out _ _ ?_ (fun hHeld => ?_)
            · exact ⟨range_kept (hw267) (row16_range X3.out), hw267⟩
            clear hK K
            try simp only [Act.put, y1, y2, y3, y4, y5, y6]
            clear hb266
            refine wpAnyH_ready (rs := [9]) (by kernel_rfl) (by simp) ?_
            refine AllReadyH.cons rfl (fun K hK => ?_) (AllReadyH.nil)
            try simp only [y1, y2, y3]
            go_simp
            refine (Cpy.out _ (R2.out.go hw267)).mono ?_
            rintro e w270 ⟨rfl, hb271⟩
            rw [aN_vl 16 (py)]
            have hw272 : Below u2.heap.size u2 w270 := hw267.trans (hb271.mono hw267.size)
            have hz273 := H16.call hb271 hz268
            have hz274 := H16.call hb271 hz269
            refine hK.out _ _ ?_ (fun hHeld => ?_)
            · exact ⟨range_kept (hw272) (row16_range X3.out), hw272⟩
            clear hK K
            try simp only [Act.put, y1, y2, y3, y4, y5, y6]
            clear hb271
            refine wpAnyH_ready (rs := [12]) (by kernel_rfl) (by simp) ?_
            refine AllReadyH.cons rfl (fun K hK => ?_) (AllReadyH.nil)
            try simp only [y1, y2, y3]
            rw [if_pos (by rfl)]
            refine wp_store_mid 22 (.tmp 10) (.tmp 40) rfl (b261) (0) (vl 16 (px)).toArray rfl rfl (H16.there hz274) (vsz _) (von _) ?_
            simp only [Act.put, y1, y2, y3, y4, y5, y6, List.toList_toArray]
            have hw276 : Below u2.heap.size u2 (w270.setCells b261 0 (vl 16 (px))) := below_store hw272 (by omega) _ 0
            have hz277 : H16 (w270.setCells b261 0 (vl 16 (px))) b261 (px) := H16.store hz274 _
            have hz278 : H16 (w270.setCells b261 0 (vl 16 (px))) b213 _ := H16.storeOther hz273 (by omega) _
            refine hK.out _ _ ?_ (fun hHeld => ?_)
            · exact ⟨range_kept (hw276) (row16_range X3.out), hw276⟩
            clear hK K
            try simp only [Act.put, y1, y2, y3, y4, y5, y6]
            generalize w270.setCells b261 0 (vl 16 (px)) = w275 at *
            refine wpAnyH_ready (rs := [13]) (by kernel_rfl) (by simp) ?_
            refine AllReadyH.cons rfl (fun K hK => ?_) (AllReadyH.nil)
            try simp only [y1, y2, y3]
            rw [if_pos (by rfl)]
            refine wp_store_mid 22 (.tmp 11) (.tmp 45) rfl (b213) (0) (vl 16 (py)).toArray rfl rfl (H16.there hz278) (vsz _) (von _) ?_
            simp only [Act.put, y1, y2, y3, y4, y5, y6, List.toList_toArray]
            have hw280 : Below u2.heap.size u2 (w275.setCells b213 0 (vl 16 (py))) := below_store hw276 (by omega) _ 0
            have hz281 : H16 (w275.setCells b213 0 (vl 16 (py))) b213 (py) := H16.store hz278 _
            have hz282 : H16 (w275.setCells b213 0 (vl 16 (py))) b261 _ := H16.storeOther hz277 (by omega) _
            refine hK.out _ _ ?_ (fun hHeld => ?_)
            · exact ⟨range_kept (hw280) (row16_range X3.out), hw280⟩
            clear hK K
            try simp only [Act.put, y1, y2, y3, y4, y5, y6]
            generalize w275.setCells b213 0 (vl 16 (py)) = w279 at *
            refine wpAnyH_done (by kernel_rfl) ?_ _
            refine NoPanic.normal ?_
            go_wp2_with fail
            go_meet
            refine ⟨_, _, rfl, rfl, Lib.hid hz282, Lib.hid hz281, Lib.hid hw280⟩
      case rest =>
        obtain ⟨b10, b11, rfl, rfl, X10, X11, HW⟩ := hcut
        obtain ⟨u9, rfl⟩ : ∃ u9 : World, u9 = wc := ⟨_, rfl⟩
        replace X3 := Lib.hid (H16.call HW.out X3.out)
        replace R1 := Lib.hid (R1.out.go HW.out)
        replace R2 := Lib.hid (R2.out.go HW.out)
        replace R8 := Lib.hid (R8.out.go HW.out)
        replace HB : Hid (Below w.heap.size w u9) := Lib.hid (HB.out.trans (HW.out.mono HB.out.size))
        clear HW
        try clear u2
        go_upto_region 9 with fail
        go_cut [12, 13] (fun s12 s13 wx => ∃ b12 b13 : Nat, s12 = .pointer (some ⟨b12, 0, none⟩) ∧ s13 = .pointer (some ⟨b13, 0, none⟩) ∧ Hid (H16 wx b12 (pz)) ∧ Hid (H16 wx b13 (po)) ∧ Hid (Below u9.heap.size u9 wx))
        case first =>
          refine wp_region_noPanic ?_
          refine wp_region_held_drew (S := (fun w' => w'.rangeAt (c3) 0 (vl 16 (h)) ∧ Below u9.heap.size u9 w')) (by kernel_rfl) ?_ (fun hHeld => ?_)
          · exact ⟨range_kept ((Below.refl u9.heap.size u9).drew) (row16_range X3.out), (Below.refl u9.heap.size u9).drew⟩
          have hs2 : Below u9.heap.size u9 u9.drew := (Below.refl u9.heap.size u9).drew
          generalize u9.drew = ws1 at *
          refine wpAnyH_take (i := 0) rfl (by kernel_rfl) (by kernel_rfl) (by kernel_rfl) (fun _ _ _ h => h) (yieldsIf_load_mid (by rfl) 22 (.tmp 3) rfl (c3) (0) rfl (vl 16 (h)) (.array 16 5) (fun _ h => h.1) Try.underlying22 rfl (vln _)) hHeld ?_
          try simp only [Act.put, y1, y2, y3, y4, y5, y6]
          refine wpAnyH_take (i := 1) (v := ?_) rfl (by kernel_rfl) (by kernel_rfl) (by kernel_rfl) (fun _ _ _ h => h) (Or.inl ⟨by rfl, ?_⟩) hHeld ?_
          rotate_left
          · intro w' hSw
            (try dsimp only at hSw)
            go_simp
            try with_reducible rfl
          try simp only [Act.put, y1, y2, y3, y4, y5, y6]
          refine wpAnyH_take (i := 3) rfl (by kernel_rfl) (by kernel_rfl) (by kernel_rfl) (fun _ _ _ h => h) (yieldsIf_load_mid (by rfl) 22 (.tmp 3) rfl (c3) (0) rfl (vl 16 (h)) (.array 16 5) (fun _ h => h.1) Try.underlying22 rfl (vln _)) hHeld ?_
          try simp only [Act.put, y1, y2, y3, y4, y5, y6]
          refine wpAnyH_take (i := 4) (v := ?_) rfl (by kernel_rfl) (by kernel_rfl) (by kernel_rfl) (fun _ _ _ h => h) (Or.inl ⟨by rfl, ?_⟩) hHeld ?_
          rotate_left
          · intro w' hSw
            (try dsimp only at hSw)
            go_simp
            try with_reducible rfl
          try simp only [Act.put, y1, y2, y3, y4, y5, y6]
          refine wpAnyH_ready (rs := [2, 5, 7, 8]) (by kernel_rfl) (by simp) ?_
          refine AllReadyH.cons rfl (fun K hK => ?_) (AllReadyH.cons rfl (fun K hK => ?_) (AllReadyH.cons rfl (fun K hK => ?_) (AllReadyH.cons rfl (fun K hK => ?_) (AllReadyH.nil))))
          · try simp only [y1, y2, y3]
            go_simp
            refine (Cpz.out _ (R8.out.go hs2)).mono ?_
            rintro e w3 ⟨rfl, hb4⟩
            rw [aN_vl 16 (pz)]
            have hw5 : Below u9.heap.size u9 w3 := hs2.trans (hb4.mono hs2.size)
            refine hK.out _ _ ?_ (fun hHeld => ?_)
            · exact ⟨range_kept (hw5) (row16_range X3.out), hw5⟩
            clear hK K
            try simp only [Act.put, y1, y2, y3, y4, y5, y6]
            clear hb4
            refine wpAnyH_ready (rs := [5, 7, 8]) (by kernel_rfl) (by simp) ?_
            refine AllReadyH.cons rfl (fun K hK => ?_) (AllReadyH.cons rfl (fun K hK => ?_) (AllReadyH.cons rfl (fun K hK => ?_) (AllReadyH.nil)))
            · try simp only [y1, y2, y3]
              go_simp
              have hw7 : Below u9.heap.size u9 (w3.alloc (.cells (zrow k) 5)) := hw5.alloc hw5.size _
              have hr8 : Rd (w3.alloc (.cells (zrow k) 5)) (w3.alloc (.cells (zrow k) 5)).heap.size (some ⟨w3.heap.size, 0, none⟩) (vn (List.replicate k 0)) := zrow_rd k w3
              refine hK.out _ _ ?_ (fun hHeld => ?_)
              · exact ⟨range_kept (hw7) (row16_range X3.out), hw7⟩
              clear hK K
              try simp only [Act.put, y1, y2, y3, y4, y5, y6]
              generalize w3.alloc (.cells (zrow k) 5) = w6 at *
              generalize w3.heap.size = b9 at *
              refine wpAnyH_ready (rs := [6, 7, 8]) (by kernel_rfl) (by simp) ?_
              refine AllReadyH.cons rfl (fun K hK => ?_) (AllReadyH.cons rfl (fun K hK => ?_) (AllReadyH.cons rfl (fun K hK => ?_) (AllReadyH.nil)))
              · try simp only [y1, y2, y3]
                go_simp
                refine (Cpo.out _ _ hr8).mono ?_
                rintro e w10 ⟨rfl, hb11⟩
                rw [aN_vl 16 (po)]
                have hw12 : Below u9.heap.size u9 w10 := hw7.trans (hb11.mono hw7.size)
                have hr13 := Rd.go hr8 hb11
                refine hK.out _ _ ?_ (fun hHeld => ?_)
                · exact ⟨range_kept (hw12) (row16_range X3.out), hw12⟩
                clear hK K
                try simp only [Act.put, y1, y2, y3, y4, y5, y6]
                clear hb11
                refine wpAnyH_ready (rs := [7, 8]) (by kernel_rfl) (by simp) ?_
                refine AllReadyH.cons rfl (fun K hK => ?_) (AllReadyH.cons rfl (fun K hK => ?_) (AllReadyH.nil))
                · try simp only [y1, y2, y3]
                  go_simp
                  have hw15 : Below u9.heap.size u9 (w10.alloc zO) := hw12.alloc hw12.size _
                  have hz16 : H16 (w10.alloc zO) w10.heap.size fun _ => 0 := new_h w10
                  have hl18 : u9.heap.size ≤ w10.heap.size := hw12.size
                  have hr19 := Rd.go hr13 ((Below.refl _ _).alloc (Nat.le_refl _) zO)
                  refine hK.out _ _ ?_ (fun hHeld => ?_)
                  · exact ⟨range_kept (hw15) (row16_range X3.out), hw15⟩
                  clear hK K
                  try simp only [Act.put, y1, y2, y3, y4, y5, y6]
                  generalize w10.alloc zO = w14 at *
                  generalize w10.heap.size = b17 at *
                  refine wpAnyH_ready (rs := [8]) (by kernel_rfl) (by simp) ?_
                  refine AllReadyH.cons rfl (fun K hK => ?_) (AllReadyH.nil)
                  try simp only [y1, y2, y3]
                  go_simp
                  have hw21 : Below u9.heap.size u9 (w14.alloc zO) := hw15.alloc hw15.size _
                  have hz22 : H16 (w14.alloc zO) w14.heap.size fun _ => 0 := new_h w14
                  have hl24 : u9.heap.size ≤ w14.heap.size := hw15.size
                  have hr25 := Rd.go hr19 ((Below.refl _ _).alloc (Nat.le_refl _) zO)
                  have hz26 := H16.alloc zO hz16
                  have hne27 : b17 < w14.heap.size := hz16.lt
                  refine hK.out _ _ ?_ (fun hHeld => ?_)
                  · exact ⟨range_kept (hw21) (row16_range X3.out), hw21⟩
                  clear hK K
                  try simp only [Act.put, y1, y2, y3, y4, y5, y6]
                  generalize w14.alloc zO = w20 at *
                  generalize w14.heap.size = b23 at *
                  refine wpAnyH_ready (rs := [9]) (by kernel_rfl) (by simp) ?_
                  refine AllReadyH.cons rfl (fun K hK => ?_) (AllReadyH.nil)
                  try simp only [y1, y2, y3]
                  rw [if_pos (by rfl)]
                  refine wp_store_mid 22 (.tmp 12) (.tmp 48) rfl (b17) (0) (vl 16 (pz)).toArray rfl rfl (H16.there hz26) (vsz _) (von _) ?_
                  simp only [Act.put, y1, y2, y3, y4, y5, y6, List.toList_toArray]
                  have hw29 : Below u9.heap.size u9 (w20.setCells b17 0 (vl 16 (pz))) := below_store hw21 (by omega) _ 0
                  have hz30 : H16 (w20.setCells b17 0 (vl 16 (pz))) b17 (pz) := H16.store hz26 _
                  have hz31 : H16 (w20.setCells b17 0 (vl 16 (pz))) b23 _ := H16.storeOther hz22 (by omega) _
                  refine hK.out _ _ ?_ (fun hHeld => ?_)
                  · exact ⟨range_kept (hw29) (row16_range X3.out), hw29⟩
                  clear hK K
                  try simp only [Act.put, y1, y2, y3, y4, y5, y6]
                  generalize w20.setCells b17 0 (vl 16 (pz)) = w28 at *
                  refine wpAnyH_ready (rs := [10]) (by kernel_rfl) (by simp) ?_
                  refine AllReadyH.cons rfl (fun K hK => ?_) (AllReadyH.nil)
                  try simp only [y1, y2, y3]
                  rw [if_pos (by rfl)]
                  refine wp_store_mid 22 (.tmp 13) (.tmp 52) rfl (b23) (0) (vl 16 (po)).toArray rfl rfl (H16.there hz31) (vsz _) (von _) ?_
                  simp only [Act.put, y1, y2, y3, y4, y5, y6, List.toList_toArray]
                  have hw33 : Below u9.heap.size u9 (w28.setCells b23 0 (vl 16 (po))) := below_store hw29 (by omega) _ 0
                  have hz34 : H16 (w28.setCells b23 0 (vl 16 (po))) b23 (po) := H16.store hz31 _
                  have hz35 : H16 (w28.setCells b23 0 (vl 16 (po))) b17 _ := H16.storeOther hz30 (by omega) _
                  refine hK.out _ _ ?_ (fun hHeld => ?_)
                  · exact ⟨range_kept (hw33) (row16_range X3.out), hw33⟩
                  clear hK K
                  try simp only [Act.put, y1, y2, y3, y4, y5, y6]
                  generalize w28.setCells b23 0 (vl 16 (po)) = w32 at *
                  refine wpAnyH_done (by kernel_rfl) ?_ _
                  refine NoPanic.normal ?_
                  go_wp2_with fail
                  go_meet
                  refine ⟨_, _, rfl, rfl, Lib.hid hz35, Lib.hid hz34, Lib.hid hw33⟩
                · try simp only [y1, y2, y3]
                  go_simp
                  have hw37 : Below u9.heap.size u9 (w10.alloc zO) := hw12.alloc hw12.size _
                  have hz38 : H16 (w10.alloc zO) w10.heap.size fun _ => 0 := new_h w10
                  have hl40 : u9.heap.size ≤ w10.heap.size := hw12.size
                  have hr41 := Rd.go hr13 ((Below.refl _ _).alloc (Nat.le_refl _) zO)
                  refine hK.out _ _ ?_ (fun hHeld => ?_)
                  · exact ⟨range_kept (hw37) (row16_range X3.out), hw37⟩
                  clear hK K
                  try simp only [Act.put, y1, y2, y3, y4, y5, y6]
                  generalize w10.alloc zO = w36 at *
                  generalize w10.heap.size = b39 at *
                  refine wpAnyH_ready (rs := [7]) (by kernel_rfl) (by simp) ?_
                  refine AllReadyH.cons rfl (fun K hK => ?_) (AllReadyH.nil)
                  try simp only [y1, y2, y3]
                  go_simp
                  have hw43 : Below u9.heap.size u9 (w36.alloc zO) := hw37.alloc hw37.size _
                  have hz44 : H16 (w36.alloc zO) w36.heap.size fun _ => 0 := new_h w36
                  have hl46 : u9.heap.size ≤ w36.heap.size := hw37.size
                  have hr47 := Rd.go hr41 ((Below.refl _ _).alloc (Nat.le_refl _) zO)
                  have hz48 := H16.alloc zO hz38
                  have hne49 : b39 < w36.heap.size := hz38.lt
                  refine hK.out _ _ ?_ (fun hHeld => ?_)
                  · exact ⟨range_kept (hw43) (row16_range X3.out), hw43⟩
                  clear hK K
                  try simp only [Act.put, y1, y2, y3, y4, y5, y6]
                  generalize w36.alloc zO = w42 at *
                  generalize w36.heap.size = b45 at *
                  refine wpAnyH_ready (rs := [9]) (by kernel_rfl) (by simp) ?_
                  refine AllReadyH.cons rfl (fun K hK => ?_) (AllReadyH.nil)
                  try simp only [y1, y2, y3]
                  rw [if_pos (by rfl)]
                  refine wp_store_mid 22 (.tmp 12) (.tmp 48) rfl (b45) (0) (vl 16 (pz)).toArray rfl rfl (H16.there hz44) (vsz _) (von _) ?_
                  simp only [Act.put, y1, y2, y3, y4, y5, y6, List.toList_toArray]
                  have hw51 : Below u9.heap.size u9 (w42.setCells b45 0 (vl 16 (pz))) := below_store hw43 (by omega) _ 0
                  have hz52 : H16 (w42.setCells b45 0 (vl 16 (pz))) b45 (pz) := H16.store hz44 _
                  have hz53 : H16 (w42.setCells b45 0 (vl 16 (pz))) b39 _ := H16.storeOther hz48 (by omega) _
                  refine hK.out _ _ ?_ (fun hHeld => ?_)
                  · exact ⟨range_kept (hw51) (row16_range X3.out), hw51⟩
                  clear hK K
                  try simp only [Act.put, y1, y2, y3, y4, y5, y6]
                  generalize w42.setCells b45 0 (vl 16 (pz)) = w50 at *
                  refine wpAnyH_ready (rs := [10]) (by kernel_rfl) (by simp) ?_
                  refine AllReadyH.cons rfl (fun K hK => ?_) (AllReadyH.nil)
                  try simp only [y1, y2, y3]
                  rw [if_pos (by rfl)]
                  refine wp_store_mid 22 (.tmp 13) (.tmp 52) rfl (b39) (0) (vl 16 (po)).toArray rfl rfl (H16.there hz53) (vsz _) (von _) ?_
                  simp only [Act.put, y1, y2, y3, y4, y5, y6, List.toList_toArray]
                  have hw55 : Below u9.heap.size u9 (w50.setCells b39 0 (vl 16 (po))) := below_store hw51 (by omega) _ 0
                  have hz56 : H16 (w50.setCells b39 0 (vl 16 (po))) b39 (po) := H16.store hz53 _
                  have hz57 : H16 (w50.setCells b39 0 (vl 16 (po))) b45 _ := H16.storeOther hz52 (by omega) _
                  refine hK.out _ _ ?_ (fun hHeld => ?_)
                  · exact ⟨range_kept (hw55) (row16_range X3.out), hw55⟩
                  clear hK K
                  try simp only [Act.put, y1, y2, y3, y4, y5, y6]
                  generalize w50.setCells b39 0 (vl 16 (po)) = w54 at *
                  refine wpAnyH_done (by kernel_rfl) ?_ _
                  refine NoPanic.normal ?_
                  go_wp2_with fail
                  go_meet
                  refine ⟨_, _, rfl, rfl, Lib.hid hz57, Lib.hid hz56, Lib.hid hw55⟩
              · try simp only [y1, y2, y3]
                go_simp
                have hw59 : Below u9.heap.size u9 (w6.alloc zO) := hw7.alloc hw7.size _
                have hz60 : H16 (w6.alloc zO) w6.heap.size fun _ => 0 := new_h w6
                have hl62 : u9.heap.size ≤ w6.heap.size := hw7.size
                have hr63 := Rd.go hr8 ((Below.refl _ _).alloc (Nat.le_refl _) zO)
                refine hK.out _ _ ?_ (fun hHeld => ?_)
                · exact ⟨range_kept (hw59) (row16_range X3.out), hw59⟩
                clear hK K
                try simp only [Act.put, y1, y2, y3, y4, y5, y6]
                generalize w6.alloc zO = w58 at *
                generalize w6.heap.size = b61 at *
                refine wpAnyH_ready (rs := [6, 8]) (by kernel_rfl) (by simp) ?_
                refine AllReadyH.cons rfl (fun K hK => ?_) (AllReadyH.cons rfl (fun K hK => ?_) (AllReadyH.nil))
                · try simp only [y1, y2, y3]
                  go_simp
                  refine (Cpo.out _ _ hr63).mono ?_
                  rintro e w64 ⟨rfl, hb65⟩
                  rw [aN_vl 16 (po)]
                  have hw66 : Below u9.heap.size u9 w64 := hw59.trans (hb65.mono hw59.size)
                  have hz67 := H16.call hb65 hz60
                  have hr68 := Rd.go hr63 hb65
                  refine hK.out _ _ ?_ (fun hHeld => ?_)
                  · exact ⟨range_kept (hw66) (row16_range X3.out), hw66⟩
                  clear hK K
                  try simp only [Act.put, y1, y2, y3, y4, y5, y6]
                  clear hb65
                  refine wpAnyH_ready (rs := [8]) (by kernel_rfl) (by simp) ?_
                  refine AllReadyH.cons rfl (fun K hK => ?_) (AllReadyH.nil)
                  try simp only [y1, y2, y3]
                  go_simp
                  have hw70 : Below u9.heap.size u9 (w64.alloc zO) := hw66.alloc hw66.size _
                  have hz71 : H16 (w64.alloc zO) w64.heap.size fun _ => 0 := new_h w64
                  have hl73 : u9.heap.size ≤ w64.heap.size := hw66.size
                  have hr74 := Rd.go hr68 ((Below.refl _ _).alloc (Nat.le_refl _) zO)
                  have hz75 := H16.alloc zO hz67
                  have hne76 : b61 < w64.heap.size := hz67.lt
                  refine hK.out _ _ ?_ (fun hHeld => ?_)
                  · exact ⟨range_kept (hw70) (row16_range X3.out), hw70⟩
                  clear hK K
                  try simp only [Act.put, y1, y2, y3, y4, y5, y6]
                  generalize w64.alloc zO = w69 at *
                  generalize w64.heap.size = b72 at *
                  refine wpAnyH_ready (rs := [9]) (by kernel_rfl) (by simp) ?_
                  refine AllReadyH.cons rfl (fun K hK => ?_) (AllReadyH.nil)
                  try simp only [y1, y2, y3]
                  rw [if_pos (by rfl)]
                  refine wp_store_mid 22 (.tmp 12) (.tmp 48) rfl (b61) (0) (vl 16 (pz)).toArray rfl rfl (H16.there hz75) (vsz _) (von _) ?_
                  simp only [Act.put, y1, y2, y3, y4, y5, y6, List.toList_toArray]
                  have hw78 : Below u9.heap.size u9 (w69.setCells b61 0 (vl 16 (pz))) := below_store hw70 (by omega) _ 0
                  have hz79 : H16 (w69.setCells b61 0 (vl 16 (pz))) b61 (pz) := H16.store hz75 _
                  have hz80 : H16 (w69.setCells b61 0 (vl 16 (pz))) b72 _ := H16.storeOther hz71 (by omega) _
                  refine hK.out _ _ ?_ (fun hHeld => ?_)
                  · exact ⟨range_kept (hw78) (row16_range X3.out), hw78⟩
                  clear hK K
                  try simp only [Act.put, y1, y2, y3, y4, y5, y6]
                  generalize w69.setCells b61 0 (vl 16 (pz)) = w77 at *
                  refine wpAnyH_ready (rs := [10]) (by kernel_rfl) (by simp) ?_
                  refine AllReadyH.cons rfl (fun K hK => ?_) (AllReadyH.nil)
                  try simp only [y1, y2, y3]
                  rw [if_pos (by rfl)]
                  refine wp_store_mid 22 (.tmp 13) (.tmp 52) rfl (b72) (0) (vl 16 (po)).toArray rfl rfl (H16.there hz80) (vsz _) (von _) ?_
                  simp only [Act.put, y1, y2, y3, y4, y5, y6, List.toList_toArray]
                  have hw82 : Below u9.heap.size u9 (w77.setCells b72 0 (vl 16 (po))) := below_store hw78 (by omega) _ 0
                  have hz83 : H16 (w77.setCells b72 0 (vl 16 (po))) b72 (po) := H16.store hz80 _
                  have hz84 : H16 (w77.setCells b72 0 (vl 16 (po))) b61 _ := H16.storeOther hz79 (by omega) _
                  refine hK.out _ _ ?_ (fun hHeld => ?_)
                  · exact ⟨range_kept (hw82) (row16_range X3.out), hw82⟩
                  clear hK K
                  try simp only [Act.put, y1, y2, y3, y4, y5, y6]
                  generalize w77.setCells b72 0 (vl 16 (po)) = w81 at *
                  refine wpAnyH_done (by kernel_rfl) ?_ _
                  refine NoPanic.normal ?_
                  go_wp2_with fail
                  go_meet
                  refine ⟨_, _, rfl, rfl, Lib.hid hz84, Lib.hid hz83, Lib.hid hw82⟩
                · try simp only [y1, y2, y3]
                  go_simp
                  have hw86 : Below u9.heap.size u9 (w58.alloc zO) := hw59.alloc hw59.size _
                  have hz87 : H16 (w58.alloc zO) w58.heap.size fun _ => 0 := new_h w58
                  have hl89 : u9.heap.size ≤ w58.heap.size := hw59.size
                  have hr90 := Rd.go hr63 ((Below.refl _ _).alloc (Nat.le_refl _) zO)
                  have hz91 := H16.alloc zO hz60
                  have hne92 : b61 < w58.heap.size := hz60.lt
                  refine hK.out _ _ ?_ (fun hHeld => ?_)
                  · exact ⟨range_kept (hw86) (row16_range X3.out), hw86⟩
                  clear hK K
                  try simp only [Act.put, y1, y2, y3, y4, y5, y6]
                  generalize w58.alloc zO = w85 at *
                  generalize w58.heap.size = b88 at *
                  refine wpAnyH_ready (rs := [6]) (by kernel_rfl) (by simp) ?_
                  refine AllReadyH.cons rfl (fun K hK => ?_) (AllReadyH.nil)
                  try simp only [y1, y2, y3]
                  go_simp
                  refine (Cpo.out _ _ hr90).mono ?_
                  rintro e w93 ⟨rfl, hb94⟩
                  rw [aN_vl 16 (po)]
                  have hw95 : Below u9.heap.size u9 w93 := hw86.trans (hb94.mono hw86.size)
                  have hz96 := H16.call hb94 hz91
                  have hz97 := H16.call hb94 hz87
                  have hr98 := Rd.go hr90 hb94
                  refine hK.out _ _ ?_ (fun hHeld => ?_)
                  · exact ⟨range_kept (hw95) (row16_range X3.out), hw95⟩
                  clear hK K
                  try simp only [Act.put, y1, y2, y3, y4, y5, y6]
                  clear hb94
                  refine wpAnyH_ready (rs := [9]) (by kernel_rfl) (by simp) ?_
                  refine AllReadyH.cons rfl (fun K hK => ?_) (AllReadyH.nil)
                  try simp only [y1, y2, y3]
                  rw [if_pos (by rfl)]
                  refine wp_store_mid 22 (.tmp 12) (.tmp 48) rfl (b61) (0) (vl 16 (pz)).toArray rfl rfl (H16.there hz96) (vsz _) (von _) ?_
                  simp only [Act.put, y1, y2, y3, y4, y5, y6, List.toList_toArray]
                  have hw100 : Below u9.heap.size u9 (w93.setCells b61 0 (vl 16 (pz))) := below_store hw95 (by omega) _ 0
                  have hz101 : H16 (w93.setCells b61 0 (vl 16 (pz))) b61 (pz) := H16.store hz96 _
                  have hz102 : H16 (w93.setCells b61 0 (vl 16 (pz))) b88 _ := H16.storeOther hz97 (by omega) _
                  refine hK.out _ _ ?_ (fun hHeld => ?_)
                  · exact ⟨range_kept (hw100) (row16_range X3.out), hw100⟩
                  clear hK K
                  try simp only [Act.put, y1, y2, y3, y4, y5, y6]
                  generalize w93.setCells b61 0 (vl 16 (pz)) = w99 at *
                  refine wpAnyH_ready (rs := [10]) (by kernel_rfl) (by simp) ?_
                  refine AllReadyH.cons rfl (fun K hK => ?_) (AllReadyH.nil)
                  try simp only [y1, y2, y3]
                  rw [if_pos (by rfl)]
                  refine wp_store_mid 22 (.tmp 13) (.tmp 52) rfl (b88) (0) (vl 16 (po)).toArray rfl rfl (H16.there hz102) (vsz _) (von _) ?_
                  simp only [Act.put, y1, y2, y3, y4, y5, y6, List.toList_toArray]
                  have hw104 : Below u9.heap.size u9 (w99.setCells b88 0 (vl 16 (po))) := below_store hw100 (by omega) _ 0
                  have hz105 : H16 (w99.setCells b88 0 (vl 16 (po))) b88 (po) := H16.store hz102 _
                  have hz106 : H16 (w99.setCells b88 0 (vl 16 (po))) b61 _ := H16.storeOther hz101 (by omega) _
                  refine hK.out _ _ ?_ (fun hHeld => ?_)
                  · exact ⟨range_kept (hw104) (row16_range X3.out), hw104⟩
                  clear hK K
                  try simp only [Act.put, y1, y2, y3, y4, y5, y6]
                  generalize w99.setCells b88 0 (vl 16 (po)) = w103 at *
                  refine wpAnyH_done (by kernel_rfl) ?_ _
                  refine NoPanic.normal ?_
                  go_wp2_with fail
                  go_meet
                  refine ⟨_, _, rfl, rfl, Lib.hid hz106, Lib.hid hz105, Lib.hid hw104⟩
              · try simp only [y1, y2, y3]
                go_simp
                have hw108 : Below u9.heap.size u9 (w6.alloc zO) := hw7.alloc hw7.size _
                have hz109 : H16 (w6.alloc zO) w6.heap.size fun _ => 0 := new_h w6
                have hl111 : u9.heap.size ≤ w6.heap.size := hw7.size
                have hr112 := Rd.go hr8 ((Below.refl _ _).alloc (Nat.le_refl _) zO)
                refine hK.out _ _ ?_ (fun hHeld => ?_)
                · exact ⟨range_kept (hw108) (row16_range X3.out), hw108⟩
                clear hK K
                try simp only [Act.put, y1, y2, y3, y4, y5, y6]
                generalize w6.alloc zO = w107 at *
                generalize w6.heap.size = b110 at *
                refine wpAnyH_ready (rs := [6, 7]) (by kernel_rfl) (by simp) ?_
                refine AllReadyH.cons rfl (fun K hK => ?_) (AllReadyH.cons rfl (fun K hK => ?_) (AllReadyH.nil))
                · try simp only [y1, y2, y3]
                  go_simp
                  refine (Cpo.out _ _ hr112).mono ?_
                  rintro e w113 ⟨rfl, hb114⟩
                  rw [aN_vl 16 (po)]
                  have hw115 : Below u9.heap.size u9 w113 := hw108.trans (hb114.mono hw108.size)
                  have hz116 := H16.call hb114 hz109
                  have hr117 := Rd.go hr112 hb114
                  refine hK.out _ _ ?_ (fun hHeld => ?_)
                  · exact ⟨range_kept (hw115) (row16_range X3.out), hw115⟩
                  clear hK K
                  try simp only [Act.put, y1, y2, y3, y4, y5, y6]
                  clear hb114
                  refine wpAnyH_ready (rs := [7]) (by kernel_rfl) (by simp) ?_
                  refine AllReadyH.cons rfl (fun K hK => ?_) (AllReadyH.nil)
                  try simp only [y1, y2, y3]
                  go_simp
                  have hw119 : Below u9.heap.size u9 (w113.alloc zO) := hw115.alloc hw115.size _
                  have hz120 : H16 (w113.alloc zO) w113.heap.size fun _ => 0 := new_h w113
                  have hl122 : u9.heap.size ≤ w113.heap.size := hw115.size
                  have hr123 := Rd.go hr117 ((Below.refl _ _).alloc (Nat.le_refl _) zO)
                  have hz124 := H16.alloc zO hz116
                  have hne125 : b110 < w113.heap.size := hz116.lt
                  refine hK.out _ _ ?_ (fun hHeld => ?_)
                  · exact ⟨range_kept (hw119) (row16_range X3.out), hw119⟩
                  clear hK K
                  try simp only [Act.put, y1, y2, y3, y4, y5, y6]
                  generalize w113.alloc zO = w118 at *
                  generalize w113.heap.size = b121 at *
                  refine wpAnyH_ready (rs := [9]) (by kernel_rfl) (by simp) ?_
                  refine AllReadyH.cons rfl (fun K hK => ?_) (AllReadyH.nil)
                  try simp only [y1, y2, y3]
                  rw [if_pos (by rfl)]
                  refine wp_store_mid 22 (.tmp 12) (.tmp 48) rfl (b121) (0) (vl 16 (pz)).toArray rfl rfl (H16.there hz120) (vsz _) (von _) ?_
                  simp only [Act.put, y1, y2, y3, y4, y5, y6, List.toList_toArray]
                  have hw127 : Below u9.heap.size u9 (w118.setCells b121 0 (vl 16 (pz))) := below_store hw119 (by omega) _ 0
                  have hz128 : H16 (w118.setCells b121 0 (vl 16 (pz))) b121 (pz) := H16.store hz120 _
                  have hz129 : H16 (w118.setCells b121 0 (vl 16 (pz))) b110 _ := H16.storeOther hz124 (by omega) _
                  refine hK.out _ _ ?_ (fun hHeld => ?_)
                  · exact ⟨range_kept (hw127) (row16_range X3.out), hw127⟩
                  clear hK K
                  try simp only [Act.put, y1, y2, y3, y4, y5, y6]
                  generalize w118.setCells b121 0 (vl 16 (pz)) = w126 at *
                  refine wpAnyH_ready (rs := [10]) (by kernel_rfl) (by simp) ?_
                  refine AllReadyH.cons rfl (fun K hK => ?_) (AllReadyH.nil)
                  try simp only [y1, y2, y3]
                  rw [if_pos (by rfl)]
                  refine wp_store_mid 22 (.tmp 13) (.tmp 52) rfl (b110) (0) (vl 16 (po)).toArray rfl rfl (H16.there hz129) (vsz _) (von _) ?_
                  simp only [Act.put, y1, y2, y3, y4, y5, y6, List.toList_toArray]
                  have hw131 : Below u9.heap.size u9 (w126.setCells b110 0 (vl 16 (po))) := below_store hw127 (by omega) _ 0
                  have hz132 : H16 (w126.setCells b110 0 (vl 16 (po))) b110 (po) := H16.store hz129 _
                  have hz133 : H16 (w126.setCells b110 0 (vl 16 (po))) b121 _ := H16.storeOther hz128 (by omega) _
                  refine hK.out _ _ ?_ (fun hHeld => ?_)
                  · exact ⟨range_kept (hw131) (row16_range X3.out), hw131⟩
                  clear hK K
                  try simp only [Act.put, y1, y2, y3, y4, y5, y6]
                  generalize w126.setCells b110 0 (vl 16 (po)) = w130 at *
                  refine wpAnyH_done (by kernel_rfl) ?_ _
                  refine NoPanic.normal ?_
                  go_wp2_with fail
                  go_meet
                  refine ⟨_, _, rfl, rfl, Lib.hid hz133, Lib.hid hz132, Lib.hid hw131⟩
                · try simp only [y1, y2, y3]
                  go_simp
                  have hw135 : Below u9.heap.size u9 (w107.alloc zO) := hw108.alloc hw108.size _
                  have hz136 : H16 (w107.alloc zO) w107.heap.size fun _ => 0 := new_h w107
                  have hl138 : u9.heap.size ≤ w107.heap.size := hw108.size
                  have hr139 := Rd.go hr112 ((Below.refl _ _).alloc (Nat.le_refl _) zO)
                  have hz140 := H16.alloc zO hz109
                  have hne141 : b110 < w107.heap.size := hz109.lt
                  refine hK.out _ _ ?_ (fun hHeld => ?_)
                  · exact ⟨range_kept (hw135) (row16_range X3.out), hw135⟩
                  clear hK K
                  try simp only [Act.put, y1, y2, y3, y4, y5, y6]
                  generalize w107.alloc zO = w134 at *
                  generalize w107.heap.size = b137 at *
                  refine wpAnyH_ready (rs := [6]) (by kernel_rfl) (by simp) ?_
                  refine AllReadyH.cons rfl (fun K hK => ?_) (AllReadyH.nil)
                  try simp only [y1, y2, y3]
                  go_simp
                  refine (Cpo.out _ _ hr139).mono ?_
                  rintro e w142 ⟨rfl, hb143⟩
                  rw [aN_vl 16 (po)]
                  have hw144 : Below u9.heap.size u9 w142 := hw135.trans (hb143.mono hw135.size)
                  have hz145 := H16.call hb143 hz140
                  have hz146 := H16.call hb143 hz136
                  have hr147 := Rd.go hr139 hb143
                  refine hK.out _ _ ?_ (fun hHeld => ?_)
                  · exact ⟨range_kept (hw144) (row16_range X3.out), hw144⟩
                  clear hK K
                  try simp only [Act.put, y1, y2, y3, y4, y5, y6]
                  clear hb143
                  refine wpAnyH_ready (rs := [9]) (by kernel_rfl) (by simp) ?_
                  refine AllReadyH.cons rfl (fun K hK => ?_) (AllReadyH.nil)
                  try simp only [y1, y2, y3]
                  rw [if_pos (by rfl)]
                  refine wp_store_mid 22 (.tmp 12) (.tmp 48) rfl (b137) (0) (vl 16 (pz)).toArray rfl rfl (H16.there hz146) (vsz _) (von _) ?_
                  simp only [Act.put, y1, y2, y3, y4, y5, y6, List.toList_toArray]
                  have hw149 : Below u9.heap.size u9 (w142.setCells b137 0 (vl 16 (pz))) := below_store hw144 (by omega) _ 0
                  have hz150 : H16 (w142.setCells b137 0 (vl 16 (pz))) b137 (pz) := H16.store hz146 _
                  have hz151 : H16 (w142.setCells b137 0 (vl 16 (pz))) b110 _ := H16.storeOther hz145 (by omega) _
                  refine hK.out _ _ ?_ (fun hHeld => ?_)
                  · exact ⟨range_kept (hw149) (row16_range X3.out), hw149⟩
                  clear hK K
                  try simp only [Act.put, y1, y2, y3, y4, y5, y6]
                  generalize w142.setCells b137 0 (vl 16 (pz)) = w148 at *
                  refine wpAnyH_ready (rs := [10]) (by kernel_rfl) (by simp) ?_
                  refine AllReadyH.cons rfl (fun K hK => ?_) (AllReadyH.nil)
                  try simp only [y1, y2, y3]
                  rw [if_pos (by rfl)]
                  refine wp_store_mid 22 (.tmp 13) (.tmp 52) rfl (b110) (0) (vl 16 (po)).toArray rfl rfl (H16.there hz151) (vsz _) (von _) ?_
                  simp only [Act.put, y1, y2, y3, y4, y5, y6, List.toList_toArray]
                  have hw153 : Below u9.heap.size u9 (w148.setCells b110 0 (vl 16 (po))) := below_store hw149 (by omega) _ 0
                  have hz154 : H16 (w148.setCells b110 0 (vl 16 (po))) b110 (po) := H16.store hz151 _
                  have hz155 : H16 (w148.setCells b110 0 (vl 16 (po))) b137 _ := H16.storeOther hz150 (by omega) _
                  refine hK.out _ _ ?_ (fun hHeld => ?_)
                  · exact ⟨range_kept (hw153) (row16_range X3.out), hw153⟩
                  clear hK K
                  try simp only [Act.put, y1, y2, y3, y4, y5, y6]
                  generalize w148.setCells b110 0 (vl 16 (po)) = w152 at *
                  refine wpAnyH_done (by kernel_rfl) ?_ _
                  refine NoPanic.normal ?_
                  go_wp2_with fail
                  go_meet
                  refine ⟨_, _, rfl, rfl, Lib.hid hz155, Lib.hid hz154, Lib.hid hw153⟩
            · try simp only [y1, y2, y3]
              go_simp
              have hw157 : Below u9.heap.size u9 (w3.alloc zO) := hw5.alloc hw5.size _
              have hz158 : H16 (w3.alloc zO) w3.heap.size fun _ => 0 := new_h w3
              have hl160 : u9.heap.size ≤ w3.heap.size := hw5.size
              refine hK.out _ _ ?_ (fun hHeld => ?_)
              · exact ⟨range_kept (hw157) (row16_range X3.out), hw157⟩
              clear hK K
              try simp only [Act.put, y1, y2, y3, y4, y5, y6]
              generalize w3.alloc zO = w156 at *
              generalize w3.heap.size = b159 at *
              refine wpAnyH_ready (rs := [5, 8]) (by kernel_rfl) (by simp) ?_
              refine AllReadyH.cons rfl (fun K hK => ?_) (AllReadyH.cons rfl (fun K hK => ?_) (AllReadyH.nil))
              · try simp only [y1, y2, y3]
                go_simp
                have hw162 : Below u9.heap.size u9 (w156.alloc (.cells (zrow k) 5)) := hw157.alloc hw157.size _
                have hr163 : Rd (w156.alloc (.cells (zrow k) 5)) (w156.alloc (.cells (zrow k) 5)).heap.size (some ⟨w156.heap.size, 0, none⟩) (vn (List.replicate k 0)) := zrow_rd k w156
                have hz165 := H16.alloc (.cells (zrow k) 5) hz158
                refine hK.out _ _ ?_ (fun hHeld => ?_)
                · exact ⟨range_kept (hw162) (row16_range X3.out), hw162⟩
                clear hK K
                try simp only [Act.put, y1, y2, y3, y4, y5, y6]
                generalize w156.alloc (.cells (zrow k) 5) = w161 at *
                generalize w156.heap.size = b164 at *
                refine wpAnyH_ready (rs := [6, 8]) (by kernel_rfl) (by simp) ?_
                refine AllReadyH.cons rfl (fun K hK => ?_) (AllReadyH.cons rfl (fun K hK => ?_) (AllReadyH.nil))
                · try simp only [y1, y2, y3]
                  go_simp
                  refine (Cpo.out _ _ hr163).mono ?_
                  rintro e w166 ⟨rfl, hb167⟩
                  rw [aN_vl 16 (po)]
                  have hw168 : Below u9.heap.size u9 w166 := hw162.trans (hb167.mono hw162.size)
                  have hz169 := H16.call hb167 hz165
                  have hr170 := Rd.go hr163 hb167
                  refine hK.out _ _ ?_ (fun hHeld => ?_)
                  · exact ⟨range_kept (hw168) (row16_range X3.out), hw168⟩
                  clear hK K
                  try simp only [Act.put, y1, y2, y3, y4, y5, y6]
                  clear hb167
                  refine wpAnyH_ready (rs := [8]) (by kernel_rfl) (by simp) ?_
                  refine AllReadyH.cons rfl (fun K hK => ?_) (AllReadyH.nil)
                  try simp only [y1, y2, y3]
                  go_simp
                  have hw172 : Below u9.heap.size u9 (w166.alloc zO) := hw168.alloc hw168.size _
                  have hz173 : H16 (w166.alloc zO) w166.heap.size fun _ => 0 := new_h w166
                  have hl175 : u9.heap.size ≤ w166.heap.size := hw168.size
                  have hr176 := Rd.go hr170 ((Below.refl _ _).alloc (Nat.le_refl _) zO)
                  have hz177 := H16.alloc zO hz169
                  have hne178 : b159 < w166.heap.size := hz169.lt
                  refine hK.out _ _ ?_ (fun hHeld => ?_)
                  · exact ⟨range_kept (hw172) (row16_range X3.out), hw172⟩
                  clear hK K
                  try simp only [Act.put, y1, y2, y3, y4, y5, y6]
                  generalize w166.alloc zO = w171 at *
                  generalize w166.heap.size = b174 at *
                  refine wpAnyH_ready (rs := [9]) (by kernel_rfl) (by simp) ?_
                  refine AllReadyH.cons rfl (fun K hK => ?_) (AllReadyH.nil)
                  try simp only [y1, y2, y3]
                  rw [if_pos (by rfl)]
                  refine wp_store_mid 22 (.tmp 12) (.tmp 48) rfl (b159) (0) (vl 16 (pz)).toArray rfl rfl (H16.there hz177) (vsz _) (von _) ?_
                  simp only [Act.put, y1, y2, y3, y4, y5, y6, List.toList_toArray]
                  have hw180 : Below u9.heap.size u9 (w171.setCells b159 0 (vl 16 (pz))) := below_store hw172 (by omega) _ 0
                  have hz181 : H16 (w171.setCells b159 0 (vl 16 (pz))) b159 (pz) := H16.store hz177 _
                  have hz182 : H16 (w171.setCells b159 0 (vl 16 (pz))) b174 _ := H16.storeOther hz173 (by omega) _
                  refine hK.out _ _ ?_ (fun hHeld => ?_)
                  · exact ⟨range_kept (hw180) (row16_range X3.out), hw180⟩
                  clear hK K
                  try simp only [Act.put, y1, y2, y3, y4, y5, y6]
                  generalize w171.setCells b159 0 (vl 16 (pz)) = w179 at *
                  refine wpAnyH_ready (rs := [10]) (by kernel_rfl) (by simp) ?_
                  refine AllReadyH.cons rfl (fun K hK => ?_) (AllReadyH.nil)
                  try simp only [y1, y2, y3]
                  rw [if_pos (by rfl)]
                  refine wp_store_mid 22 (.tmp 13) (.tmp 52) rfl (b174) (0) (vl 16 (po)).toArray rfl rfl (H16.there hz182) (vsz _) (von _) ?_
                  simp only [Act.put, y1, y2, y3, y4, y5, y6, List.toList_toArray]
                  have hw184 : Below u9.heap.size u9 (w179.setCells b174 0 (vl 16 (po))) := below_store hw180 (by omega) _ 0
                  have hz185 : H16 (w179.setCells b174 0 (vl 16 (po))) b174 (po) := H16.store hz182 _
                  have hz186 : H16 (w179.setCells b174 0 (vl 16 (po))) b159 _ := H16.storeOther hz181 (by omega) _
                  refine hK.out _ _ ?_ (fun hHeld => ?_)
                  · exact ⟨range_kept (hw184) (row16_range X3.out), hw184⟩
                  clear hK K
                  try simp only [Act.put, y1, y2, y3, y4, y5, y6]
                  generalize w179.setCells b174 0 (vl 16 (po)) = w183 at *
                  refine wpAnyH_done (by kernel_rfl) ?_ _
                  refine NoPanic.normal ?_
                  go_wp2_with fail
                  go_meet
                  refine ⟨_, _, rfl, rfl, Lib.hid hz186, Lib.hid hz185, Lib.hid hw184⟩
                · try simp only [y1, y2, y3]
                  go_simp
                  have hw188 : Below u9.heap.size u9 (w161.alloc zO) := hw162.alloc hw162.size _
                  have hz189 : H16 (w161.alloc zO) w161.heap.size fun _ => 0 := new_h w161
                  have hl191 : u9.heap.size ≤ w161.heap.size := hw162.size
                  have hr192 := Rd.go hr163 ((Below.refl _ _).alloc (Nat.le_refl _) zO)
                  have hz193 := H16.alloc zO hz165
                  have hne194 : b159 < w161.heap.size := hz165.lt
                  refine hK.out _ _ ?_ (fun hHeld => ?_)
                  · exact ⟨range_kept (hw188) (row16_range X3.out), hw188⟩
                  clear hK K
                  try simp only [Act.put, y1, y2, y3, y4, y5, y6]
                  generalize w161.alloc zO = w187 at *
                  generalize w161.heap.size = b190 at *
                  refine wpAnyH_ready (rs := [6]) (by kernel_rfl) (by simp) ?_
                  refine AllReadyH.cons rfl (fun K hK => ?_) (AllReadyH.nil)
                  try simp only [y1, y2, y3]
                  go_simp
                  refine (Cpo.out _ _ hr192).mono ?_
                  rintro e w195 ⟨rfl, hb196⟩
                  rw [aN_vl 16 (po)]
                  have hw197 : Below u9.heap.size u9 w195 := hw188.trans (hb196.mono hw188.size)
                  have hz198 := H16.call hb196 hz193
                  have hz199 := H16.call hb196 hz189
                  have hr200 := Rd.go hr192 hb196
                  refine hK.out _ _ ?_ (fun hHeld => ?_)
                  · exact ⟨range_kept (hw197) (row16_range X3.out), hw197⟩
                  clear hK K
                  try simp only [Act.put, y1, y2, y3, y4, y5, y6]
                  clear hb196
                  refine wpAnyH_ready (rs := [9]) (by kernel_rfl) (by simp) ?_
                  refine AllReadyH.cons rfl (fun K hK => ?_) (AllReadyH.nil)
                  try simp only [y1, y2, y3]
                  rw [if_pos (by rfl)]
                  refine wp_store_mid 22 (.tmp 12) (.tmp 48) rfl (b159) (0) (vl 16 (pz)).toArray rfl rfl (H16.there hz198) (vsz _) (von _) ?_
                  simp only [Act.put, y1, y2, y3, y4, y5, y6, List.toList_toArray]
                  have hw202 : Below u9.heap.size u9 (w195.setCells b159 0 (vl 16 (pz))) := below_store hw197 (by omega) _ 0
                  have hz203 : H16 (w195.setCells b159 0 (vl 16 (pz))) b159 (pz) := H16.store hz198 _
                  have hz204 : H16 (w195.setCells b159 0 (vl 16 (pz))) b190 _ := H16.storeOther hz199 (by omega) _
                  refine hK.out _ _ ?_ (fun hHeld => ?_)
                  · exact ⟨range_kept (hw202) (row16_range X3.out), hw202⟩
                  clear hK K
                  try simp only [Act.put, y1, y2, y3, y4, y5, y6]
                  generalize w195.setCells b159 0 (vl 16 (pz)) = w201 at *
                  refine wpAnyH_ready (rs := [10]) (by kernel_rfl) (by simp) ?_
                  refine AllReadyH.cons rfl (fun K hK => ?_) (AllReadyH.nil)
                  try simp only [y1, y2, y3]
                  rw [if_pos (by rfl)]
                  refine wp_store_mid 22 (.tmp 13) (.tmp 52) rfl (b190) (0) (vl 16 (po)).toArray rfl rfl (H16.there hz204) (vsz _) (von _) ?_
                  simp only [Act.put, y1, y2, y3, y4, y5, y6, List.toList_toArray]
                  have hw206 : Below u9.heap.size u9 (w201.setCells b190 0 (vl 16 (po))) := below_store hw202 (by omega) _ 0
                  have hz207 : H16 (w201.setCells b190 0 (vl 16 (po))) b190 (po) := H16.store hz204 _
                  have hz208 : H16 (w201.setCells b190 0 (vl 16 (po))) b159 _ := H16.storeOther hz203 (by omega) _
                  refine hK.out _ _ ?_ (fun hHeld => ?_)
                  · exact ⟨range_kept (hw206) (row16_range X3.out), hw206⟩
                  clear hK K
                  try simp only [Act.put, y1, y2, y3, y4, y5, y6]
                  generalize w201.setCells b190 0 (vl 16 (po)) = w205 at *
                  refine wpAnyH_done (by kernel_rfl) ?_ _
                  refine NoPanic.normal ?_
                  go_wp2_with fail
                  go_meet
                  refine ⟨_, _, rfl, rfl, Lib.hid hz208, Lib.hid hz207, Lib.hid hw206⟩
              · try simp only [y1, y2, y3]
                go_simp
                have hw210 : Below u9.heap.size u9 (w156.alloc zO) := hw157.alloc hw157.size _
                have hz211 : H16 (w156.alloc zO) w156.heap.size fun _ => 0 := new_h w156
                have hl213 : u9.heap.size ≤ w156.heap.size := hw157.size
                have hz214 := H16.alloc zO hz158
                have hne215 : b159 < w156.heap.size := hz158.lt
                refine hK.out _ _ ?_ (fun hHeld => ?_)
                · exact ⟨range_kept (hw210) (row16_range X3.out), hw210⟩
                clear hK K
                try simp only [Act.put, y1, y2, y3, y4, y5, y6]
                generalize w156.alloc zO = w209 at *
                generalize w156.heap.size = b212 at *
                refine wpAnyH_ready (rs := [5]) (by kernel_rfl) (by simp) ?_
                refine AllReadyH.cons rfl (fun K hK => ?_) (AllReadyH.nil)
                try simp only [y1, y2, y3]
                go_simp
                have hw217 : Below u9.heap.size u9 (w209.alloc (.cells (zrow k) 5)) := hw210.alloc hw210.size _
                have hr218 : Rd (w209.alloc (.cells (zrow k) 5)) (w209.alloc (.cells (zrow k) 5)).heap.size (some ⟨w209.heap.size, 0, none⟩) (vn (List.replicate k 0)) := zrow_rd k w209
                have hz220 := H16.alloc (.cells (zrow k) 5) hz214
                have hz221 := H16.alloc (.cells (zrow k) 5) hz211
                refine hK.out _ _ ?_ (fun hHeld => ?_)
                · exact ⟨range_kept (hw217) (row16_range X3.out), hw217⟩
                clear hK K
                try simp only [Act.put, y1, y2, y3, y4, y5, y6]
                generalize w209.alloc (.cells (zrow k) 5) = w216 at *
                generalize w209.heap.size = b219 at *
                refine wpAnyH_ready (rs := [6]) (by kernel_rfl) (by simp) ?_
                refine AllReadyH.cons rfl (fun K hK => ?_) (AllReadyH.nil)
                try simp only [y1, y2, y3]
                go_simp
                refine (Cpo.out _ _ hr218).mono ?_
                rintro e w222 ⟨rfl, hb223⟩
                rw [aN_vl 16 (po)]
                have hw224 : Below u9.heap.size u9 w222 := hw217.trans (hb223.mono hw217.size)
                have hz225 := H16.call hb223 hz220
                have hz226 := H16.call hb223 hz221
                have hr227 := Rd.go hr218 hb223
                refine hK.out _ _ ?_ (fun hHeld => ?_)
                · exact ⟨range_kept (hw224) (row16_range X3.out), hw224⟩
                clear hK K
                try simp only [Act.put, y1, y2, y3, y4, y5, y6]
                clear hb223
                refine wpAnyH_ready (rs := [9]) (by kernel_rfl) (by simp) ?_
                refine AllReadyH.cons rfl (fun K hK => ?_) (AllReadyH.nil)
                try simp only [y1, y2, y3]
                rw [if_pos (by rfl)]
                refine wp_store_mid 22 (.tmp 12) (.tmp 48) rfl (b159) (0) (vl 16 (pz)).toArray rfl rfl (H16.there hz225) (vsz _) (von _) ?_
                simp only [Act.put, y1, y2, y3, y4, y5, y6, List.toList_toArray]
                have hw229 : Below u9.heap.size u9 (w222.setCells b159 0 (vl 16 (pz))) := below_store hw224 (by omega) _ 0
                have hz230 : H16 (w222.setCells b159 0 (vl 16 (pz))) b159 (pz) := H16.store hz225 _
                have hz231 : H16 (w222.setCells b159 0 (vl 16 (pz))) b212 _ := H16.storeOther hz226 (by omega) _
                refine hK.out _ _ ?_ (fun hHeld => ?_)
                · exact ⟨range_kept (hw229) (row16_range X3.out), hw229⟩
                clear hK K
                try simp only [Act.put, y1, y2, y3, y4, y5, y6]
                generalize w222.setCells b159 0 (vl 16 (pz)) = w228 at *
                refine wpAnyH_ready (rs := [10]) (by kernel_rfl) (by simp) ?_
                refine AllReadyH.cons rfl (fun K hK => ?_) (AllReadyH.nil)
                try simp only [y1, y2, y3]
                rw [if_pos (by rfl)]
                refine wp_store_mid 22 (.tmp 13) (.tmp 52) rfl (b212) (0) (vl 16 (po)).toArray rfl rfl (H16.there hz231) (vsz _) (von _) ?_
                simp only [Act.put, y1, y2, y3, y4, y5, y6, List.toList_toArray]
                have hw233 : Below u9.heap.size u9 (w228.setCells b212 0 (vl 16 (po))) := below_store hw229 (by omega) _ 0
                have hz234 : H16 (w228.setCells b212 0 (vl 16 (po))) b212 (po) := H16.store hz231 _
                have hz235 : H16 (w228.setCells b212 0 (vl 16 (po))) b159 _ := H16.storeOther hz230 (by omega) _
                refine hK.out _ _ ?_ (fun hHeld => ?_)
                · exact ⟨range_kept (hw233) (row16_range X3.out), hw233⟩
                clear hK K
                try simp only [Act.put, y1, y2, y3, y4, y5, y6]
                generalize w228.setCells b212 0 (vl 16 (po)) = w232 at *
                refine wpAnyH_done (by kernel_rfl) ?_ _
                refine NoPanic.normal ?_
                go_wp2_with fail
                go_meet
                refine ⟨_, _, rfl, rfl, Lib.hid hz235, Lib.hid hz234, Lib.hid hw233⟩
            · try simp only [y1, y2, y3]
              go_simp
              have hw237 : Below u9.heap.size u9 (w3.alloc zO) := hw5.alloc hw5.size _
              have hz238 : H16 (w3.alloc zO) w3.heap.size fun _ => 0 := new_h w3
              have hl240 : u9.heap.size ≤ w3.heap.size := hw5.size
              refine hK.out _ _ ?_ (fun hHeld => ?_)
              · exact ⟨range_kept (hw237) (row16_range X3.out), hw237⟩
              clear hK K
              try simp only [Act.put, y1, y2, y3, y4, y5, y6]
              generalize w3.alloc zO = w236 at *
              generalize w3.heap.size = b239 at *
              refine wpAnyH_ready (rs := [5, 7]) (by kernel_rfl) (by simp) ?_
              refine AllReadyH.cons rfl (fun K hK => ?_) (AllReadyH.cons rfl (fun K hK => ?_) (AllReadyH.nil))
              · try simp only [y1, y2, y3]
                go_simp
                have hw242 : Below u9.heap.size u9 (w236.alloc (.cells (zrow k) 5)) := hw237.alloc hw237.size _
                have hr243 : Rd (w236.alloc (.cells (zrow k) 5)) (w236.alloc (.cells (zrow k) 5)).heap.size (some ⟨w236.heap.size, 0, none⟩) (vn (List.replicate k 0)) := zrow_rd k w236
                have hz245 := H16.alloc (.cells (zrow k) 5) hz238
                refine hK.out _ _ ?_ (fun hHeld => ?_)
                · exact ⟨range_kept (hw242) (row16_range X3.out), hw242⟩
                clear hK K
                try simp only [Act.put, y1, y2, y3, y4, y5, y6]
                generalize w236.alloc (.cells (zrow k) 5) = w241 at *
                generalize w236.heap.size = b244 at *
                refine wpAnyH_ready (rs := [6, 7]) (by kernel_rfl) (by simp) ?_
                refine AllReadyH.cons rfl (fun K hK => ?_) (AllReadyH.cons rfl (fun K hK => ?_) (AllReadyH.nil))
                · try simp only [y1, y2, y3]
                  go_simp
                  refine (Cpo.out _ _ hr243).mono ?_
                  rintro e w246 ⟨rfl, hb247⟩
                  rw [aN_vl 16 (po)]
                  have hw248 : Below u9.heap.size u9 w246 := hw242.trans (hb247.mono hw242.size)
                  have hz249 := H16.call hb247 hz245
                  have hr250 := Rd.go hr243 hb247
                  refine hK.out _ _ ?_ (fun hHeld => ?_)
                  · exact ⟨range_kept (hw248) (row16_range X3.out), hw248⟩
                  clear hK K
                  try simp only [Act.put, y1, y2, y3, y4, y5, y6]
                  clear hb247
                  refine wpAnyH_ready (rs := [7]) (by kernel_rfl) (by simp) ?_
                  refine AllReadyH.cons rfl (fun K hK => ?_) (AllReadyH.nil)
                  try simp only [y1, y2, y3]
                  go_simp
                  have hw252 : Below u9.heap.size u9 (w246.alloc zO) := hw248.alloc hw248.size _
                  have hz253 : H16 (w246.alloc zO) w246.heap.size fun _ => 0 := new_h w246
                  have hl255 : u9.heap.size ≤ w246.heap.size := hw248.size
                  have hr256 := Rd.go hr250 ((Below.refl _ _).alloc (Nat.le_refl _) zO)
                  have hz257 := H16.alloc zO hz249
                  have hne258 : b239 < w246.heap.size := hz249.lt
                  refine hK.out _ _ ?_ (fun hHeld => ?_)
                  · exact ⟨range_kept (hw252) (row16_range X3.out), hw252⟩
                  clear hK K
                  try simp only [Act.put, y1, y2, y3, y4, y5, y6]
                  generalize w246.alloc zO = w251 at *
                  generalize w246.heap.size = b254 at *
                  refine wpAnyH_ready (rs := [9]) (by kernel_rfl) (by simp) ?_
                  refine AllReadyH.cons rfl (fun K hK => ?_) (AllReadyH.nil)
                  try simp only [y1, y2, y3]
                  rw [if_pos (by rfl)]
                  refine wp_store_mid 22 (.tmp 12) (.tmp 48) rfl (b254) (0) (vl 16 (pz)).toArray rfl rfl (H16.there hz253) (vsz _) (von _) ?_
                  simp only [Act.put, y1, y2, y3, y4, y5, y6, List.toList_toArray]
                  have hw260 : Below u9.heap.size u9 (w251.setCells b254 0 (vl 16 (pz))) := below_store hw252 (by omega) _ 0
                  have hz261 : H16 (w251.setCells b254 0 (vl 16 (pz))) b254 (pz) := H16.store hz253 _
                  have hz262 : H16 (w251.setCells b254 0 (vl 16 (pz))) b239 _ := H16.storeOther hz257 (by omega) _
                  refine hK.out _ _ ?_ (fun hHeld => ?_)
                  · exact ⟨range_kept (hw260) (row16_range X3.out), hw260⟩
                  clear hK K
                  try simp only [Act.put, y1, y2, y3, y4, y5, y6]
                  generalize w251.setCells b254 0 (vl 16 (pz)) = w259 at *
                  refine wpAnyH_ready (rs := [10]) (by kernel_rfl) (by simp) ?_
                  refine AllReadyH.cons rfl (fun K hK => ?_) (AllReadyH.nil)
                  try simp only [y1, y2, y3]
                  rw [if_pos (by rfl)]
                  refine wp_store_mid 22 (.tmp 13) (.tmp 52) rfl (b239) (0) (vl 16 (po)).toArray rfl rfl (H16.there hz262) (vsz _) (von _) ?_
                  simp only [Act.put, y1, y2, y3, y4, y5, y6, List.toList_toArray]
                  have hw264 : Below u9.heap.size u9 (w259.setCells b239 0 (vl 16 (po))) := below_store hw260 (by omega) _ 0
                  have hz265 : H16 (w259.setCells b239 0 (vl 16 (po))) b239 (po) := H16.store hz262 _
                  have hz266 : H16 (w259.setCells b239 0 (vl 16 (po))) b254 _ := H16.storeOther hz261 (by omega) _
                  refine hK.out _ _ ?_ (fun hHeld => ?_)
                  · exact ⟨range_kept (hw264) (row16_range X3.out), hw264⟩
                  clear hK K
                  try simp only [Act.put, y1, y2, y3, y4, y5, y6]
                  generalize w259.setCells b239 0 (vl 16 (po)) = w263 at *
                  refine wpAnyH_done (by kernel_rfl) ?_ _
                  refine NoPanic.normal ?_
                  go_wp2_with fail
                  go_meet
                  refine ⟨_, _, rfl, rfl, Lib.hid hz266, Lib.hid hz265, Lib.hid hw264⟩
                · try simp only [y1, y2, y3]
                  go_simp
                  have hw268 : Below u9.heap.size u9 (w241.alloc zO) := hw242.alloc hw242.size _
                  have hz269 : H16 (w241.alloc zO) w241.heap.size fun _ => 0 := new_h w241
                  have hl271 : u9.heap.size ≤ w241.heap.size := hw242.size
                  have hr272 := Rd.go hr243 ((Below.refl _ _).alloc (Nat.le_refl _) zO)
                  have hz273 := H16.alloc zO hz245
                  have hne274 : b239 < w241.heap.size := hz245.lt
                  refine hK.out _ _ ?_ (fun hHeld => ?_)
                  · exact ⟨range_kept (hw268) (row16_range X3.out), hw268⟩
                  clear hK K
                  try simp only [Act.put, y1, y2, y3, y4, y5, y6]
                  generalize w241.alloc zO = w267 at *
                  generalize w241.heap.size = b270 at *
                  refine wpAnyH_ready (rs := [6]) (by kernel_rfl) (by simp) ?_
                  refine AllReadyH.cons rfl (fun K hK => ?_) (AllReadyH.nil)
                  try simp only [y1, y2, y3]
                  go_simp
                  refine (Cpo.out _ _ hr272).mono ?_
                  rintro e w275 ⟨rfl, hb276⟩
                  rw [aN_vl 16 (po)]
                  have hw277 : Below u9.heap.size u9 w275 := hw268.trans (hb276.mono hw268.size)
                  have hz278 := H16.call hb276 hz273
                  have hz279 := H16.call hb276 hz269
                  have hr280 := Rd.go hr272 hb276
                  refine hK.out _ _ ?_ (fun hHeld => ?_)
                  · exact ⟨range_kept (hw277) (row16_range X3.out), hw277⟩
                  clear hK K
                  try simp only [Act.put, y1, y2, y3, y4, y5, y6]
                  clear hb276
                  refine wpAnyH_ready (rs := [9]) (by kernel_rfl) (by simp) ?_
                  refine AllReadyH.cons rfl (fun K hK => ?_) (AllReadyH.nil)
                  try simp only [y1, y2, y3]
                  rw [if_pos (by rfl)]
                  refine wp_store_mid 22 (.tmp 12) (.tmp 48) rfl (b270) (0) (vl 16 (pz)).toArray rfl rfl (H16.there hz279) (vsz _) (von _) ?_
                  simp only [Act.put, y1, y2, y3, y4, y5, y6, List.toList_toArray]
                  have hw282 : Below u9.heap.size u9 (w275.setCells b270 0 (vl 16 (pz))) := below_store hw277 (by omega) _ 0
                  have hz283 : H16 (w275.setCells b270 0 (vl 16 (pz))) b270 (pz) := H16.store hz279 _
                  have hz284 : H16 (w275.setCells b270 0 (vl 16 (pz))) b239 _ := H16.storeOther hz278 (by omega) _
                  refine hK.out _ _ ?_ (fun hHeld => ?_)
                  · exact ⟨range_kept (hw282) (row16_range X3.out), hw282⟩
                  clear hK K
                  try simp only [Act.put, y1, y2, y3, y4, y5, y6]
                  generalize w275.setCells b270 0 (vl 16 (pz)) = w281 at *
                  refine wpAnyH_ready (rs := [10]) (by kernel_rfl) (by simp) ?_
                  refine AllReadyH.cons rfl (fun K hK => ?_) (AllReadyH.nil)
                  try simp only [y1, y2, y3]
                  rw [if_pos (by rfl)]
                  refine wp_store_mid 22 (.tmp 13) (.tmp 52) rfl (b239) (0) (vl 16 (po)).toArray rfl rfl (H16.there hz284) (vsz _) (von _) ?_
                  simp only [Act.put, y1, y2, y3, y4, y5, y6, List.toList_toArray]
                  have hw286 : Below u9.heap.size u9 (w281.setCells b239 0 (vl 16 (po))) := below_store hw282 (by omega) _ 0
                  have hz287 : H16 (w281.setCells b239 0 (vl 16 (po))) b239 (po) := H16.store hz284 _
                  have hz288 : H16 (w281.setCells b239 0 (vl 16 (po))) b270 _ := H16.storeOther hz283 (by omega) _
                  refine hK.out _ _ ?_ (fun hHeld => ?_)
                  · exact ⟨range_kept (hw286) (row16_range X3.out), hw286⟩
                  clear hK K
                  try simp only [Act.put, y1, y2, y3, y4, y5, y6]
                  generalize w281.setCells b239 0 (vl 16 (po)) = w285 at *
                  refine wpAnyH_done (by kernel_rfl) ?_ _
                  refine NoPanic.normal ?_
                  go_wp2_with fail
                  go_meet
                  refine ⟨_, _, rfl, rfl, Lib.hid hz288, Lib.hid hz287, Lib.hid hw286⟩
              · try simp only [y1, y2, y3]
                go_simp
                have hw290 : Below u9.heap.size u9 (w236.alloc zO) := hw237.alloc hw237.size _
                have hz291 : H16 (w236.alloc zO) w236.heap.size fun _ => 0 := new_h w236
                have hl293 : u9.heap.size ≤ w236.heap.size := hw237.size
                have hz294 := H16.alloc zO hz238
                have hne295 : b239 < w236.heap.size := hz238.lt
                refine hK.out _ _ ?_ (fun hHeld => ?_)
                · exact ⟨range_kept (hw290) (row16_range X3.out), hw290⟩
                clear hK K
                try simp only [Act.put, y1, y2, y3, y4, y5, y6]
                generalize w236.alloc zO = w289 at *
                generalize w236.heap.size = b292 at *
                refine wpAnyH_ready (rs := [5]) (by kernel_rfl) (by simp) ?_
                refine AllReadyH.cons rfl (fun K hK => ?_) (AllReadyH.nil)
                try simp only [y1, y2, y3]
                go_simp
                have hw297 : Below u9.heap.size u9 (w289.alloc (.cells (zrow k) 5)) := hw290.alloc hw290.size _
                have hr298 : Rd (w289.alloc (.cells (zrow k) 5)) (w289.alloc (.cells (zrow k) 5)).heap.size (some ⟨w289.heap.size, 0, none⟩) (vn (List.replicate k 0)) := zrow_rd k w289
                have hz300 := H16.alloc (.cells (zrow k) 5) hz294
                have hz301 := H16.alloc (.cells (zrow k) 5) hz291
                refine hK.out _ _ ?_ (fun hHeld => ?_)
                · exact ⟨range_kept (hw297) (row16_range X3.out), hw297⟩
                clear hK K
                try simp only [Act.put, y1, y2, y3, y4, y5, y6]
                generalize w289.alloc (.cells (zrow k) 5) = w296 at *
                generalize w289.heap.size = b299 at *
                refine wpAnyH_ready (rs := [6]) (by kernel_rfl) (by simp) ?_
                refine AllReadyH.cons rfl (fun K hK => ?_) (AllReadyH.nil)
                try simp only [y1, y2, y3]
                go_simp
                refine (Cpo.out _ _ hr298).mono ?_
                rintro e w302 ⟨rfl, hb303⟩
                rw [aN_vl 16 (po)]
                have hw304 : Below u9.heap.size u9 w302 := hw297.trans (hb303.mono hw297.size)
                have hz305 := H16.call hb303 hz300
                have hz306 := H16.call hb303 hz301
                have hr307 := Rd.go hr298 hb303
                refine hK.out _ _ ?_ (fun hHeld => ?_)
                · exact ⟨range_kept (hw304) (row16_range X3.out), hw304⟩
                clear hK K
                try simp only [Act.put, y1, y2, y3, y4, y5, y6]
                clear hb303
                refine wpAnyH_ready (rs := [9]) (by kernel_rfl) (by simp) ?_
                refine AllReadyH.cons rfl (fun K hK => ?_) (AllReadyH.nil)
                try simp only [y1, y2, y3]
                rw [if_pos (by rfl)]
                refine wp_store_mid 22 (.tmp 12) (.tmp 48) rfl (b292) (0) (vl 16 (pz)).toArray rfl rfl (H16.there hz306) (vsz _) (von _) ?_
                simp only [Act.put, y1, y2, y3, y4, y5, y6, List.toList_toArray]
                have hw309 : Below u9.heap.size u9 (w302.setCells b292 0 (vl 16 (pz))) := below_store hw304 (by omega) _ 0
                have hz310 : H16 (w302.setCells b292 0 (vl 16 (pz))) b292 (pz) := H16.store hz306 _
                have hz311 : H16 (w302.setCells b292 0 (vl 16 (pz))) b239 _ := H16.storeOther hz305 (by omega) _
                refine hK.out _ _ ?_ (fun hHeld => ?_)
                · exact ⟨range_kept (hw309) (row16_range X3.out), hw309⟩
                clear hK K
                try simp only [Act.put, y1, y2, y3, y4, y5, y6]
                generalize w302.setCells b292 0 (vl 16 (pz)) = w308 at *
                refine wpAnyH_ready (rs := [10]) (by kernel_rfl) (by simp) ?_
                refine AllReadyH.cons rfl (fun K hK => ?_) (AllReadyH.nil)
                try simp only [y1, y2, y3]
                rw [if_pos (by rfl)]
                refine wp_store_mid 22 (.tmp 13) (.tmp 52) rfl (b239) (0) (vl 16 (po)).toArray rfl rfl (H16.there hz311) (vsz _) (von _) ?_
                simp only [Act.put, y1, y2, y3, y4, y5, y6, List.toList_toArray]
                have hw313 : Below u9.heap.size u9 (w308.setCells b239 0 (vl 16 (po))) := below_store hw309 (by omega) _ 0
                have hz314 : H16 (w308.setCells b239 0 (vl 16 (po))) b239 (po) := H16.store hz311 _
                have hz315 : H16 (w308.setCells b239 0 (vl 16 (po))) b292 _ := H16.storeOther hz310 (by omega) _
                refine hK.out _ _ ?_ (fun hHeld => ?_)
                · exact ⟨range_kept (hw313) (row16_range X3.out), hw313⟩
                clear hK K
                try simp only [Act.put, y1, y2, y3, y4, y5, y6]
                generalize w308.setCells b239 0 (vl 16 (po)) = w312 at *
                refine wpAnyH_done (by kernel_rfl) ?_ _
                refine NoPanic.normal ?_
                go_wp2_with fail
                go_meet
                refine ⟨_, _, rfl, rfl, Lib.hid hz315, Lib.hid hz314, Lib.hid hw313⟩
          · try simp only [y1, y2, y3]
            go_simp
            have hw317 : Below u9.heap.size u9 (ws1.alloc (.cells (zrow k) 5)) := hs2.alloc hs2.size _
            have hr318 : Rd (ws1.alloc (.cells (zrow k) 5)) (ws1.alloc (.cells (zrow k) 5)).heap.size (some ⟨ws1.heap.size, 0, none⟩) (vn (List.replicate k 0)) := zrow_rd k ws1
            refine hK.out _ _ ?_ (fun hHeld => ?_)
            · exact ⟨range_kept (hw317) (row16_range X3.out), hw317⟩
            clear hK K
            try simp only [Act.put, y1, y2, y3, y4, y5, y6]
            generalize ws1.alloc (.cells (zrow k) 5) = w316 at *
            generalize ws1.heap.size = b319 at *
            refine wpAnyH_ready (rs := [2, 7, 8]) (by kernel_rfl) (by simp) ?_
            refine AllReadyH.cons rfl (fun K hK => ?_) (AllReadyH.cons rfl (fun K hK => ?_) (AllReadyH.cons rfl (fun K hK => ?_) (AllReadyH.nil)))
            · try simp only [y1, y2, y3]
              go_simp
              refine (Cpz.out _ (R8.out.go hw317)).mono ?_
              rintro e w320 ⟨rfl, hb321⟩
              rw [aN_vl 16 (pz)]
              have hw322 : Below u9.heap.size u9 w320 := hw317.trans (hb321.mono hw317.size)
              have hr323 := Rd.go hr318 hb321
              refine hK.out _ _ ?_ (fun hHeld => ?_)
              · exact ⟨range_kept (hw322) (row16_range X3.out), hw322⟩
              clear hK K
              try simp only [Act.put, y1, y2, y3, y4, y5, y6]
              clear hb321
              refine wpAnyH_ready (rs := [6, 7, 8]) (by kernel_rfl) (by simp) ?_
              refine AllReadyH.cons rfl (fun K hK => ?_) (AllReadyH.cons rfl (fun K hK => ?_) (AllReadyH.cons rfl (fun K hK => ?_) (AllReadyH.nil)))
              · try simp only [y1, y2, y3]
                go_simp
                refine (Cpo.out _ _ hr323).mono ?_
                rintro e w324 ⟨rfl, hb325⟩
                rw [aN_vl 16 (po)]
                have hw326 : Below u9.heap.size u9 w324 := hw322.trans (hb325.mono hw322.size)
                have hr327 := Rd.go hr323 hb325
                refine hK.out _ _ ?_ (fun hHeld => ?_)
                · exact ⟨range_kept (hw326) (row16_range X3.out), hw326⟩
                clear hK K
                try simp only [Act.put, y1, y2, y3, y4, y5, y6]
                clear hb325
                refine wpAnyH_ready (rs := [7, 8]) (by kernel_rfl) (by simp) ?_
                refine AllReadyH.cons rfl (fun K hK => ?_) (AllReadyH.cons rfl (fun K hK => ?_) (AllReadyH.nil))
                · try simp only [y1, y2, y3]
                  go_simp
                  have hw329 : Below u9.heap.size u9 (w324.alloc zO) := hw326.alloc hw326.size _
                  have hz330 : H16 (w324.alloc zO) w324.heap.size fun _ => 0 := new_h w324
                  have hl332 : u9.heap.size ≤ w324.heap.size := hw326.size
                  have hr333 := Rd.go hr327 ((Below.refl _ _).alloc (Nat.le_refl _) zO)
                  refine hK.out _ _ ?_ (fun hHeld => ?_)
                  · exact ⟨range_kept (hw329) (row16_range X3.out), hw329⟩
                  clear hK K
                  try simp only [Act.put, y1, y2, y3, y4, y5, y6]
                  generalize w324.alloc zO = w328 at *
                  generalize w324.heap.size = b331 at *
                  refine wpAnyH_ready (rs := [8]) (by kernel_rfl) (by simp) ?_
                  refine AllReadyH.cons rfl (fun K hK => ?_) (AllReadyH.nil)
                  try simp only [y1, y2, y3]
                  go_simp
                  have hw335 : Below u9.heap.size u9 (w328.alloc zO) := hw329.alloc hw329.size _
                  have hz336 : H16 (w328.alloc zO) w328.heap.size fun _ => 0 := new_h w328
                  have hl338 : u9.heap.size ≤ w328.heap.size := hw329.size
                  have hr339 := Rd.go hr333 ((Below.refl _ _).alloc (Nat.le_refl _) zO)
                  have hz340 := H16.alloc zO hz330
                  have hne341 : b331 < w328.heap.size := hz330.lt
                  refine hK.out _ _ ?_ (fun hHeld => ?_)
                  · exact ⟨range_kept (hw335) (row16_range X3.out), hw335⟩
                  clear hK K
                  try simp only [Act.put, y1, y2, y3, y4, y5, y6]
                  generalize w328.alloc zO = w334 at *
                  generalize w328.heap.size = b337 at *
                  refine wpAnyH_ready (rs := [9]) (by kernel_rfl) (by simp) ?_
                  refine AllReadyH.cons rfl (fun K hK => ?_) (AllReadyH.nil)
                  try simp only [y1, y2, y3]
                  rw [if_pos (by rfl)]
                  refine wp_store_mid 22 (.tmp 12) (.tmp 48) rfl (b331) (0) (vl 16 (pz)).toArray rfl rfl (H16.there hz340) (vsz _) (von _) ?_
                  simp only [Act.put, y1, y2, y3, y4, y5, y6, List.toList_toArray]
                  have hw343 : Below u9.heap.size u9 (w334.setCells b331 0 (vl 16 (pz))) := below_store hw335 (by omega) _ 0
                  have hz344 : H16 (w334.setCells b331 0 (vl 16 (pz))) b331 (pz) := H16.store hz340 _
                  have hz345 : H16 (w334.setCells b331 0 (vl 16 (pz))) b337 _ := H16.storeOther hz336 (by omega) _
                  refine hK.out _ _ ?_ (fun hHeld => ?_)
                  · exact ⟨range_kept (hw343) (row16_range X3.out), hw343⟩
                  clear hK K
                  try simp only [Act.put, y1, y2, y3, y4, y5, y6]
                  generalize w334.setCells b331 0 (vl 16 (pz)) = w342 at *
                  refine wpAnyH_ready (rs := [10]) (by kernel_rfl) (by simp) ?_
                  refine AllReadyH.cons rfl (fun K hK => ?_) (AllReadyH.nil)
                  try simp only [y1, y2, y3]
                  rw [if_pos (by rfl)]
                  refine wp_store_mid 22 (.tmp 13) (.tmp 52) rfl (b337) (0) (vl 16 (po)).toArray rfl rfl (H16.there hz345) (vsz _) (von _) ?_
                  simp only [Act.put, y1, y2, y3, y4, y5, y6, List.toList_toArray]
                  have hw347 : Below u9.heap.size u9 (w342.setCells b337 0 (vl 16 (po))) := below_store hw343 (by omega) _ 0
                  have hz348 : H16 (w342.setCells b337 0 (vl 16 (po))) b337 (po) := H16.store hz345 _
                  have hz349 : H16 (w342.setCells b337 0 (vl 16 (po))) b331 _ := H16.storeOther hz344 (by omega) _
                  refine hK.out _ _ ?_ (fun hHeld => ?_)
                  · exact ⟨range_kept (hw347) (row16_range X3.out), hw347⟩
                  clear hK K
                  try simp only [Act.put, y1, y2, y3, y4, y5, y6]
                  generalize w342.setCells b337 0 (vl 16 (po)) = w346 at *
                  refine wpAnyH_done (by kernel_rfl) ?_ _
                  refine NoPanic.normal ?_
                  go_wp2_with fail
                  go_meet
                  refine ⟨_, _, rfl, rfl, Lib.hid hz349, Lib.hid hz348, Lib.hid hw347⟩
                · try simp only [y1, y2, y3]
                  go_simp
                  have hw351 : Below u9.heap.size u9 (w324.alloc zO) := hw326.alloc hw326.size _
                  have hz352 : H16 (w324.alloc zO) w324.heap.size fun _ => 0 := new_h w324
                  have hl354 : u9.heap.size ≤ w324.heap.size := hw326.size
                  have hr355 := Rd.go hr327 ((Below.refl _ _).alloc (Nat.le_refl _) zO)
                  refine hK.out _ _ ?_ (fun hHeld => ?_)
                  · exact ⟨range_kept (hw351) (row16_range X3.out), hw351⟩
                  clear hK K
                  try simp only [Act.put, y1, y2, y3, y4, y5, y6]
                  generalize w324.alloc zO = w350 at *
                  generalize w324.heap.size = b353 at *
                  refine wpAnyH_ready (rs := [7]) (by kernel_rfl) (by simp) ?_
                  refine AllReadyH.cons rfl (fun K hK => ?_) (AllReadyH.nil)
                  try simp only [y1, y2, y3]
                  go_simp
                  have hw357 : Below u9.heap.size u9 (w350.alloc zO) := hw351.alloc hw351.size _
                  have hz358 : H16 (w350.alloc zO) w350.heap.size fun _ => 0 := new_h w350
                  have hl360 : u9.heap.size ≤ w350.heap.size := hw351.size
                  have hr361 := Rd.go hr355 ((Below.refl _ _).alloc (Nat.le_refl _) zO)
                  have hz362 := H16.alloc zO hz352
                  have hne363 : b353 < w350.heap.size := hz352.lt
                  refine hK.out _ _ ?_ (fun hHeld => ?_)
                  · exact ⟨range_kept (hw357) (row16_range X3.out), hw357⟩
                  clear hK K
                  try simp only [Act.put, y1, y2, y3, y4, y5, y6]
                  generalize w350.alloc zO = w356 at *
                  generalize w350.heap.size = b359 at *
                  refine wpAnyH_ready (rs := [9]) (by kernel_rfl) (by simp) ?_
                  refine AllReadyH.cons rfl (fun K hK => ?_) (AllReadyH.nil)
                  try simp only [y1, y2, y3]
                  rw [if_pos (by rfl)]
                  refine wp_store_mid 22 (.tmp 12) (.tmp 48) rfl (b359) (0) (vl 16 (pz)).toArray rfl rfl (H16.there hz358) (vsz _) (von _) ?_
                  simp only [Act.put, y1, y2, y3, y4, y5, y6, List.toList_toArray]
                  have hw365 : Below u9.heap.size u9 (w356.setCells b359 0 (vl 16 (pz))) := below_store hw357 (by omega) _ 0
                  have hz366 : H16 (w356.setCells b359 0 (vl 16 (pz))) b359 (pz) := H16.store hz358 _
                  have hz367 : H16 (w356.setCells b359 0 (vl 16 (pz))) b353 _ := H16.storeOther hz362 (by omega) _
                  refine hK.out _ _ ?_ (fun hHeld => ?_)
                  · exact ⟨range_kept (hw365) (row16_range X3.out), hw365⟩
                  clear hK K
                  try simp only [Act.put, y1, y2, y3, y4, y5, y6]
                  generalize w356.setCells b359 0 (vl 16 (pz)) = w364 at *
                  refine wpAnyH_ready (rs := [10]) (by kernel_rfl) (by simp) ?_
                  refine AllReadyH.cons rfl (fun K hK => ?_) (AllReadyH.nil)
                  try simp only [y1, y2, y3]
                  rw [if_pos (by rfl)]
                  refine wp_store_mid 22 (.tmp 13) (.tmp 52) rfl (b353) (0) (vl 16 (po)).toArray rfl rfl (H16.there hz367) (vsz _) (von _) ?_
                  simp only [Act.put, y1, y2, y3, y4, y5, y6, List.toList_toArray]
                  have hw369 : Below u9.heap.size u9 (w364.setCells b353 0 (vl 16 (po))) := below_store hw365 (by omega) _ 0
                  have hz370 : H16 (w364.setCells b353 0 (vl 16 (po))) b353 (po) := H16.store hz367 _
                  have hz371 : H16 (w364.setCells b353 0 (vl 16 (po))) b359 _ := H16.storeOther hz366 (by omega) _
                  refine hK.out _ _ ?_ (fun hHeld => ?_)
                  · exact ⟨range_kept (hw369) (row16_range X3.out), hw369⟩
                  clear hK K
                  try simp only [Act.put, y1, y2, y3, y4, y5, y6]
                  generalize w364.setCells b353 0 (vl 16 (po)) = w368 at *
                  refine wpAnyH_done (by kernel_rfl) ?_ _
                  refine NoPanic.normal ?_
                  go_wp2_with fail
                  go_meet
                  refine ⟨_, _, rfl, rfl, Lib.hid hz371, Lib.hid hz370, Lib.hid hw369⟩
              · try simp only [y1, y2, y3]
                go_simp
                have hw373 : Below u9.heap.size u9 (w320.alloc zO) := hw322.alloc hw322.size _
                have hz374 : H16 (w320.alloc zO) w320.heap.size fun _ => 0 := new_h w320
                have hl376 : u9.heap.size ≤ w320.heap.size := hw322.size
                have hr377 := Rd.go hr323 ((Below.refl _ _).alloc (Nat.le_refl _) zO)
                refine hK.out _ _ ?_ (fun hHeld => ?_)
                · exact ⟨range_kept (hw373) (row16_range X3.out), hw373⟩
                clear hK K
                try simp only [Act.put, y1, y2, y3, y4, y5, y6]
                generalize w320.alloc zO = w372 at *
                generalize w320.heap.size = b375 at *
                refine wpAnyH_ready (rs := [6, 8]) (by kernel_rfl) (by simp) ?_
                refine AllReadyH.cons rfl (fun K hK => ?_) (AllReadyH.cons rfl (fun K hK => ?_) (AllReadyH.nil))
                · try simp only [y1, y2, y3]
                  go_simp
                  refine (Cpo.out _ _ hr377).mono ?_
                  rintro e w378 ⟨rfl, hb379⟩
                  rw [aN_vl 16 (po)]
                  have hw380 : Below u9.heap.size u9 w378 := hw373.trans (hb379.mono hw373.size)
                  have hz381 := H16.call hb379 hz374
                  have hr382 := Rd.go hr377 hb379
                  refine hK.out _ _ ?_ (fun hHeld => ?_)
                  · exact ⟨range_kept (hw380) (row16_range X3.out), hw380⟩
                  clear hK K
                  try simp only [Act.put, y1, y2, y3, y4, y5, y6]
                  clear hb379
                  refine wpAnyH_ready (rs := [8]) (by kernel_rfl) (by simp) ?_
                  refine AllReadyH.cons rfl (fun K hK => ?_) (AllReadyH.nil)
                  try simp only [y1, y2, y3]
                  go_simp
                  have hw384 : Below u9.heap.size u9 (w378.alloc zO) := hw380.alloc hw380.size _
                  have hz385 : H16 (w378.alloc zO) w378.heap.size fun _ => 0 := new_h w378
                  have hl387 : u9.heap.size ≤ w378.heap.size := hw380.size
                  have hr388 := Rd.go hr382 ((Below.refl _ _).alloc (Nat.le_refl _) zO)
                  have hz389 := H16.alloc zO hz381
                  have hne390 : b375 < w378.heap.size := hz381.lt
                  refine hK.out _ _ ?_ (fun hHeld => ?_)
                  · exact ⟨range_kept (hw384) (row16_range X3.out), hw384⟩
                  clear hK K
                  try simp only [Act.put, y1, y2, y3, y4, y5, y6]
                  generalize w378.alloc zO = w383 at *
                  generalize w378.heap.size = b386 at *
                  refine wpAnyH_ready (rs := [9]) (by kernel_rfl) (by simp) ?_
                  refine AllReadyH.cons rfl (fun K hK => ?_) (AllReadyH.nil)
                  try simp only [y1, y2, y3]
                  rw [if_pos (by rfl)]
                  refine wp_store_mid 22 (.tmp 12) (.tmp 48) rfl (b375) (0) (vl 16 (pz)).toArray rfl rfl (H16.there hz389) (vsz _) (von _) ?_
                  simp only [Act.put, y1, y2, y3, y4, y5, y6, List.toList_toArray]
                  have hw392 : Below u9.heap.size u9 (w383.setCells b375 0 (vl 16 (pz))) := below_store hw384 (by omega) _ 0
                  have hz393 : H16 (w383.setCells b375 0 (vl 16 (pz))) b375 (pz) := H16.store hz389 _
                  have hz394 : H16 (w383.setCells b375 0 (vl 16 (pz))) b386 _ := H16.storeOther hz385 (by omega) _
                  refine hK.out _ _ ?_ (fun hHeld => ?_)
                  · exact ⟨range_kept (hw392) (row16_range X3.out), hw392⟩
                  clear hK K
                  try simp only [Act.put, y1, y2, y3, y4, y5, y6]
                  generalize w383.setCells b375 0 (vl 16 (pz)) = w391 at *
                  refine wpAnyH_ready (rs := [10]) (by kernel_rfl) (by simp) ?_
                  refine AllReadyH.cons rfl (fun K hK => ?_) (AllReadyH.nil)
                  try simp only [y1, y2, y3]
                  rw [if_pos (by rfl)]
                  refine wp_store_mid 22 (.tmp 13) (.tmp 52) rfl (b386) (0) (vl 16 (po)).toArray rfl rfl (H16.there hz394) (vsz _) (von _) ?_
                  simp only [Act.put, y1, y2, y3, y4, y5, y6, List.toList_toArray]
                  have hw396 : Below u9.heap.size u9 (w391.setCells b386 0 (vl 16 (po))) := below_store hw392 (by omega) _ 0
                  have hz397 : H16 (w391.setCells b386 0 (vl 16 (po))) b386 (po) := H16.store hz394 _
                  have hz398 : H16 (w391.setCells b386 0 (vl 16 (po))) b375 _ := H16.storeOther hz393 (by omega) _
                  refine hK.out _ _ ?_ (fun hHeld => ?_)
                  · exact ⟨range_kept (hw396) (row16_range X3.out), hw396⟩
                  clear hK K
                  try simp only [Act.put, y1, y2, y3, y4, y5, y6]
                  generalize w391.setCells b386 0 (vl 16 (po)) = w395 at *
                  refine wpAnyH_done (by kernel_rfl) ?_ _
                  refine NoPanic.normal ?_
                  go_wp2_with fail
                  go_meet
                  refine ⟨_, _, rfl, rfl, Lib.hid hz398, Lib.hid hz397, Lib.hid hw396⟩
                · try simp only [y1, y2, y3]
                  go_simp
                  have hw400 : Below u9.heap.size u9 (w372.alloc zO) := hw373.alloc hw373.size _
                  have hz401 : H16 (w372.alloc zO) w372.heap.size fun _ => 0 := new_h w372
                  have hl403 : u9.heap.size ≤ w372.heap.size := hw373.size
                  have hr404 := Rd.go hr377 ((Below.refl _ _).alloc (Nat.le_refl _) zO)
                  have hz405 := H16.alloc zO hz374
                  have hne406 : b375 < w372.heap.size := hz374.lt
                  refine hK.out _ _ ?_ (fun hHeld => ?_)
                  · exact ⟨range_kept (hw400) (row16_range X3.out), hw400⟩
                  clear hK K
                  try simp only [Act.put, y1, y2, y3, y4, y5, y6]
                  generalize w372.alloc zO = w399 at *
                  generalize w372.heap.size = b402 at *
                  refine wpAnyH_ready (rs := [6]) (by kernel_rfl) (by simp) ?_
                  refine AllReadyH.cons rfl (fun K hK => ?_) (AllReadyH.nil)
                  try simp only [y1, y2, y3]
                  go_simp
                  refine (Cpo.out _ _ hr404).mono ?_
                  rintro e w407 ⟨rfl, hb408⟩
                  rw [aN_vl 16 (po)]
                  have hw409 : Below u9.heap.size u9 w407 := hw400.trans (hb408.mono hw400.size)
                  have hz410 := H16.call hb408 hz405
                  have hz411 := H16.call hb408 hz401
                  have hr412 := Rd.go hr404 hb408
                  refine hK.out _ _ ?_ (fun hHeld => ?_)
                  · exact ⟨range_kept (hw409) (row16_range X3.out), hw409⟩
                  clear hK K
                  try simp only [Act.put, y1, y2, y3, y4, y5, y6]
                  clear hb408
                  refine wpAnyH_ready (rs := [9]) (by kernel_rfl) (by simp) ?_
                  refine AllReadyH.cons rfl (fun K hK => ?_) (AllReadyH.nil)
                  try simp only [y1, y2, y3]
                  rw [if_pos (by rfl)]
                  refine wp_store_mid 22 (.tmp 12) (.tmp 48) rfl (b375) (0) (vl 16 (pz)).toArray rfl rfl (H16.there hz410) (vsz _) (von _) ?_
                  simp only [Act.put, y1, y2, y3, y4, y5, y6, List.toList_toArray]
                  have hw414 : Below u9.heap.size u9 (w407.setCells b375 0 (vl 16 (pz))) := below_store hw409 (by omega) _ 0
                  have hz415 : H16 (w407.setCells b375 0 (vl 16 (pz))) b375 (pz) := H16.store hz410 _
                  have hz416 : H16 (w407.setCells b375 0 (vl 16 (pz))) b402 _ := H16.storeOther hz411 (by omega) _
                  refine hK.out _ _ ?_ (fun hHeld => ?_)
                  · exact ⟨range_kept (hw414) (row16_range X3.out), hw414⟩
                  clear hK K
                  try simp only [Act.put, y1, y2, y3, y4, y5, y6]
                  generalize w407.setCells b375 0 (vl 16 (pz)) = w413 at *
                  refine wpAnyH_ready (rs := [10]) (by kernel_rfl) (by simp) ?_
                  refine AllReadyH.cons rfl (fun K hK => ?_) (AllReadyH.nil)
                  try simp only [y1, y2, y3]
                  rw [if_pos (by rfl)]
                  refine wp_store_mid 22 (.tmp 13) (.tmp 52) rfl (b402) (0) (vl 16 (po)).toArray rfl rfl (H16.there hz416) (vsz _) (von _) ?_
                  simp only [Act.put, y1, y2, y3, y4, y5, y6, List.toList_toArray]
                  have hw418 : Below u9.heap.size u9 (w413.setCells b402 0 (vl 16 (po))) := below_store hw414 (by omega) _ 0
                  have hz419 : H16 (w413.setCells b402 0 (vl 16 (po))) b402 (po) := H16.store hz416 _
                  have hz420 : H16 (w413.setCells b402 0 (vl 16 (po))) b375 _ := H16.storeOther hz415 (by omega) _
                  refine hK.out _ _ ?_ (fun hHeld => ?_)
                  · exact ⟨range_kept (hw418) (row16_range X3.out), hw418⟩
                  clear hK K
                  try simp only [Act.put, y1, y2, y3, y4, y5, y6]
                  generalize w413.setCells b402 0 (vl 16 (po)) = w417 at *
                  refine wpAnyH_done (by kernel_rfl) ?_ _
                  refine NoPanic.normal ?_
                  go_wp2_with fail
                  go_meet
                  refine ⟨_, _, rfl, rfl, Lib.hid hz420, Lib.hid hz419, Lib.hid hw418⟩
              · try simp only [y1, y2, y3]
                go_simp
                have hw422 : Below u9.heap.size u9 (w320.alloc zO) := hw322.alloc hw322.size _
                have hz423 : H16 (w320.alloc zO) w320.heap.size fun _ => 0 := new_h w320
                have hl425 : u9.heap.size ≤ w320.heap.size := hw322.size
                have hr426 := Rd.go hr323 ((Below.refl _ _).alloc (Nat.le_refl _) zO)
                refine hK.out _ _ ?_ (fun hHeld => ?_)
                · exact ⟨range_kept (hw422) (row16_range X3.out), hw422⟩
                clear hK K
                try simp only [Act.put, y1, y2, y3, y4, y5, y6]
                generalize w320.alloc zO = w421 at *
                generalize w320.heap.size = b424 at *
                refine wpAnyH_ready (rs := [6, 7]) (by kernel_rfl) (by simp) ?_
                refine AllReadyH.cons rfl (fun K hK => ?_) (AllReadyH.cons rfl (fun K hK => ?_) (AllReadyH.nil))
                · try simp only [y1, y2, y3]
                  go_simp
                  refine (Cpo.out _ _ hr426).mono ?_
                  rintro e w427 ⟨rfl, hb428⟩
                  rw [aN_vl 16 (po)]
                  have hw429 : Below u9.heap.size u9 w427 := hw422.trans (hb428.mono hw422.size)
                  have hz430 := H16.call hb428 hz423
                  have hr431 := Rd.go hr426 hb428
                  refine hK.out _ _ ?_ (fun hHeld => ?_)
                  · exact ⟨range_kept (hw429) (row16_range X3.out), hw429⟩
                  clear hK K
                  try simp only [Act.put, y1, y2, y3, y4, y5, y6]
                  clear hb428
                  refine wpAnyH_ready (rs := [7]) (by kernel_rfl) (by simp) ?_
                  refine AllReadyH.cons rfl (fun K hK => ?_) (AllReadyH.nil)
                  try simp only [y1, y2, y3]
                  go_simp
                  have hw433 : Below u9.heap.size u9 (w427.alloc zO) := hw429.alloc hw429.size _
                  have hz434 : H16 (w427.alloc zO) w427.heap.size fun _ => 0 := new_h w427
                  have hl436 : u9.heap.size ≤ w427.heap.size := hw429.size
                  have hr437 := Rd.go hr431 ((Below.refl _ _).alloc (Nat.le_refl _) zO)
                  have hz438 := H16.alloc zO hz430
                  have hne439 : b424 < w427.heap.size := hz430.lt
                  refine hK.out _ _ ?_ (fun hHeld => ?_)
                  · exact ⟨range_kept (hw433) (row16_range X3.out), hw433⟩
                  clear hK K
                  try simp only [Act.put, y1, y2, y3, y4, y5, y6]
                  generalize w427.alloc zO = w432 at *
                  generalize w427.heap.size = b435 at *
                  refine wpAnyH_ready (rs := [9]) (by kernel_rfl) (by simp) ?_
                  refine AllReadyH.cons rfl (fun K hK => ?_) (AllReadyH.nil)
                  try simp only [y1, y2, y3]
                  rw [if_pos (by rfl)]
                  refine wp_store_mid 22 (.tmp 12) (.tmp 48) rfl (b435) (0) (vl 16 (pz)).toArray rfl rfl (H16.there hz434) (vsz _) (von _) ?_
                  simp only [Act.put, y1, y2, y3, y4, y5, y6, List.toList_toArray]
                  have hw441 : Below u9.heap.size u9 (w432.setCells b435 0 (vl 16 (pz))) := below_store hw433 (by omega) _ 0
                  have hz442 : H16 (w432.setCells b435 0 (vl 16 (pz))) b435 (pz) := H16.store hz434 _
                  have hz443 : H16 (w432.setCells b435 0 (vl 16 (pz))) b424 _ := H16.storeOther hz438 (by omega) _
                  refine hK.out _ _ ?_ (fun hHeld => ?_)
                  · exact ⟨range_kept (hw441) (row16_range X3.out), hw441⟩
                  clear hK K
                  try simp only [Act.put, y1, y2, y3, y4, y5, y6]
                  generalize w432.setCells b435 0 (vl 16 (pz)) = w440 at *
                  refine wpAnyH_ready (rs := [10]) (by kernel_rfl) (by simp) ?_
                  refine AllReadyH.cons rfl (fun K hK => ?_) (AllReadyH.nil)
                  try simp only [y1, y2, y3]
                  rw [if_pos (by rfl)]
                  refine wp_store_mid 22 (.tmp 13) (.tmp 52) rfl (b424) (0) (vl 16 (po)).toArray rfl rfl (H16.there hz443) (vsz _) (von _) ?_
                  simp only [Act.put, y1, y2, y3, y4, y5, y6, List.toList_toArray]
                  have hw445 : Below u9.heap.size u9 (w440.setCells b424 0 (vl 16 (po))) := below_store hw441 (by omega) _ 0
                  have hz446 : H16 (w440.setCells b424 0 (vl 16 (po))) b424 (po) := H16.store hz443 _
                  have hz447 : H16 (w440.setCells b424 0 (vl 16 (po))) b435 _ := H16.storeOther hz442 (by omega) _
                  refine hK.out _ _ ?_ (fun hHeld => ?_)
                  · exact ⟨range_kept (hw445) (row16_range X3.out), hw445⟩
                  clear hK K
                  try simp only [Act.put, y1, y2, y3, y4, y5, y6]
                  generalize w440.setCells b424 0 (vl 16 (po)) = w444 at *
                  refine wpAnyH_done (by kernel_rfl) ?_ _
                  refine NoPanic.normal ?_
                  go_wp2_with fail
                  go_meet
                  refine ⟨_, _, rfl, rfl, Lib.hid hz447, Lib.hid hz446, Lib.hid hw445⟩
                · try simp only [y1, y2, y3]
                  go_simp
                  have hw449 : Below u9.heap.size u9 (w421.alloc zO) := hw422.alloc hw422.size _
                  have hz450 : H16 (w421.alloc zO) w421.heap.size fun _ => 0 := new_h w421
                  have hl452 : u9.heap.size ≤ w421.heap.size := hw422.size
                  have hr453 := Rd.go hr426 ((Below.refl _ _).alloc (Nat.le_refl _) zO)
                  have hz454 := H16.alloc zO hz423
                  have hne455 : b424 < w421.heap.size := hz423.lt
                  refine hK.out _ _ ?_ (fun hHeld => ?_)
                  · exact ⟨range_kept (hw449) (row16_range X3.out), hw449⟩
                  clear hK K
                  try simp only [Act.put, y1, y2, y3, y4, y5, y6]
                  generalize w421.alloc zO = w448 at *
                  generalize w421.heap.size = b451 at *
                  refine wpAnyH_ready (rs := [6]) (by kernel_rfl) (by simp) ?_
                  refine AllReadyH.cons rfl (fun K hK => ?_) (AllReadyH.nil)
                  try simp only [y1, y2, y3]
                  go_simp
                  refine (Cpo.out _ _ hr453).mono ?_
                  rintro e w456 ⟨rfl, hb457⟩
                  rw [aN_vl 16 (po)]
                  have hw458 : Below u9.heap.size u9 w456 := hw449.trans (hb457.mono hw449.size)
                  have hz459 := H16.call hb457 hz454
                  have hz460 := H16.call hb457 hz450
                  have hr461 := Rd.go hr453 hb457
                  refine hK.out _ _ ?_ (fun hHeld => ?_)
                  · exact ⟨range_kept (hw458) (row16_range X3.out), hw458⟩
                  clear hK K
                  try simp only [Act.put, y1, y2, y3, y4, y5, y6]
                  clear hb457
                  refine wpAnyH_ready (rs := [9]) (by kernel_rfl) (by simp) ?_
                  refine AllReadyH.cons rfl (fun K hK => ?_) (AllReadyH.nil)
                  try simp only [y1, y2, y3]
                  rw [if_pos (by rfl)]
                  refine wp_store_mid 22 (.tmp 12) (.tmp 48) rfl (b451) (0) (vl 16 (pz)).toArray rfl rfl (H16.there hz460) (vsz _) (von _) ?_
                  simp only [Act.put, y1, y2, y3, y4, y5, y6, List.toList_toArray]
                  have hw463 : Below u9.heap.size u9 (w456.setCells b451 0 (vl 16 (pz))) := below_store hw458 (by omega) _ 0
                  have hz464 : H16 (w456.setCells b451 0 (vl 16 (pz))) b451 (pz) := H16.store hz460 _
                  have hz465 : H16 (w456.setCells b451 0 (vl 16 (pz))) b424 _ := H16.storeOther hz459 (by omega) _
                  refine hK.out _ _ ?_ (fun hHeld => ?_)
                  · exact ⟨range_kept (hw463) (row16_range X3.out), hw463⟩
                  clear hK K
                  try simp only [Act.put, y1, y2, y3, y4, y5, y6]
                  generalize w456.setCells b451 0 (vl 16 (pz)) = w462 at *
                  refine wpAnyH_ready (rs := [10]) (by kernel_rfl) (by simp) ?_
                  refine AllReadyH.cons rfl (fun K hK => ?_) (AllReadyH.nil)
                  try simp only [y1, y2, y3]
                  rw [if_pos (by rfl)]
                  refine wp_store_mid 22 (.tmp 13) (.tmp 52) rfl (b424) (0) (vl 16 (po)).toArray rfl rfl (H16.there hz465) (vsz _) (von _) ?_
                  simp only [Act.put, y1, y2, y3, y4, y5, y6, List.toList_toArray]
                  have hw467 : Below u9.heap.size u9 (w462.setCells b424 0 (vl 16 (po))) := below_store hw463 (by omega) _ 0
                  have hz468 : H16 (w462.setCells b424 0 (vl 16 (po))) b424 (po) := H16.store hz465 _
                  have hz469 : H16 (w462.setCells b424 0 (vl 16 (po))) b451 _ := H16.storeOther hz464 (by omega) _
                  refine hK.out _ _ ?_ (fun hHeld => ?_)
                  · exact ⟨range_kept (hw467) (row16_range X3.out), hw467⟩
                  clear hK K
                  try simp only [Act.put, y1, y2, y3, y4, y5, y6]
                  generalize w462.setCells b424 0 (vl 16 (po)) = w466 at *
                  refine wpAnyH_done (by kernel_rfl) ?_ _
                  refine NoPanic.normal ?_
                  go_wp2_with fail
                  go_meet
                  refine ⟨_, _, rfl, rfl, Lib.hid hz469, Lib.hid hz468, Lib.hid hw467⟩
            · try simp only [y1, y2, y3]
              go_simp
              have hw471 : Below u9.heap.size u9 (w316.alloc zO) := hw317.alloc hw317.size _
              have hz472 : H16 (w316.alloc zO) w316.heap.size fun _ => 0 := new_h w316
              have hl474 : u9.heap.size ≤ w316.heap.size := hw317.size
              have hr475 := Rd.go hr318 ((Below.refl _ _).alloc (Nat.le_refl _) zO)
              refine hK.out _ _ ?_ (fun hHeld => ?_)
              · exact ⟨range_kept (hw471) (row16_range X3.out), hw471⟩
              clear hK K
              try simp only [Act.put, y1, y2, y3, y4, y5, y6]
              generalize w316.alloc zO = w470 at *
              generalize w316.heap.size = b473 at *
              refine wpAnyH_ready (rs := [2, 8]) (by kernel_rfl) (by simp) ?_
              refine AllReadyH.cons rfl (fun K hK => ?_) (AllReadyH.cons rfl (fun K hK => ?_) (AllReadyH.nil))
              · try simp only [y1, y2, y3]
                go_simp
                refine (Cpz.out _ (R8.out.go hw471)).mono ?_
                rintro e w476 ⟨rfl, hb477⟩
                rw [aN_vl 16 (pz)]
                have hw478 : Below u9.heap.size u9 w476 := hw471.trans (hb477.mono hw471.size)
                have hz479 := H16.call hb477 hz472
                have hr480 := Rd.go hr475 hb477
                refine hK.out _ _ ?_ (fun hHeld => ?_)
                · exact ⟨range_kept (hw478) (row16_range X3.out), hw478⟩
                clear hK K
                try simp only [Act.put, y1, y2, y3, y4, y5, y6]
                clear hb477
                refine wpAnyH_ready (rs := [6, 8]) (by kernel_rfl) (by simp) ?_
                refine AllReadyH.cons rfl (fun K hK => ?_) (AllReadyH.cons rfl (fun K hK => ?_) (AllReadyH.nil))
                · try simp only [y1, y2, y3]
                  go_simp
                  refine (Cpo.out _ _ hr480).mono ?_
                  rintro e w481 ⟨rfl, hb482⟩
                  rw [aN_vl 16 (po)]
                  have hw483 : Below u9.heap.size u9 w481 := hw478.trans (hb482.mono hw478.size)
                  have hz484 := H16.call hb482 hz479
                  have hr485 := Rd.go hr480 hb482
                  refine hK.out _ _ ?_ (fun hHeld => ?_)
                  · exact ⟨range_kept (hw483) (row16_range X3.out), hw483⟩
                  clear hK K
                  try simp only [Act.put, y1, y2, y3, y4, y5, y6]
                  clear hb482
                  refine wpAnyH_ready (rs := [8]) (by kernel_rfl) (by simp) ?_
                  refine AllReadyH.cons rfl (fun K hK => ?_) (AllReadyH.nil)
                  try simp only [y1, y2, y3]
                  go_simp
                  have hw487 : Below u9.heap.size u9 (w481.alloc zO) := hw483.alloc hw483.size _
                  have hz488 : H16 (w481.alloc zO) w481.heap.size fun _ => 0 := new_h w481
                  have hl490 : u9.heap.size ≤ w481.heap.size := hw483.size
                  have hr491 := Rd.go hr485 ((Below.refl _ _).alloc (Nat.le_refl _) zO)
                  have hz492 := H16.alloc zO hz484
                  have hne493 : b473 < w481.heap.size := hz484.lt
                  refine hK.out _ _ ?_ (fun hHeld => ?_)
                  · exact ⟨range_kept (hw487) (row16_range X3.out), hw487⟩
                  clear hK K
                  try simp only [Act.put, y1, y2, y3, y4, y5, y6]
                  generalize w481.alloc zO = w486 at *
                  generalize w481.heap.size = b489 at *
                  refine wpAnyH_ready (rs := [9]) (by kernel_rfl) (by simp) ?_
                  refine AllReadyH.cons rfl (fun K hK => ?_) (AllReadyH.nil)
                  try simp only [y1, y2, y3]
                  rw [if_pos (by rfl)]
                  refine wp_store_mid 22 (.tmp 12) (.tmp 48) rfl (b473) (0) (vl 16 (pz)).toArray rfl rfl (H16.there hz492) (vsz _) (von _) ?_
                  simp only [Act.put, y1, y2, y3, y4, y5, y6, List.toList_toArray]
                  have hw495 : Below u9.heap.size u9 (w486.setCells b473 0 (vl 16 (pz))) := below_store hw487 (by omega) _ 0
                  have hz496 : H16 (w486.setCells b473 0 (vl 16 (pz))) b473 (pz) := H16.store hz492 _
                  have hz497 : H16 (w486.setCells b473 0 (vl 16 (pz))) b489 _ := H16.storeOther hz488 (by omega) _
                  refine hK.out _ _ ?_ (fun hHeld => ?_)
                  · exact ⟨range_kept (hw495) (row16_range X3.out), hw495⟩
                  clear hK K
                  try simp only [Act.put, y1, y2, y3, y4, y5, y6]
                  generalize w486.setCells b473 0 (vl 16 (pz)) = w494 at *
                  refine wpAnyH_ready (rs := [10]) (by kernel_rfl) (by simp) ?_
                  refine AllReadyH.cons rfl (fun K hK => ?_) (AllReadyH.nil)
                  try simp only [y1, y2, y3]
                  rw [if_pos (by rfl)]
                  refine wp_store_mid 22 (.tmp 13) (.tmp 52) rfl (b489) (0) (vl 16 (po)).toArray rfl rfl (H16.there hz497) (vsz _) (von _) ?_
                  simp only [Act.put, y1, y2, y3, y4, y5, y6, List.toList_toArray]
                  have hw499 : Below u9.heap.size u9 (w494.setCells b489 0 (vl 16 (po))) := below_store hw495 (by omega) _ 0
                  have hz500 : H16 (w494.setCells b489 0 (vl 16 (po))) b489 (po) := H16.store hz497 _
                  have hz501 : H16 (w494.setCells b489 0 (vl 16 (po))) b473 _ := H16.storeOther hz496 (by omega) _
                  refine hK.out _ _ ?_ (fun hHeld => ?_)
                  · exact ⟨range_kept (hw499) (row16_range X3.out), hw499⟩
                  clear hK K
                  try simp only [Act.put, y1, y2, y3, y4, y5, y6]
                  generalize w494.setCells b489 0 (vl 16 (po)) = w498 at *
                  refine wpAnyH_done (by kernel_rfl) ?_ _
                  refine NoPanic.normal ?_
                  go_wp2_with fail
                  go_meet
                  refine ⟨_, _, rfl, rfl, Lib.hid hz501, Lib.hid hz500, Lib.hid hw499⟩
                · try simp only [y1, y2, y3]
                  go_simp
                  have hw503 : Below u9.heap.size u9 (w476.alloc zO) := hw478.alloc hw478.size _
                  have hz504 : H16 (w476.alloc zO) w476.heap.size fun _ => 0 := new_h w476
                  have hl506 : u9.heap.size ≤ w476.heap.size := hw478.size
                  have hr507 := Rd.go hr480 ((Below.refl _ _).alloc (Nat.le_refl _) zO)
                  have hz508 := H16.alloc zO hz479
                  have hne509 : b473 < w476.heap.size := hz479.lt
                  refine hK.out _ _ ?_ (fun hHeld => ?_)
                  · exact ⟨range_kept (hw503) (row16_range X3.out), hw503⟩
                  clear hK K
                  try simp only [Act.put, y1, y2, y3, y4, y5, y6]
                  generalize w476.alloc zO = w502 at *
                  generalize w476.heap.size = b505 at *
                  refine wpAnyH_ready (rs := [6]) (by kernel_rfl) (by simp) ?_
                  refine AllReadyH.cons rfl (fun K hK => ?_) (AllReadyH.nil)
                  try simp only [y1, y2, y3]
                  go_simp
                  refine (Cpo.out _ _ hr507).mono ?_
                  rintro e w510 ⟨rfl, hb511⟩
                  rw [aN_vl 16 (po)]
                  have hw512 : Below u9.heap.size u9 w510 := hw503.trans (hb511.mono hw503.size)
                  have hz513 := H16.call hb511 hz508
                  have hz514 := H16.call hb511 hz504
                  have hr515 := Rd.go hr507 hb511
                  refine hK.out _ _ ?_ (fun hHeld => ?_)
                  · exact ⟨range_kept (hw512) (row16_range X3.out), hw512⟩
                  clear hK K
                  try simp only [Act.put, y1, y2, y3, y4, y5, y6]
                  clear hb511
                  refine wpAnyH_ready (rs := [9]) (by kernel_rfl) (by simp) ?_
                  refine AllReadyH.cons rfl (fun K hK => ?_) (AllReadyH.nil)
                  try simp only [y1, y2, y3]
                  rw [if_pos (by rfl)]
                  refine wp_store_mid 22 (.tmp 12) (.tmp 48) rfl (b473) (0) (vl 16 (pz)).toArray rfl rfl (H16.there hz513) (vsz _) (von _) ?_
                  simp only [Act.put, y1, y2, y3, y4, y5, y6, List.toList_toArray]
                  have hw517 : Below u9.heap.size u9 (w510.setCells b473 0 (vl 16 (pz))) := below_store hw512 (by omega) _ 0
                  have hz518 : H16 (w510.setCells b473 0 (vl 16 (pz))) b473 (pz) := H16.store hz513 _
                  have hz519 : H16 (w510.setCells b473 0 (vl 16 (pz))) b505 _ := H16.storeOther hz514 (by omega) _
                  refine hK.out _ _ ?_ (fun hHeld => ?_)
                  · exact ⟨range_kept (hw517) (row16_range X3.out), hw517⟩
                  clear hK K
                  try simp only [Act.put, y1, y2, y3, y4, y5, y6]
                  generalize w510.setCells b473 0 (vl 16 (pz)) = w516 at *
                  refine wpAnyH_ready (rs := [10]) (by kernel_rfl) (by simp) ?_
                  refine AllReadyH.cons rfl (fun K hK => ?_) (AllReadyH.nil)
                  try simp only [y1, y2, y3]
                  rw [if_pos (by rfl)]
                  refine wp_store_mid 22 (.tmp 13) (.tmp 52) rfl (b505) (0) (vl 16 (po)).toArray rfl rfl (H16.there hz519) (vsz _) (von _) ?_
                  simp only [Act.put, y1, y2, y3, y4, y5, y6, List.toList_toArray]
                  have hw521 : Below u9.heap.size u9 (w516.setCells b505 0 (vl 16 (po))) := below_store hw517 (by omega) _ 0
                  have hz522 : H16 (w516.setCells b505 0 (vl 16 (po))) b505 (po) := H16.store hz519 _
                  have hz523 : H16 (w516.setCells b505 0 (vl 16 (po))) b473 _ := H16.storeOther hz518 (by omega) _
                  refine hK.out _ _ ?_ (fun hHeld => ?_)
                  · exact ⟨range_kept (hw521) (row16_range X3.out), hw521⟩
                  clear hK K
                  try simp only [Act.put, y1, y2, y3, y4, y5, y6]
                  generalize w516.setCells b505 0 (vl 16 (po)) = w520 at *
                  refine wpAnyH_done (by kernel_rfl) ?_ _
                  refine NoPanic.normal ?_
                  go_wp2_with fail
                  go_meet
                  refine ⟨_, _, rfl, rfl, Lib.hid hz523, Lib.hid hz522, Lib.hid hw521⟩
              · try simp only [y1, y2, y3]
                go_simp
                have hw525 : Below u9.heap.size u9 (w470.alloc zO) := hw471.alloc hw471.size _
                have hz526 : H16 (w470.alloc zO) w470.heap.size fun _ => 0 := new_h w470
                have hl528 : u9.heap.size ≤ w470.heap.size := hw471.size
                have hr529 := Rd.go hr475 ((Below.refl _ _).alloc (Nat.le_refl _) zO)
                have hz530 := H16.alloc zO hz472
                have hne531 : b473 < w470.heap.size := hz472.lt
                refine hK.out _ _ ?_ (fun hHeld => ?_)
                · exact ⟨range_kept (hw525) (row16_range X3.out), hw525⟩
                clear hK K
                try simp only [Act.put, y1, y2, y3, y4, y5, y6]
                generalize w470.alloc zO = w524 at *
                generalize w470.heap.size = b527 at *
                refine wpAnyH_ready (rs := [2]) (by kernel_rfl) (by simp) ?_
                refine AllReadyH.cons rfl (fun K hK => ?_) (AllReadyH.nil)
                try simp only [y1, y2, y3]
                go_simp
                refine (Cpz.out _ (R8.out.go hw525)).mono ?_
                rintro e w532 ⟨rfl, hb533⟩
                rw [aN_vl 16 (pz)]
                have hw534 : Below u9.heap.size u9 w532 := hw525.trans (hb533.mono hw525.size)
                have hz535 := H16.call hb533 hz530
                have hz536 := H16.call hb533 hz526
                have hr537 := Rd.go hr529 hb533
                refine hK.out _ _ ?_ (fun hHeld => ?_)
                · exact ⟨range_kept (hw534) (row16_range X3.out), hw534⟩
                clear hK K
                try simp only [Act.put, y1, y2, y3, y4, y5, y6]
                clear hb533
                refine wpAnyH_ready (rs := [6]) (by kernel_rfl) (by simp) ?_
                refine AllReadyH.cons rfl (fun K hK => ?_) (AllReadyH.nil)
                try simp only [y1, y2, y3]
                go_simp
                refine (Cpo.out _ _ hr537).mono ?_
                rintro e w538 ⟨rfl, hb539⟩
                rw [aN_vl 16 (po)]
                have hw540 : Below u9.heap.size u9 w538 := hw534.trans (hb539.mono hw534.size)
                have hz541 := H16.call hb539 hz535
                have hz542 := H16.call hb539 hz536
                have hr543 := Rd.go hr537 hb539
                refine hK.out _ _ ?_ (fun hHeld => ?_)
                · exact ⟨range_kept (hw540) (row16_range X3.out), hw540⟩
                clear hK K
                try simp only [Act.put, y1, y2, y3, y4, y5, y6]
                clear hb539
                refine wpAnyH_ready (rs := [9]) (by kernel_rfl) (by simp) ?_
                refine AllReadyH.cons rfl (fun K hK => ?_) (AllReadyH.nil)
                try simp only [y1, y2, y3]
                rw [if_pos (by rfl)]
                refine wp_store_mid 22 (.tmp 12) (.tmp 48) rfl (b473) (0) (vl 16 (pz)).toArray rfl rfl (H16.there hz541) (vsz _) (von _) ?_
                simp only [Act.put, y1, y2, y3, y4, y5, y6, List.toList_toArray]
                have hw545 : Below u9.heap.size u9 (w538.setCells b473 0 (vl 16 (pz))) := below_store hw540 (by omega) _ 0
                have hz546 : H16 (w538.setCells b473 0 (vl 16 (pz))) b473 (pz) := H16.store hz541 _
                have hz547 : H16 (w538.setCells b473 0 (vl 16 (pz))) b527 _ := H16.storeOther hz542 (by omega) _
                refine hK.out _ _ ?_ (fun hHeld => ?_)
                · exact ⟨range_kept (hw545) (row16_range X3.out), hw545⟩
                clear hK K
                try simp only [Act.put, y1, y2, y3, y4, y5, y6]
                generalize w538.setCells b473 0 (vl 16 (pz)) = w544 at *
                refine wpAnyH_ready (rs := [10]) (by kernel_rfl) (by simp) ?_
                refine AllReadyH.cons rfl (fun K hK => ?_) (AllReadyH.nil)
                try simp only [y1, y2, y3]
                rw [if_pos (by rfl)]
                refine wp_store_mid 22 (.tmp 13) (.tmp 52) rfl (b527) (0) (vl 16 (po)).toArray rfl rfl (H16.there hz547) (vsz _) (von _) ?_
                simp only [Act.put, y1, y2, y3, y4, y5, y6, List.toList_toArray]
                have hw549 : Below u9.heap.size u9 (w544.setCells b527 0 (vl 16 (po))) := below_store hw545 (by omega) _ 0
                have hz550 : H16 (w544.setCells b527 0 (vl 16 (po))) b527 (po) := H16.store hz547 _
                have hz551 : H16 (w544.setCells b527 0 (vl 16 (po))) b473 _ := H16.storeOther hz546 (by omega) _
                refine hK.out _ _ ?_ (fun hHeld => ?_)
                · exact ⟨range_kept (hw549) (row16_range X3.out), hw549⟩
                clear hK K
                try simp only [Act.put, y1, y2, y3, y4, y5, y6]
                generalize w544.setCells b527 0 (vl 16 (po)) = w548 at *
                refine wpAnyH_done (by kernel_rfl) ?_ _
                refine NoPanic.normal ?_
                go_wp2_with fail
                go_meet
                refine ⟨_, _, rfl, rfl, Lib.hid hz551, Lib.hid hz550, Lib.hid hw549⟩
            · try simp only [y1, y2, y3]
              go_simp
              have hw553 : Below u9.heap.size u9 (w316.alloc zO) := hw317.alloc hw317.size _
              have hz554 : H16 (w316.alloc zO) w316.heap.size fun _ => 0 := new_h w316
              have hl556 : u9.heap.size ≤ w316.heap.size := hw317.size
              have hr557 := Rd.go hr318 ((Below.refl _ _).alloc (Nat.le_refl _) zO)
              refine hK.out _ _ ?_ (fun hHeld => ?_)
              · exact ⟨range_kept (hw553) (row16_range X3.out), hw553⟩
              clear hK K
              try simp only [Act.put, y1, y2, y3, y4, y5, y6]
              generalize w316.alloc zO = w552 at *
              generalize w316.heap.size = b555 at *
              refine wpAnyH_ready (rs := [2, 7]) (by kernel_rfl) (by simp) ?_
              refine AllReadyH.cons rfl (fun K hK => ?_) (AllReadyH.cons rfl (fun K hK => ?_) (AllReadyH.nil))
              · try simp only [y1, y2, y3]
                go_simp
                refine (Cpz.out _ (R8.out.go hw553)).mono ?_
                rintro e w558 ⟨rfl, hb559⟩
                rw [aN_vl 16 (pz)]
                have hw560 : Below u9.heap.size u9 w558 := hw553.trans (hb559.mono hw553.size)
                have hz561 := H16.call hb559 hz554
                have hr562 := Rd.go hr557 hb559
                refine hK.out _ _ ?_ (fun hHeld => ?_)
                · exact ⟨range_kept (hw560) (row16_range X3.out), hw560⟩
                clear hK K
                try simp only [Act.put, y1, y2, y3, y4, y5, y6]
                clear hb559
                refine wpAnyH_ready (rs := [6, 7]) (by kernel_rfl) (by simp) ?_
                refine AllReadyH.cons rfl (fun K hK => ?_) (AllReadyH.cons rfl (fun K hK => ?_) (AllReadyH.nil))
                · try simp only [y1, y2, y3]
                  go_simp
                  refine (Cpo.out _ _ hr562).mono ?_
                  rintro e w563 ⟨rfl, hb564⟩
                  rw [aN_vl 16 (po)]
                  have hw565 : Below u9.heap.size u9 w563 := hw560.trans (hb564.mono hw560.size)
                  have hz566 := H16.call hb564 hz561
                  have hr567 := Rd.go hr562 hb564
                  refine hK.out _ _ ?_ (fun hHeld => ?_)
                  · exact ⟨range_kept (hw565) (row16_range X3.out), hw565⟩
                  clear hK K
                  try simp only [Act.put, y1, y2, y3, y4, y5, y6]
                  clear hb564
                  refine wpAnyH_ready (rs := [7]) (by kernel_rfl) (by simp) ?_
                  refine AllReadyH.cons rfl (fun K hK => ?_) (AllReadyH.nil)
                  try simp only [y1, y2, y3]
                  go_simp
                  have hw569 : Below u9.heap.size u9 (w563.alloc zO) := hw565.alloc hw565.size _
                  have hz570 : H16 (w563.alloc zO) w563.heap.size fun _ => 0 := new_h w563
                  have hl572 : u9.heap.size ≤ w563.heap.size := hw565.size
                  have hr573 := Rd.go hr567 ((Below.refl _ _).alloc (Nat.le_refl _) zO)
                  have hz574 := H16.alloc zO hz566
                  have hne575 : b555 < w563.heap.size := hz566.lt
                  refine hK.out _ _ ?_ (fun hHeld => ?_)
                  · exact ⟨range_kept (hw569) (row16_range X3.out), hw569⟩
                  clear hK K
                  try simp only [Act.put, y1, y2, y3, y4, y5, y6]
                  generalize w563.alloc zO = w568 at *
                  generalize w563.heap.size = b571 at *
                  refine wpAnyH_ready (rs := [9]) (by kernel_rfl) (by simp) ?_
                  refine AllReadyH.cons rfl (fun K hK => ?_) (AllReadyH.nil)
                  try simp only [y1, y2, y3]
                  rw [if_pos (by rfl)]
                  refine wp_store_mid 22 (.tmp 12) (.tmp 48) rfl (b571) (0) (vl 16 (pz)).toArray rfl rfl (H16.there hz570) (vsz _) (von _) ?_
                  simp only [Act.put, y1, y2, y3, y4, y5, y6, List.toList_toArray]
                  have hw577 : Below u9.heap.size u9 (w568.setCells b571 0 (vl 16 (pz))) := below_store hw569 (by omega) _ 0
                  have hz578 : H16 (w568.setCells b571 0 (vl 16 (pz))) b571 (pz) := H16.store hz570 _
                  have hz579 : H16 (w568.setCells b571 0 (vl 16 (pz))) b555 _ := H16.storeOther hz574 (by omega) _
                  refine hK.out _ _ ?_ (fun hHeld => ?_)
                  · exact ⟨range_kept (hw577) (row16_range X3.out), hw577⟩
                  clear hK K
                  try simp only [Act.put, y1, y2, y3, y4, y5, y6]
                  generalize w568.setCells b571 0 (vl 16 (pz)) = w576 at *
                  refine wpAnyH_ready (rs := [10]) (by kernel_rfl) (by simp) ?_
                  refine AllReadyH.cons rfl (fun K hK => ?_) (AllReadyH.nil)
                  try simp only [y1, y2, y3]
                  rw [if_pos (by rfl)]
                  refine wp_store_mid 22 (.tmp 13) (.tmp 52) rfl (b555) (0) (vl 16 (po)).toArray rfl rfl (H16.there hz579) (vsz _) (von _) ?_
                  simp only [Act.put, y1, y2, y3, y4, y5, y6, List.toList_toArray]
                  have hw581 : Below u9.heap.size u9 (w576.setCells b555 0 (vl 16 (po))) := below_store hw577 (by omega) _ 0
                  have hz582 : H16 (w576.setCells b555 0 (vl 16 (po))) b555 (po) := H16.store hz579 _
                  have hz583 : H16 (w576.setCells b555 0 (vl 16 (po))) b571 _ := H16.storeOther hz578 (by omega) _
                  refine hK.out _ _ ?_ (fun hHeld => ?_)
                  · exact ⟨range_kept (hw581) (row16_range X3.out), hw581⟩
                  clear hK K
                  try simp only [Act.put, y1, y2, y3, y4, y5, y6]
                  generalize w576.setCells b555 0 (vl 16 (po)) = w580 at *
                  refine wpAnyH_done (by kernel_rfl) ?_ _
                  refine NoPanic.normal ?_
                  go_wp2_with fail
                  go_meet
                  refine ⟨_, _, rfl, rfl, Lib.hid hz583, Lib.hid hz582, Lib.hid hw581⟩
                · try simp only [y1, y2, y3]
                  go_simp
                  have hw585 : Below u9.heap.size u9 (w558.alloc zO) := hw560.alloc hw560.size _
                  have hz586 : H16 (w558.alloc zO) w558.heap.size fun _ => 0 := new_h w558
                  have hl588 : u9.heap.size ≤ w558.heap.size := hw560.size
                  have hr589 := Rd.go hr562 ((Below.refl _ _).alloc (Nat.le_refl _) zO)
                  have hz590 := H16.alloc zO hz561
                  have hne591 : b555 < w558.heap.size := hz561.lt
                  refine hK.out _ _ ?_ (fun hHeld => ?_)
                  · exact ⟨range_kept (hw585) (row16_range X3.out), hw585⟩
                  clear hK K
                  try simp only [Act.put, y1, y2, y3, y4, y5, y6]
                  generalize w558.alloc zO = w584 at *
                  generalize w558.heap.size = b587 at *
                  refine wpAnyH_ready (rs := [6]) (by kernel_rfl) (by simp) ?_
                  refine AllReadyH.cons rfl (fun K hK => ?_) (AllReadyH.nil)
                  try simp only [y1, y2, y3]
                  go_simp
                  refine (Cpo.out _ _ hr589).mono ?_
                  rintro e w592 ⟨rfl, hb593⟩
                  rw [aN_vl 16 (po)]
                  have hw594 : Below u9.heap.size u9 w592 := hw585.trans (hb593.mono hw585.size)
                  have hz595 := H16.call hb593 hz590
                  have hz596 := H16.call hb593 hz586
                  have hr597 := Rd.go hr589 hb593
                  refine hK.out _ _ ?_ (fun hHeld => ?_)
                  · exact ⟨range_kept (hw594) (row16_range X3.out), hw594⟩
                  clear hK K
                  try simp only [Act.put, y1, y2, y3, y4, y5, y6]
                  clear hb593
                  refine wpAnyH_ready (rs := [9]) (by kernel_rfl) (by simp) ?_
                  refine AllReadyH.cons rfl (fun K hK => ?_) (AllReadyH.nil)
                  try simp only [y1, y2, y3]
                  rw [if_pos (by rfl)]
                  refine wp_store_mid 22 (.tmp 12) (.tmp 48) rfl (b587) (0) (vl 16 (pz)).toArray rfl rfl (H16.there hz596) (vsz _) (von _) ?_
                  simp only [Act.put, y1, y2, y3, y4, y5, y6, List.toList_toArray]
                  have hw599 : Below u9.heap.size u9 (w592.setCells b587 0 (vl 16 (pz))) := below_store hw594 (by omega) _ 0
                  have hz600 : H16 (w592.setCells b587 0 (vl 16 (pz))) b587 (pz) := H16.store hz596 _
                  have hz601 : H16 (w592.setCells b587 0 (vl 16 (pz))) b555 _ := H16.storeOther hz595 (by omega) _
                  refine hK.out _ _ ?_ (fun hHeld => ?_)
                  · exact ⟨range_kept (hw599) (row16_range X3.out), hw599⟩
                  clear hK K
                  try simp only [Act.put, y1, y2, y3, y4, y5, y6]
                  generalize w592.setCells b587 0 (vl 16 (pz)) = w598 at *
                  refine wpAnyH_ready (rs := [10]) (by kernel_rfl) (by simp) ?_
                  refine AllReadyH.cons rfl (fun K hK => ?_) (AllReadyH.nil)
                  try simp only [y1, y2, y3]
                  rw [if_pos (by rfl)]
                  refine wp_store_mid 22 (.tmp 13) (.tmp 52) rfl (b555) (0) (vl 16 (po)).toArray rfl rfl (H16.there hz601) (vsz _) (von _) ?_
                  simp only [Act.put, y1, y2, y3, y4, y5, y6, List.toList_toArray]
                  have hw603 : Below u9.heap.size u9 (w598.setCells b555 0 (vl 16 (po))) := below_store hw599 (by omega) _ 0
                  have hz604 : H16 (w598.setCells b555 0 (vl 16 (po))) b555 (po) := H16.store hz601 _
                  have hz605 : H16 (w598.setCells b555 0 (vl 16 (po))) b587 _ := H16.storeOther hz600 (by omega) _
                  refine hK.out _ _ ?_ (fun hHeld => ?_)
                  · exact ⟨range_kept (hw603) (row16_range X3.out), hw603⟩
                  clear hK K
                  try simp only [Act.put, y1, y2, y3, y4, y5, y6]
                  generalize w598.setCells b555 0 (vl 16 (po)) = w602 at *
                  refine wpAnyH_done (by kernel_rfl) ?_ _
                  refine NoPanic.normal ?_
                  go_wp2_with fail
                  go_meet
                  refine ⟨_, _, rfl, rfl, Lib.hid hz605, Lib.hid hz604, Lib.hid hw603⟩
              · try simp only [y1, y2, y3]
                go_simp
                have hw607 : Below u9.heap.size u9 (w552.alloc zO) := hw553.alloc hw553.size _
                have hz608 : H16 (w552.alloc zO) w552.heap.size fun _ => 0 := new_h w552
                have hl610 : u9.heap.size ≤ w552.heap.size := hw553.size
                have hr611 := Rd.go hr557 ((Below.refl _ _).alloc (Nat.le_refl _) zO)
                have hz612 := H16.alloc zO hz554
                have hne613 : b555 < w552.heap.size := hz554.lt
                refine hK.out _ _ ?_ (fun hHeld => ?_)
                · exact ⟨range_kept (hw607) (row16_range X3.out), hw607⟩
                clear hK K
                try simp only [Act.put, y1, y2, y3, y4, y5, y6]
                generalize w552.alloc zO = w606 at *
                generalize w552.heap.size = b609 at *
                refine wpAnyH_ready (rs := [2]) (by kernel_rfl) (by simp) ?_
                refine AllReadyH.cons rfl (fun K hK => ?_) (AllReadyH.nil)
                try simp only [y1, y2, y3]
                go_simp
                refine (Cpz.out _ (R8.out.go hw607)).mono ?_
                rintro e w614 ⟨rfl, hb615⟩
                rw [aN_vl 16 (pz)]
                have hw616 : Below u9.heap.size u9 w614 := hw607.trans (hb615.mono hw607.size)
                have hz617 := H16.call hb615 hz612
                have hz618 := H16.call hb615 hz608
                have hr619 := Rd.go hr611 hb615
                refine hK.out _ _ ?_ (fun hHeld => ?_)
                · exact ⟨range_kept (hw616) (row16_range X3.out), hw616⟩
                clear hK K
                try simp only [Act.put, y1, y2, y3, y4, y5, y6]
                clear hb615
                refine wpAnyH_ready (rs := [6]) (by kernel_rfl) (by simp) ?_
                refine AllReadyH.cons rfl (fun K hK => ?_) (AllReadyH.nil)
                try simp only [y1, y2, y3]
                go_simp
                refine (Cpo.out _ _ hr619).mono ?_
                rintro e w620 ⟨rfl, hb621⟩
                rw [aN_vl 16 (po)]
                have hw622 : Below u9.heap.size u9 w620 := hw616.trans (hb621.mono hw616.size)
                have hz623 := H16.call hb621 hz617
                have hz624 := H16.call hb621 hz618
                have hr625 := Rd.go hr619 hb621
                refine hK.out _ _ ?_ (fun hHeld => ?_)
                · exact ⟨range_kept (hw622) (row16_range X3.out), hw622⟩
                clear hK K
                try simp only [Act.put, y1, y2, y3, y4, y5, y6]
                clear hb621
                refine wpAnyH_ready (rs := [9]) (by kernel_rfl) (by simp) ?_
                refine AllReadyH.cons rfl (fun K hK => ?_) (AllReadyH.nil)
                try simp only [y1, y2, y3]
                rw [if_pos (by rfl)]
                refine wp_store_mid 22 (.tmp 12) (.tmp 48) rfl (b609) (0) (vl 16 (pz)).toArray rfl rfl (H16.there hz624) (vsz _) (von _) ?_
                simp only [Act.put, y1, y2, y3, y4, y5, y6, List.toList_toArray]
                have hw627 : Below u9.heap.size u9 (w620.setCells b609 0 (vl 16 (pz))) := below_store hw622 (by omega) _ 0
                have hz628 : H16 (w620.setCells b609 0 (vl 16 (pz))) b609 (pz) := H16.store hz624 _
                have hz629 : H16 (w620.setCells b609 0 (vl 16 (pz))) b555 _ := H16.storeOther hz623 (by omega) _
                refine hK.out _ _ ?_ (fun hHeld => ?_)
                · exact ⟨range_kept (hw627) (row16_range X3.out), hw627⟩
                clear hK K
                try simp only [Act.put, y1, y2, y3, y4, y5, y6]
                generalize w620.setCells b609 0 (vl 16 (pz)) = w626 at *
                refine wpAnyH_ready (rs := [10]) (by kernel_rfl) (by simp) ?_
                refine AllReadyH.cons rfl (fun K hK => ?_) (AllReadyH.nil)
                try simp only [y1, y2, y3]
                rw [if_pos (by rfl)]
                refine wp_store_mid 22 (.tmp 13) (.tmp 52) rfl (b555) (0) (vl 16 (po)).toArray rfl rfl (H16.there hz629) (vsz _) (von _) ?_
                simp only [Act.put, y1, y2, y3, y4, y5, y6, List.toList_toArray]
                have hw631 : Below u9.heap.size u9 (w626.setCells b555 0 (vl 16 (po))) := below_store hw627 (by omega) _ 0
                have hz632 : H16 (w626.setCells b555 0 (vl 16 (po))) b555 (po) := H16.store hz629 _
                have hz633 : H16 (w626.setCells b555 0 (vl 16 (po))) b609 _ := H16.storeOther hz628 (by omega) _
                refine hK.out _ _ ?_ (fun hHeld => ?_)
                · exact ⟨range_kept (hw631) (row16_range X3.out), hw631⟩
                clear hK K
                try simp only [Act.put, y1, y2, y3, y4, y5, y6]
                generalize w626.setCells b555 0 (vl 16 (po)) = w630 at *
                refine wpAnyH_done (by kernel_rfl) ?_ _
                refine NoPanic.normal ?_
                go_wp2_with fail
                go_meet
                refine ⟨_, _, rfl, rfl, Lib.hid hz633, Lib.hid hz632, Lib.hid hw631⟩
          · try simp only [y1, y2, y3]
            go_simp
            have hw635 : Below u9.heap.size u9 (ws1.alloc zO) := hs2.alloc hs2.size _
            have hz636 : H16 (ws1.alloc zO) ws1.heap.size fun _ => 0 := new_h ws1
            have hl638 : u9.heap.size ≤ ws1.heap.size := hs2.size
            refine hK.out _ _ ?_ (fun hHeld => ?_)
            · exact ⟨range_kept (hw635) (row16_range X3.out), hw635⟩
            clear hK K
            try simp only [Act.put, y1, y2, y3, y4, y5, y6]
            generalize ws1.alloc zO = w634 at *
            generalize ws1.heap.size = b637 at *
            refine wpAnyH_ready (rs := [2, 5, 8]) (by kernel_rfl) (by simp) ?_
            refine AllReadyH.cons rfl (fun K hK => ?_) (AllReadyH.cons rfl (fun K hK => ?_) (AllReadyH.cons rfl (fun K hK => ?_) (AllReadyH.nil)))
            · try simp only [y1, y2, y3]
              go_simp
              refine (Cpz.out _ (R8.out.go hw635)).mono ?_
              rintro e w639 ⟨rfl, hb640⟩
              rw [aN_vl 16 (pz)]
              have hw641 : Below u9.heap.size u9 w639 := hw635.trans (hb640.mono hw635.size)
              have hz642 := H16.call hb640 hz636
              refine hK.out _ _ ?_ (fun hHeld => ?_)
              · exact ⟨range_kept (hw641) (row16_range X3.out), hw641⟩
              clear hK K
              try simp only [Act.put, y1, y2, y3, y4, y5, y6]
              clear hb640
              refine wpAnyH_ready (rs := [5, 8]) (by kernel_rfl) (by simp) ?_
              refine AllReadyH.cons rfl (fun K hK => ?_) (AllReadyH.cons rfl (fun K hK => ?_) (AllReadyH.nil))
              · try simp only [y1, y2, y3]
                go_simp
                have hw644 : Below u9.heap.size u9 (w639.alloc (.cells (zrow k) 5)) := hw641.alloc hw641.size _
                have hr645 : Rd (w639.alloc (.cells (zrow k) 5)) (w639.alloc (.cells (zrow k) 5)).heap.size (some ⟨w639.heap.size, 0, none⟩) (vn (List.replicate k 0)) := zrow_rd k w639
                have hz647 := H16.alloc (.cells (zrow k) 5) hz642
                refine hK.out _ _ ?_ (fun hHeld => ?_)
                · exact ⟨range_kept (hw644) (row16_range X3.out), hw644⟩
                clear hK K
                try simp only [Act.put, y1, y2, y3, y4, y5, y6]
                generalize w639.alloc (.cells (zrow k) 5) = w643 at *
                generalize w639.heap.size = b646 at *
                refine wpAnyH_ready (rs := [6, 8]) (by kernel_rfl) (by simp) ?_
                refine AllReadyH.cons rfl (fun K hK => ?_) (AllReadyH.cons rfl (fun K hK => ?_) (AllReadyH.nil))
                · try simp only [y1, y2, y3]
                  go_simp
                  refine (Cpo.out _ _ hr645).mono ?_
                  rintro e w648 ⟨rfl, hb649⟩
                  rw [aN_vl 16 (po)]
                  have hw650 : Below u9.heap.size u9 w648 := hw644.trans (hb649.mono hw644.size)
                  have hz651 := H16.call hb649 hz647
                  have hr652 := Rd.go hr645 hb649
                  refine hK.out _ _ ?_ (fun hHeld => ?_)
                  · exact ⟨range_kept (hw650) (row16_range X3.out), hw650⟩
                  clear hK K
                  try simp only [Act.put, y1, y2, y3, y4, y5, y6]
                  clear hb649
                  refine wpAnyH_ready (rs := [8]) (by kernel_rfl) (by simp) ?_
                  refine AllReadyH.cons rfl (fun K hK => ?_) (AllReadyH.nil)
                  try simp only [y1, y2, y3]
                  go_simp
                  have hw654 : Below u9.heap.size u9 (w648.alloc zO) := hw650.alloc hw650.size _
                  have hz655 : H16 (w648.alloc zO) w648.heap.size fun _ => 0 := new_h w648
                  have hl657 : u9.heap.size ≤ w648.heap.size := hw650.size
                  have hr658 := Rd.go hr652 ((Below.refl _ _).alloc (Nat.le_refl _) zO)
                  have hz659 := H16.alloc zO hz651
                  have hne660 : b637 < w648.heap.size := hz651.lt
                  refine hK.out _ _ ?_ (fun hHeld => ?_)
                  · exact ⟨range_kept (hw654) (row16_range X3.out), hw654⟩
                  clear hK K
                  try simp only [Act.put, y1, y2, y3, y4, y5, y6]
                  generalize w648.alloc zO = w653 at *
                  generalize w648.heap.size = b656 at *
                  refine wpAnyH_ready (rs := [9]) (by kernel_rfl) (by simp) ?_
                  refine AllReadyH.cons rfl (fun K hK => ?_) (AllReadyH.nil)
                  try simp only [y1, y2, y3]
                  rw [if_pos (by rfl)]
                  refine wp_store_mid 22 (.tmp 12) (.tmp 48) rfl (b637) (0) (vl 16 (pz)).toArray rfl rfl (H16.there hz659) (vsz _) (von _) ?_
                  simp only [Act.put, y1, y2, y3, y4, y5, y6, List.toList_toArray]
                  have hw662 : Below u9.heap.size u9 (w653.setCells b637 0 (vl 16 (pz))) := below_store hw654 (by omega) _ 0
                  have hz663 : H16 (w653.setCells b637 0 (vl 16 (pz))) b637 (pz) := H16.store hz659 _
                  have hz664 : H16 (w653.setCells b637 0 (vl 16 (pz))) b656 _ := H16.storeOther hz655 (by omega) _
                  refine hK.out _ _ ?_ (fun hHeld => ?_)
                  · exact ⟨range_kept (hw662) (row16_range X3.out), hw662⟩
                  clear hK K
                  try simp only [Act.put, y1, y2, y3, y4, y5, y6]
                  generalize w653.setCells b637 0 (vl 16 (pz)) = w661 at *
                  refine wpAnyH_ready (rs := [10]) (by kernel_rfl) (by simp) ?_
                  refine AllReadyH.cons rfl (fun K hK => ?_) (AllReadyH.nil)
                  try simp only [y1, y2, y3]
                  rw [if_pos (by rfl)]
                  refine wp_store_mid 22 (.tmp 13) (.tmp 52) rfl (b656) (0) (vl 16 (po)).toArray rfl rfl (H16.there hz664) (vsz _) (von _) ?_
                  simp only [Act.put, y1, y2, y3, y4, y5, y6, List.toList_toArray]
                  have hw666 : Below u9.heap.size u9 (w661.setCells b656 0 (vl 16 (po))) := below_store hw662 (by omega) _ 0
                  have hz667 : H16 (w661.setCells b656 0 (vl 16 (po))) b656 (po) := H16.store hz664 _
                  have hz668 : H16 (w661.setCells b656 0 (vl 16 (po))) b637 _ := H16.storeOther hz663 (by omega) _
                  refine hK.out _ _ ?_ (fun hHeld => ?_)
                  · exact ⟨range_kept (hw666) (row16_range X3.out), hw666⟩
                  clear hK K
                  try simp only [Act.put, y1, y2, y3, y4, y5, y6]
                  generalize w661.setCells b656 0 (vl 16 (po)) = w665 at *
                  refine wpAnyH_done (by kernel_rfl) ?_ _
                  refine NoPanic.normal ?_
                  go_wp2_with fail
                  go_meet
                  refine ⟨_, _, rfl, rfl, Lib.hid hz668, Lib.hid hz667, Lib.hid hw666⟩
                · try simp only [y1, y2, y3]
                  go_simp
                  have hw670 : Below u9.heap.size u9 (w643.alloc zO) := hw644.alloc hw644.size _
                  have hz671 : H16 (w643.alloc zO) w643.heap.size fun _ => 0 := new_h w643
                  have hl673 : u9.heap.size ≤ w643.heap.size := hw644.size
                  have hr674 := Rd.go hr645 ((Below.refl _ _).alloc (Nat.le_refl _) zO)
                  have hz675 := H16.alloc zO hz647
                  have hne676 : b637 < w643.heap.size := hz647.lt
                  refine hK.out _ _ ?_ (fun hHeld => ?_)
                  · exact ⟨range_kept (hw670) (row16_range X3.out), hw670⟩
                  clear hK K
                  try simp only [Act.put, y1, y2, y3, y4, y5, y6]
                  generalize w643.alloc zO = w669 at *
                  generalize w643.heap.size = b672 at *
                  refine wpAnyH_ready (rs := [6]) (by kernel_rfl) (by simp) ?_
                  refine AllReadyH.cons rfl (fun K hK => ?_) (AllReadyH.nil)
                  try simp only [y1, y2, y3]
                  go_simp
                  refine (Cpo.out _ _ hr674).mono ?_
                  rintro e w677 ⟨rfl, hb678⟩
                  rw [aN_vl 16 (po)]
                  have hw679 : Below u9.heap.size u9 w677 := hw670.trans (hb678.mono hw670.size)
                  have hz680 := H16.call hb678 hz675
                  have hz681 := H16.call hb678 hz671
                  have hr682 := Rd.go hr674 hb678
                  refine hK.out _ _ ?_ (fun hHeld => ?_)
                  · exact ⟨range_kept (hw679) (row16_range X3.out), hw679⟩
                  clear hK K
                  try simp only [Act.put, y1, y2, y3, y4, y5, y6]
                  clear hb678
                  refine wpAnyH_ready (rs := [9]) (by kernel_rfl) (by simp) ?_
                  refine AllReadyH.cons rfl (fun K hK => ?_) (AllReadyH.nil)
                  try simp only [y1, y2, y3]
                  rw [if_pos (by rfl)]
                  refine wp_store_mid 22 (.tmp 12) (.tmp 48) rfl (b637) (0) (vl 16 (pz)).toArray rfl rfl (H16.there hz680) (vsz _) (von _) ?_
                  simp only [Act.put, y1, y2, y3, y4, y5, y6, List.toList_toArray]
                  have hw684 : Below u9.heap.size u9 (w677.setCells b637 0 (vl 16 (pz))) := below_store hw679 (by omega) _ 0
                  have hz685 : H16 (w677.setCells b637 0 (vl 16 (pz))) b637 (pz) := H16.store hz680 _
                  have hz686 : H16 (w677.setCells b637 0 (vl 16 (pz))) b672 _ := H16.storeOther hz681 (by omega) _
                  refine hK.out _ _ ?_ (fun hHeld => ?_)
                  · exact ⟨range_kept (hw684) (row16_range X3.out), hw684⟩
                  clear hK K
                  try simp only [Act.put, y1, y2, y3, y4, y5, y6]
                  generalize w677.setCells b637 0 (vl 16 (pz)) = w683 at *
                  refine wpAnyH_ready (rs := [10]) (by kernel_rfl) (by simp) ?_
                  refine AllReadyH.cons rfl (fun K hK => ?_) (AllReadyH.nil)
                  try simp only [y1, y2, y3]
                  rw [if_pos (by rfl)]
                  refine wp_store_mid 22 (.tmp 13) (.tmp 52) rfl (b672) (0) (vl 16 (po)).toArray rfl rfl (H16.there hz686) (vsz _) (von _) ?_
                  simp only [Act.put, y1, y2, y3, y4, y5, y6, List.toList_toArray]
                  have hw688 : Below u9.heap.size u9 (w683.setCells b672 0 (vl 16 (po))) := below_store hw684 (by omega) _ 0
                  have hz689 : H16 (w683.setCells b672 0 (vl 16 (po))) b672 (po) := H16.store hz686 _
                  have hz690 : H16 (w683.setCells b672 0 (vl 16 (po))) b637 _ := H16.storeOther hz685 (by omega) _
                  refine hK.out _ _ ?_ (fun hHeld => ?_)
                  · exact ⟨range_kept (hw688) (row16_range X3.out), hw688⟩
                  clear hK K
                  try simp only [Act.put, y1, y2, y3, y4, y5, y6]
                  generalize w683.setCells b672 0 (vl 16 (po)) = w687 at *
                  refine wpAnyH_done (by kernel_rfl) ?_ _
                  refine NoPanic.normal ?_
                  go_wp2_with fail
                  go_meet
                  refine ⟨_, _, rfl, rfl, Lib.hid hz690, Lib.hid hz689, Lib.hid hw688⟩
              · try simp only [y1, y2, y3]
                go_simp
                have hw692 : Below u9.heap.size u9 (w639.alloc zO) := hw641.alloc hw641.size _
                have hz693 : H16 (w639.alloc zO) w639.heap.size fun _ => 0 := new_h w639
                have hl695 : u9.heap.size ≤ w639.heap.size := hw641.size
                have hz696 := H16.alloc zO hz642
                have hne697 : b637 < w639.heap.size := hz642.lt
                refine hK.out _ _ ?_ (fun hHeld => ?_)
                · exact ⟨range_kept (hw692) (row16_range X3.out), hw692⟩
                clear hK K
                try simp only [Act.put, y1, y2, y3, y4, y5, y6]
                generalize w639.alloc zO = w691 at *
                generalize w639.heap.size = b694 at *
                refine wpAnyH_ready (rs := [5]) (by kernel_rfl) (by simp) ?_
                refine AllReadyH.cons rfl (fun K hK => ?_) (AllReadyH.nil)
                try simp only [y1, y2, y3]
                go_simp
                have hw699 : Below u9.heap.size u9 (w691.alloc (.cells (zrow k) 5)) := hw692.alloc hw692.size _
                have hr700 : Rd (w691.alloc (.cells (zrow k) 5)) (w691.alloc (.cells (zrow k) 5)).heap.size (some ⟨w691.heap.size, 0, none⟩) (vn (List.replicate k 0)) := zrow_rd k w691
                have hz702 := H16.alloc (.cells (zrow k) 5) hz696
                have hz703 := H16.alloc (.cells (zrow k) 5) hz693
                refine hK.out _ _ ?_ (fun hHeld => ?_)
                · exact ⟨range_kept (hw699) (row16_range X3.out), hw699⟩
                clear hK K
                try simp only [Act.put, y1, y2, y3, y4, y5, y6]
                generalize w691.alloc (.cells (zrow k) 5) = w698 at *
                generalize w691.heap.size = b701 at *
                refine wpAnyH_ready (rs := [6]) (by kernel_rfl) (by simp) ?_
                refine AllReadyH.cons rfl (fun K hK => ?_) (AllReadyH.nil)
                try simp only [y1, y2, y3]
                go_simp
                refine (Cpo.out _ _ hr700).mono ?_
                rintro e w704 ⟨rfl, hb705⟩
                rw [aN_vl 16 (po)]
                have hw706 : Below u9.heap.size u9 w704 := hw699.trans (hb705.mono hw699.size)
                have hz707 := H16.call hb705 hz702
                have hz708 := H16.call hb705 hz703
                have hr709 := Rd.go hr700 hb705
                refine hK.out _ _ ?_ (fun hHeld => ?_)
                · exact ⟨range_kept (hw706) (row16_range X3.out), hw706⟩
                clear hK K
                try simp only [Act.put, y1, y2, y3, y4, y5, y6]
                clear hb705
                refine wpAnyH_ready (rs := [9]) (by kernel_rfl) (by simp) ?_
                refine AllReadyH.cons rfl (fun K hK => ?_) (AllReadyH.nil)
                try simp only [y1, y2, y3]
                rw [if_pos (by rfl)]
                refine wp_store_mid 22 (.tmp 12) (.tmp 48) rfl (b637) (0) (vl 16 (pz)).toArray rfl rfl (H16.there hz707) (vsz _) (von _) ?_
                simp only [Act.put, y1, y2, y3, y4, y5, y6, List.toList_toArray]
                have hw711 : Below u9.heap.size u9 (w704.setCells b637 0 (vl 16 (pz))) := below_store hw706 (by omega) _ 0
                have hz712 : H16 (w704.setCells b637 0 (vl 16 (pz))) b637 (pz) := H16.store hz707 _
                have hz713 : H16 (w704.setCells b637 0 (vl 16 (pz))) b694 _ := H16.storeOther hz708 (by omega) _
                refine hK.out _ _ ?_ (fun hHeld => ?_)
                · exact ⟨range_kept (hw711) (row16_range X3.out), hw711⟩
                clear hK K
                try simp only [Act.put, y1, y2, y3, y4, y5, y6]
                generalize w704.setCells b637 0 (vl 16 (pz)) = w710 at *
                refine wpAnyH_ready (rs := [10]) (by kernel_rfl) (by simp) ?_
                refine AllReadyH.cons rfl (fun K hK => ?_) (AllReadyH.nil)
                try simp only [y1, y2, y3]
                rw [if_pos (by rfl)]
                refine wp_store_mid 22 (.tmp 13) (.tmp 52) rfl (b694) (0) (vl 16 (po)).toArray rfl rfl (H16.there hz713) (vsz _) (von _) ?_
                simp only [Act.put, y1, y2, y3, y4, y5, y6, List.toList_toArray]
                have hw715 : Below u9.heap.size u9 (w710.setCells b694 0 (vl 16 (po))) := below_store hw711 (by omega) _ 0
                have hz716 : H16 (w710.setCells b694 0 (vl 16 (po))) b694 (po) := H16.store hz713 _
                have hz717 : H16 (w710.setCells b694 0 (vl 16 (po))) b637 _ := H16.storeOther hz712 (by omega) _
                refine hK.out _ _ ?_ (fun hHeld => ?_)
                · exact ⟨range_kept (hw715) (row16_range X3.out), hw715⟩
                clear hK K
                try simp only [Act.put, y1, y2, y3, y4, y5, y6]
                generalize w710.setCells b694 0 (vl 16 (po)) = w714 at *
                refine wpAnyH_done (by kernel_rfl) ?_ _
                refine NoPanic.normal ?_
                go_wp2_with fail
                go_meet
                refine ⟨_, _, rfl, rfl, Lib.hid hz717, Lib.hid hz716, Lib.hid hw715⟩
            · try simp only [y1, y2, y3]
              go_simp
              have hw719 : Below u9.heap.size u9 (w634.alloc (.cells (zrow k) 5)) := hw635.alloc hw635.size _
              have hr720 : Rd (w634.alloc (.cells (zrow k) 5)) (w634.alloc (.cells (zrow k) 5)).heap.size (some ⟨w634.heap.size, 0, none⟩) (vn (List.replicate k 0)) := zrow_rd k w634
              have hz722 := H16.alloc (.cells (zrow k) 5) hz636
              refine hK.out _ _ ?_ (fun hHeld => ?_)
              · exact ⟨range_kept (hw719) (row16_range X3.out), hw719⟩
              clear hK K
              try simp only [Act.put, y1, y2, y3, y4, y5, y6]
              generalize w634.alloc (.cells (zrow k) 5) = w718 at *
              generalize w634.heap.size = b721 at *
              refine wpAnyH_ready (rs := [2, 8]) (by kernel_rfl) (by simp) ?_
              refine AllReadyH.cons rfl (fun K hK => ?_) (AllReadyH.cons rfl (fun K hK => ?_) (AllReadyH.nil))
              · try simp only [y1, y2, y3]
                go_simp
                refine (Cpz.out _ (R8.out.go hw719)).mono ?_
                rintro e w723 ⟨rfl, hb724⟩
                rw [aN_vl 16 (pz)]
                have hw725 : Below u9.heap.size u9 w723 := hw719.trans (hb724.mono hw719.size)
                have hz726 := H16.call hb724 hz722
                have hr727 := Rd.go hr720 hb724
                refine hK.out _ _ ?_ (fun hHeld => ?_)
                · exact ⟨range_kept (hw725) (row16_range X3.out), hw725⟩
                clear hK K
                try simp only [Act.put, y1, y2, y3, y4, y5, y6]
                clear hb724
                refine wpAnyH_ready (rs := [6, 8]) (by kernel_rfl) (by simp) ?_
                refine AllReadyH.cons rfl (fun K hK => ?_) (AllReadyH.cons rfl (fun K hK => ?_) (AllReadyH.nil))
                · try simp only [y1, y2, y3]
                  go_simp
                  refine (Cpo.out _ _ hr727).mono ?_
                  rintro e w728 ⟨rfl, hb729⟩
                  rw [aN_vl 16 (po)]
                  have hw730 : Below u9.heap.size u9 w728 := hw725.trans (hb729.mono hw725.size)
                  have hz731 := H16.call hb729 hz726
                  have hr732 := Rd.go hr727 hb729
                  refine hK.out _ _ ?_ (fun hHeld => ?_)
                  · exact ⟨range_kept (hw730) (row16_range X3.out), hw730⟩
                  clear hK K
                  try simp only [Act.put, y1, y2, y3, y4, y5, y6]
                  clear hb729
                  refine wpAnyH_ready (rs := [8]) (by kernel_rfl) (by simp) ?_
                  refine AllReadyH.cons rfl (fun K hK => ?_) (AllReadyH.nil)
                  try simp only [y1, y2, y3]
                  go_simp
                  have hw734 : Below u9.heap.size u9 (w728.alloc zO) := hw730.alloc hw730.size _
                  have hz735 : H16 (w728.alloc zO) w728.heap.size fun _ => 0 := new_h w728
                  have hl737 : u9.heap.size ≤ w728.heap.size := hw730.size
                  have hr738 := Rd.go hr732 ((Below.refl _ _).alloc (Nat.le_refl _) zO)
                  have hz739 := H16.alloc zO hz731
                  have hne740 : b637 < w728.heap.size := hz731.lt
                  refine hK.out _ _ ?_ (fun hHeld => ?_)
                  · exact ⟨range_kept (hw734) (row16_range X3.out), hw734⟩
                  clear hK K
                  try simp only [Act.put, y1, y2, y3, y4, y5, y6]
                  generalize w728.alloc zO = w733 at *
                  generalize w728.heap.size = b736 at *
                  refine wpAnyH_ready (rs := [9]) (by kernel_rfl) (by simp) ?_
                  refine AllReadyH.cons rfl (fun K hK => ?_) (AllReadyH.nil)
                  try simp only [y1, y2, y3]
                  rw [if_pos (by rfl)]
                  refine wp_store_mid 22 (.tmp 12) (.tmp 48) rfl (b637) (0) (vl 16 (pz)).toArray rfl rfl (H16.there hz739) (vsz _) (von _) ?_
                  simp only [Act.put, y1, y2, y3, y4, y5, y6, List.toList_toArray]
                  have hw742 : Below u9.heap.size u9 (w733.setCells b637 0 (vl 16 (pz))) := below_store hw734 (by omega) _ 0
                  have hz743 : H16 (w733.setCells b637 0 (vl 16 (pz))) b637 (pz) := H16.store hz739 _
                  have hz744 : H16 (w733.setCells b637 0 (vl 16 (pz))) b736 _ := H16.storeOther hz735 (by omega) _
                  refine hK.out _ _ ?_ (fun hHeld => ?_)
                  · exact ⟨range_kept (hw742) (row16_range X3.out), hw742⟩
                  clear hK K
                  try simp only [Act.put, y1, y2, y3, y4, y5, y6]
                  generalize w733.setCells b637 0 (vl 16 (pz)) = w741 at *
                  refine wpAnyH_ready (rs := [10]) (by kernel_rfl) (by simp) ?_
                  refine AllReadyH.cons rfl (fun K hK => ?_) (AllReadyH.nil)
                  try simp only [y1, y2, y3]
                  rw [if_pos (by rfl)]
                  refine wp_store_mid 22 (.tmp 13) (.tmp 52) rfl (b736) (0) (vl 16 (po)).toArray rfl rfl (H16.there hz744) (vsz _) (von _) ?_
                  simp only [Act.put, y1, y2, y3, y4, y5, y6, List.toList_toArray]
                  have hw746 : Below u9.heap.size u9 (w741.setCells b736 0 (vl 16 (po))) := below_store hw742 (by omega) _ 0
                  have hz747 : H16 (w741.setCells b736 0 (vl 16 (po))) b736 (po) := H16.store hz744 _
                  have hz748 : H16 (w741.setCells b736 0 (vl 16 (po))) b637 _ := H16.storeOther hz743 (by omega) _
                  refine hK.out _ _ ?_ (fun hHeld => ?_)
                  · exact ⟨range_kept (hw746) (row16_range X3.out), hw746⟩
                  clear hK K
                  try simp only [Act.put, y1, y2, y3, y4, y5, y6]
                  generalize w741.setCells b736 0 (vl 16 (po)) = w745 at *
                  refine wpAnyH_done (by kernel_rfl) ?_ _
                  refine NoPanic.normal ?_
                  go_wp2_with fail
                  go_meet
                  refine ⟨_, _, rfl, rfl, Lib.hid hz748, Lib.hid hz747, Lib.hid hw746⟩
                · try simp only [y1, y2, y3]
                  go_simp
                  have hw750 : Below u9.heap.size u9 (w723.alloc zO) := hw725.alloc hw725.size _
                  have hz751 : H16 (w723.alloc zO) w723.heap.size fun _ => 0 := new_h w723
                  have hl753 : u9.heap.size ≤ w723.heap.size := hw725.size
                  have hr754 := Rd.go hr727 ((Below.refl _ _).alloc (Nat.le_refl _) zO)
                  have hz755 := H16.alloc zO hz726
                  have hne756 : b637 < w723.heap.size := hz726.lt
                  refine hK.out _ _ ?_ (fun hHeld => ?_)
                  · exact ⟨range_kept (hw750) (row16_range X3.out), hw750⟩
                  clear hK K
                  try simp only [Act.put, y1, y2, y3, y4, y5, y6]
                  generalize w723.alloc zO = w749 at *
                  generalize w723.heap.size = b752 at *
                  refine wpAnyH_ready (rs := [6]) (by kernel_rfl) (by simp) ?_
                  refine AllReadyH.cons rfl (fun K hK => ?_) (AllReadyH.nil)
                  try simp only [y1, y2, y3]
                  go_simp
                  refine (Cpo.out _ _ hr754).mono ?_
                  rintro e w757 ⟨rfl, hb758⟩
                  rw [aN_vl 16 (po)]
                  have hw759 : Below u9.heap.size u9 w757 := hw750.trans (hb758.mono hw750.size)
                  have hz760 := H16.call hb758 hz755
                  have hz761 := H16.call hb758 hz751
                  have hr762 := Rd.go hr754 hb758
                  refine hK.out _ _ ?_ (fun hHeld => ?_)
                  · exact ⟨range_kept (hw759) (row16_range X3.out), hw759⟩
                  clear hK K
                  try simp only [Act.put, y1, y2, y3, y4, y5, y6]
                  clear hb758
                  refine wpAnyH_ready (rs := [9]) (by kernel_rfl) (by simp) ?_
                  refine AllReadyH.cons rfl (fun K hK => ?_) (AllReadyH.nil)
                  try simp only [y1, y2, y3]
                  rw [if_pos (by rfl)]
                  refine wp_store_mid 22 (.tmp 12) (.tmp 48) rfl (b637) (0) (vl 16 (pz)).toArray rfl rfl (H16.there hz760) (vsz _) (von _) ?_
                  simp only [Act.put, y1, y2, y3, y4, y5, y6, List.toList_toArray]
                  have hw764 : Below u9.heap.size u9 (w757.setCells b637 0 (vl 16 (pz))) := below_store hw759 (by omega) _ 0
                  have hz765 : H16 (w757.setCells b637 0 (vl 16 (pz))) b637 (pz) := H16.store hz760 _
                  have hz766 : H16 (w757.setCells b637 0 (vl 16 (pz))) b752 _ := H16.storeOther hz761 (by omega) _
                  refine hK.out _ _ ?_ (fun hHeld => ?_)
                  · exact ⟨range_kept (hw764) (row16_range X3.out), hw764⟩
                  clear hK K
                  try simp only [Act.put, y1, y2, y3, y4, y5, y6]
                  generalize w757.setCells b637 0 (vl 16 (pz)) = w763 at *
                  refine wpAnyH_ready (rs := [10]) (by kernel_rfl) (by simp) ?_
                  refine AllReadyH.cons rfl (fun K hK => ?_) (AllReadyH.nil)
                  try simp only [y1, y2, y3]
                  rw [if_pos (by rfl)]
                  refine wp_store_mid 22 (.tmp 13) (.tmp 52) rfl (b752) (0) (vl 16 (po)).toArray rfl rfl (H16.there hz766) (vsz _) (von _) ?_
                  simp only [Act.put, y1, y2, y3, y4, y5, y6, List.toList_toArray]
                  have hw768 : Below u9.heap.size u9 (w763.setCells b752 0 (vl 16 (po))) := below_store hw764 (by omega) _ 0
                  have hz769 : H16 (w763.setCells b752 0 (vl 16 (po))) b752 (po) := H16.store hz766 _
                  have hz770 : H16 (w763.setCells b752 0 (vl 16 (po))) b637 _ := H16.storeOther hz765 (by omega) _
                  refine hK.out _ _ ?_ (fun hHeld => ?_)
                  · exact ⟨range_kept (hw768) (row16_range X3.out), hw768⟩
                  clear hK K
                  try simp only [Act.put, y1, y2, y3, y4, y5, y6]
                  generalize w763.setCells b752 0 (vl 16 (po)) = w767 at *
                  refine wpAnyH_done (by kernel_rfl) ?_ _
                  refine NoPanic.normal ?_
                  go_wp2_with fail
                  go_meet
                  refine ⟨_, _, rfl, rfl, Lib.hid hz770, Lib.hid hz769, Lib.hid hw768⟩
              · try simp only [y1, y2, y3]
                go_simp
                have hw772 : Below u9.heap.size u9 (w718.alloc zO) := hw719.alloc hw719.size _
                have hz773 : H16 (w718.alloc zO) w718.heap.size fun _ => 0 := new_h w718
                have hl775 : u9.heap.size ≤ w718.heap.size := hw719.size
                have hr776 := Rd.go hr720 ((Below.refl _ _).alloc (Nat.le_refl _) zO)
                have hz777 := H16.alloc zO hz722
                have hne778 : b637 < w718.heap.size := hz722.lt
                refine hK.out _ _ ?_ (fun hHeld => ?_)
                · exact ⟨range_kept (hw772) (row16_range X3.out), hw772⟩
                clear hK K
                try simp only [Act.put, y1, y2, y3, y4, y5, y6]
                generalize w718.alloc zO = w771 at *
                generalize w718.heap.size = b774 at *
                refine wpAnyH_ready (rs := [2]) (by kernel_rfl) (by simp) ?_
                refine AllReadyH.cons rfl (fun K hK => ?_) (AllReadyH.nil)
                try simp only [y1, y2, y3]
                go_simp
                refine (Cpz.out _ (R8.out.go hw772)).mono ?_
                rintro e w779 ⟨rfl, hb780⟩
                rw [aN_vl 16 (pz)]
                have hw781 : Below u9.heap.size u9 w779 := hw772.trans (hb780.mono hw772.size)
                have hz782 := H16.call hb780 hz777
                have hz783 := H16.call hb780 hz773
                have hr784 := Rd.go hr776 hb780
                refine hK.out _ _ ?_ (fun hHeld => ?_)
                · exact ⟨range_kept (hw781) (row16_range X3.out), hw781⟩
                clear hK K
                try simp only [Act.put, y1, y2, y3, y4, y5, y6]
                clear hb780
                refine wpAnyH_ready (rs := [6]) (by kernel_rfl) (by simp) ?_
                refine AllReadyH.cons rfl (fun K hK => ?_) (AllReadyH.nil)
                try simp only [y1, y2, y3]
                go_simp
                refine (Cpo.out _ _ hr784).mono ?_
                rintro e w785 ⟨rfl, hb786⟩
                rw [aN_vl 16 (po)]
                have hw787 : Below u9.heap.size u9 w785 := hw781.trans (hb786.mono hw781.size)
                have hz788 := H16.call hb786 hz782
                have hz789 := H16.call hb786 hz783
                have hr790 := Rd.go hr784 hb786
                refine hK.out _ _ ?_ (fun hHeld => ?_)
                · exact ⟨range_kept (hw787) (row16_range X3.out), hw787⟩
                clear hK K
                try simp only [Act.put, y1, y2, y3, y4, y5, y6]
                clear hb786
                refine wpAnyH_ready (rs := [9]) (by kernel_rfl) (by simp) ?_
                refine AllReadyH.cons rfl (fun K hK => ?_) (AllReadyH.nil)
                try simp only [y1, y2, y3]
                rw [if_pos (by rfl)]
                refine wp_store_mid 22 (.tmp 12) (.tmp 48) rfl (b637) (0) (vl 16 (pz)).toArray rfl rfl (H16.there hz788) (vsz _) (von _) ?_
                simp only [Act.put, y1, y2, y3, y4, y5, y6, List.toList_toArray]
                have hw792 : Below u9.heap.size u9 (w785.setCells b637 0 (vl 16 (pz))) := below_store hw787 (by omega) _ 0
                have hz793 : H16 (w785.setCells b637 0 (vl 16 (pz))) b637 (pz) := H16.store hz788 _
                have hz794 : H16 (w785.setCells b637 0 (vl 16 (pz))) b774 _ := H16.storeOther hz789 (by omega) _
                refine hK.out _ _ ?_ (fun hHeld => ?_)
                · exact ⟨range_kept (hw792) (row16_range X3.out), hw792⟩
                clear hK K
                try simp only [Act.put, y1, y2, y3, y4, y5, y6]
                generalize w785.setCells b637 0 (vl 16 (pz)) = w791 at *
                refine wpAnyH_ready (rs := [10]) (by kernel_rfl) (by simp) ?_
                refine AllReadyH.cons rfl (fun K hK => ?_) (AllReadyH.nil)
                try simp only [y1, y2, y3]
                rw [if_pos (by rfl)]
                refine wp_store_mid 22 (.tmp 13) (.tmp 52) rfl (b774) (0) (vl 16 (po)).toArray rfl rfl (H16.there hz794) (vsz _) (von _) ?_
                simp only [Act.put, y1, y2, y3, y4, y5, y6, List.toList_toArray]
                have hw796 : Below u9.heap.size u9 (w791.setCells b774 0 (vl 16 (po))) := below_store hw792 (by omega) _ 0
                have hz797 : H16 (w791.setCells b774 0 (vl 16 (po))) b774 (po) := H16.store hz794 _
                have hz798 : H16 (w791.setCells b774 0 (vl 16 (po))) b637 _ := H16.storeOther hz793 (by omega) _
                refine hK.out _ _ ?_ (fun hHeld => ?_)
                · exact ⟨range_kept (hw796) (row16_range X3.out), hw796⟩
                clear hK K
                try simp only [Act.put, y1, y2, y3, y4, y5, y6]
                generalize w791.setCells b774 0 (vl 16 (po)) = w795 at *
                refine wpAnyH_done (by kernel_rfl) ?_ _
                refine NoPanic.normal ?_
                go_wp2_with fail
                go_meet
                refine ⟨_, _, rfl, rfl, Lib.hid hz798, Lib.hid hz797, Lib.hid hw796⟩
            · try simp only [y1, y2, y3]
              go_simp
              have hw800 : Below u9.heap.size u9 (w634.alloc zO) := hw635.alloc hw635.size _
              have hz801 : H16 (w634.alloc zO) w634.heap.size fun _ => 0 := new_h w634
              have hl803 : u9.heap.size ≤ w634.heap.size := hw635.size
              have hz804 := H16.alloc zO hz636
              have hne805 : b637 < w634.heap.size := hz636.lt
              refine hK.out _ _ ?_ (fun hHeld => ?_)
              · exact ⟨range_kept (hw800) (row16_range X3.out), hw800⟩
              clear hK K
              try simp only [Act.put, y1, y2, y3, y4, y5, y6]
              generalize w634.alloc zO = w799 at *
              generalize w634.heap.size = b802 at *
              refine wpAnyH_ready (rs := [2, 5]) (by kernel_rfl) (by simp) ?_
              refine AllReadyH.cons rfl (fun K hK => ?_) (AllReadyH.cons rfl (fun K hK => ?_) (AllReadyH.nil))
              · try simp only [y1, y2, y3]
                go_simp
                refine (Cpz.out _ (R8.out.go hw800)).mono ?_
                rintro e w806 ⟨rfl, hb807⟩
                rw [aN_vl 16 (pz)]
                have hw808 : Below u9.heap.size u9 w806 := hw800.trans (hb807.mono hw800.size)
                have hz809 := H16.call hb807 hz804
                have hz810 := H16.call hb807 hz801
                refine hK.out _ _ ?_ (fun hHeld => ?_)
                · exact ⟨range_kept (hw808) (row16_range X3.out), hw808⟩
                clear hK K
                try simp only [Act.put, y1, y2, y3, y4, y5, y6]
                clear hb807
                refine wpAnyH_ready (rs := [5]) (by kernel_rfl) (by simp) ?_
                refine AllReadyH.cons rfl (fun K hK => ?_) (AllReadyH.nil)
                try simp only [y1, y2, y3]
                go_simp
                have hw812 : Below u9.heap.size u9 (w806.alloc (.cells (zrow k) 5)) := hw808.alloc hw808.size _
                have hr813 : Rd (w806.alloc (.cells (zrow k) 5)) (w806.alloc (.cells (zrow k) 5)).heap.size (some ⟨w806.heap.size, 0, none⟩) (vn (List.replicate k 0)) := zrow_rd k w806
                have hz815 := H16.alloc (.cells (zrow k) 5) hz809
                have hz816 := H16.alloc (.cells (zrow k) 5) hz810
                refine hK.out _ _ ?_ (fun hHeld => ?_)
                · exact ⟨range_kept (hw812) (row16_range X3.out), hw812⟩
                clear hK K
                try simp only [Act.put, y1, y2, y3, y4, y5, y6]
                generalize w806.alloc (.cells (zrow k) 5) = w811 at *
                generalize w806.heap.size = b814 at *
                refine wpAnyH_ready (rs := [6]) (by kernel_rfl) (by simp) ?_
                refine AllReadyH.cons rfl (fun K hK => ?_) (AllReadyH.nil)
                try simp only [y1, y2, y3]
                go_simp
                refine (Cpo.out _ _ hr813).mono ?_
                rintro e w817 ⟨rfl, hb818⟩
                rw [aN_vl 16 (po)]
                have hw819 : Below u9.heap.size u9 w817 := hw812.trans (hb818.mono hw812.size)
                have hz820 := H16.call hb818 hz815
                have hz821 := H16.call hb818 hz816
                have hr822 := Rd.go hr813 hb818
                refine hK.out _ _ ?_ (fun hHeld => ?_)
                · exact ⟨range_kept (hw819) (row16_range X3.out), hw819⟩
                clear hK K
                try simp only [Act.put, y1, y2, y3, y4, y5, y6]
                clear hb818
                refine wpAnyH_ready (rs := [9]) (by kernel_rfl) (by simp) ?_
                refine AllReadyH.cons rfl (fun K hK => ?_) (AllReadyH.nil)
                try simp only [y1, y2, y3]
                rw [if_pos (by rfl)]
                refine wp_store_mid 22 (.tmp 12) (.tmp 48) rfl (b637) (0) (vl 16 (pz)).toArray rfl rfl (H16.there hz820) (vsz _) (von _) ?_
                simp only [Act.put, y1, y2, y3, y4, y5, y6, List.toList_toArray]
                have hw824 : Below u9.heap.size u9 (w817.setCells b637 0 (vl 16 (pz))) := below_store hw819 (by omega) _ 0
                have hz825 : H16 (w817.setCells b637 0 (vl 16 (pz))) b637 (pz) := H16.store hz820 _
                have hz826 : H16 (w817.setCells b637 0 (vl 16 (pz))) b802 _ := H16.storeOther hz821 (by omega) _
                refine hK.out _ _ ?_ (fun hHeld => ?_)
                · exact ⟨range_kept (hw824) (row16_range X3.out), hw824⟩
                clear hK K
                try simp only [Act.put, y1, y2, y3, y4, y5, y6]
                generalize w817.setCells b637 0 (vl 16 (pz)) = w823 at *
                refine wpAnyH_ready (rs := [10]) (by kernel_rfl) (by simp) ?_
                refine AllReadyH.cons rfl (fun K hK => ?_) (AllReadyH.nil)
                try simp only [y1, y2, y3]
                rw [if_pos (by rfl)]
                refine wp_store_mid 22 (.tmp 13) (.tmp 52) rfl (b802) (0) (vl 16 (po)).toArray rfl rfl (H16.there hz826) (vsz _) (von _) ?_
                simp only [Act.put, y1, y2, y3, y4, y5, y6, List.toList_toArray]
                have hw828 : Below u9.heap.size u9 (w823.setCells b802 0 (vl 16 (po))) := below_store hw824 (by omega) _ 0
                have hz829 : H16 (w823.setCells b802 0 (vl 16 (po))) b802 (po) := H16.store hz826 _
                have hz830 : H16 (w823.setCells b802 0 (vl 16 (po))) b637 _ := H16.storeOther hz825 (by omega) _
                refine hK.out _ _ ?_ (fun hHeld => ?_)
                · exact ⟨range_kept (hw828) (row16_range X3.out), hw828⟩
                clear hK K
                try simp only [Act.put, y1, y2, y3, y4, y5, y6]
                generalize w823.setCells b802 0 (vl 16 (po)) = w827 at *
                refine wpAnyH_done (by kernel_rfl) ?_ _
                refine NoPanic.normal ?_
                go_wp2_with fail
                go_meet
                refine ⟨_, _, rfl, rfl, Lib.hid hz830, Lib.hid hz829, Lib.hid hw828⟩
              · try simp only [y1, y2, y3]
                go_simp
                have hw832 : Below u9.heap.size u9 (w799.alloc (.cells (zrow k) 5)) := hw800.alloc hw800.size _
                have hr833 : Rd (w799.alloc (.cells (zrow k) 5)) (w799.alloc (.cells (zrow k) 5)).heap.size (some ⟨w799.heap.size, 0, none⟩) (vn (List.replicate k 0)) := zrow_rd k w799
                have hz835 := H16.alloc (.cells (zrow k) 5) hz804
                have hz836 := H16.alloc (.cells (zrow k) 5) hz801
                refine hK.out _ _ ?_ (fun hHeld => ?_)
                · exact ⟨range_kept (hw832) (row16_range X3.out), hw832⟩
                clear hK K
                try simp only [Act.put, y1, y2, y3, y4, y5, y6]
                generalize w799.alloc (.cells (zrow k) 5) = w831 at *
                generalize w799.heap.size = b834 at *
                refine wpAnyH_ready (rs := [2]) (by kernel_rfl) (by simp) ?_
                refine AllReadyH.cons rfl (fun K hK => ?_) (AllReadyH.nil)
                try simp only [y1, y2, y3]
                go_simp
                refine (Cpz.out _ (R8.out.go hw832)).mono ?_
                rintro e w837 ⟨rfl, hb838⟩
                rw [aN_vl 16 (pz)]
                have hw839 : Below u9.heap.size u9 w837 := hw832.trans (hb838.mono hw832.size)
                have hz840 := H16.call hb838 hz835
                have hz841 := H16.call hb838 hz836
                have hr842 := Rd.go hr833 hb838
                refine hK.out _ _ ?_ (fun hHeld => ?_)
                · exact ⟨range_kept (hw839) (row16_range X3.out), hw839⟩
                clear hK K
                try simp only [Act.put, y1, y2, y3, y4, y5, y6]
                clear hb838
                refine wpAnyH_ready (rs := [6]) (by kernel_rfl) (by simp) ?_
                refine AllReadyH.cons rfl (fun K hK => ?_) (AllReadyH.nil)
                try simp only [y1, y2, y3]
                go_simp
                refine (Cpo.out _ _ hr842).mono ?_
                rintro e w843 ⟨rfl, hb844⟩
                rw [aN_vl 16 (po)]
                have hw845 : Below u9.heap.size u9 w843 := hw839.trans (hb844.mono hw839.size)
                have hz846 := H16.call hb844 hz840
                have hz847 := H16.call hb844 hz841
                have hr848 := Rd.go hr842 hb844
                refine hK.out _ _ ?_ (fun hHeld => ?_)
                · exact ⟨range_kept (hw845) (row16_range X3.out), hw845⟩
                clear hK K
                try simp only [Act.put, y1, y2, y3, y4, y5, y6]
                clear hb844
                refine wpAnyH_ready (rs := [9]) (by kernel_rfl) (by simp) ?_
                refine AllReadyH.cons rfl (fun K hK => ?_) (AllReadyH.nil)
                try simp only [y1, y2, y3]
                rw [if_pos (by rfl)]
                refine wp_store_mid 22 (.tmp 12) (.tmp 48) rfl (b637) (0) (vl 16 (pz)).toArray rfl rfl (H16.there hz846) (vsz _) (von _) ?_
                simp only [Act.put, y1, y2, y3, y4, y5, y6, List.toList_toArray]
                have hw850 : Below u9.heap.size u9 (w843.setCells b637 0 (vl 16 (pz))) := below_store hw845 (by omega) _ 0
                have hz851 : H16 (w843.setCells b637 0 (vl 16 (pz))) b637 (pz) := H16.store hz846 _
                have hz852 : H16 (w843.setCells b637 0 (vl 16 (pz))) b802 _ := H16.storeOther hz847 (by omega) _
                refine hK.out _ _ ?_ (fun hHeld => ?_)
                · exact ⟨range_kept (hw850) (row16_range X3.out), hw850⟩
                clear hK K
                try simp only [Act.put, y1, y2, y3, y4, y5, y6]
                generalize w843.setCells b637 0 (vl 16 (pz)) = w849 at *
                refine wpAnyH_ready (rs := [10]) (by kernel_rfl) (by simp) ?_
                refine AllReadyH.cons rfl (fun K hK => ?_) (AllReadyH.nil)
                try simp only [y1, y2, y3]
                rw [if_pos (by rfl)]
                refine wp_store_mid 22 (.tmp 13) (.tmp 52) rfl (b802) (0) (vl 16 (po)).toArray rfl rfl (H16.there hz852) (vsz _) (von _) ?_
                simp only [Act.put, y1, y2, y3, y4, y5, y6, List.toList_toArray]
                have hw854 : Below u9.heap.size u9 (w849.setCells b802 0 (vl 16 (po))) := below_store hw850 (by omega) _ 0
                have hz855 : H16 (w849.setCells b802 0 (vl 16 (po))) b802 (po) := H16.store hz852 _
                have hz856 : H16 (w849.setCells b802 0 (vl 16 (po))) b637 _ := H16.storeOther hz851 (by omega) _
                refine hK.out _ _ ?_ (fun hHeld => ?_)
                · exact ⟨range_kept (hw854) (row16_range X3.out), hw854⟩
                clear hK K
                try simp only [Act.put, y1, y2, y3, y4, y5, y6]
                generalize w849.setCells b802 0 (vl 16 (po)) = w853 at *
                refine wpAnyH_done (by kernel_rfl) ?_ _
                refine NoPanic.normal ?_
                go_wp2_with fail
                go_meet
                refine ⟨_, _, rfl, rfl, Lib.hid hz856, Lib.hid hz855, Lib.hid hw854⟩
          · try simp only [y1, y2, y3]
            go_simp
            have hw858 : Below u9.heap.size u9 (ws1.alloc zO) := hs2.alloc hs2.size _
            have hz859 : H16 (ws1.alloc zO) ws1.heap.size fun _ => 0 := new_h ws1
            have hl861 : u9.heap.size ≤ ws1.heap.size := hs2.size
            refine hK.out _ _ ?_ (fun hHeld => ?_)
            · exact ⟨range_kept (hw858) (row16_range X3.out), hw858⟩
            clear hK K
            try simp only [Act.put, y1, y2, y3, y4, y5, y6]
            generalize ws1.alloc zO = w857 at *
            generalize ws1.heap.size = b860 at *
            refine wpAnyH_ready (rs := [2, 5, 7]) (by kernel_rfl) (by simp) ?_
            refine AllReadyH.cons rfl (fun K hK => ?_) (AllReadyH.cons rfl (fun K hK => ?_) (AllReadyH.cons rfl (fun K hK => ?_) (AllReadyH.nil)))
            · try simp only [y1, y2, y3]
              go_simp
              refine (Cpz.out _ (R8.out.go hw858)).mono ?_
              rintro e w862 ⟨rfl, hb863⟩
              rw [aN_vl 16 (pz)]
              have hw864 : Below u9.heap.size u9 w862 := hw858.trans (hb863.mono hw858.size)
              have hz865 := H16.call hb863 hz859
              refine hK.out _ _ ?_ (fun hHeld => ?_)
              · exact ⟨range_kept (hw864) (row16_range X3.out), hw864⟩
              clear hK K
              try simp only [Act.put, y1, y2, y3, y4, y5, y6]
              clear hb863
              refine wpAnyH_ready (rs := [5, 7]) (by kernel_rfl) (by simp) ?_
              refine AllReadyH.cons rfl (fun K hK => ?_) (AllReadyH.cons rfl (fun K hK => ?_) (AllReadyH.nil))
              · try simp only [y1, y2, y3]
                go_simp
                have hw867 : Below u9.heap.size u9 (w862.alloc (.cells (zrow k) 5)) := hw864.alloc hw864.size _
                have hr868 : Rd (w862.alloc (.cells (zrow k) 5)) (w862.alloc (.cells (zrow k) 5)).heap.size (some ⟨w862.heap.size, 0, none⟩) (vn (List.replicate k 0)) := zrow_rd k w862
                have hz870 := H16.alloc (.cells (zrow k) 5) hz865
                refine hK.out _ _ ?_ (fun hHeld => ?_)
                · exact ⟨range_kept (hw867) (row16_range X3.out), hw867⟩
                clear hK K
                try simp only [Act.put, y1, y2, y3, y4, y5, y6]
                generalize w862.alloc (.cells (zrow k) 5) = w866 at *
                generalize w862.heap.size = b869 at *
                refine wpAnyH_ready (rs := [6, 7]) (by kernel_rfl) (by simp) ?_
                refine AllReadyH.cons rfl (fun K hK => ?_) (AllReadyH.cons rfl (fun K hK => ?_) (AllReadyH.nil))
                · try simp only [y1, y2, y3]
                  go_simp
                  refine (Cpo.out _ _ hr868).mono ?_
                  rintro e w871 ⟨rfl, hb872⟩
                  rw [aN_vl 16 (po)]
                  have hw873 : Below u9.heap.size u9 w871 := hw867.trans (hb872.mono hw867.size)
                  have hz874 := H16.call hb872 hz870
                  have hr875 := Rd.go hr868 hb872
                  refine hK.out _ _ ?_ (fun hHeld => ?_)
                  · exact ⟨range_kept (hw873) (row16_range X3.out), hw873⟩
                  clear hK K
                  try simp only [Act.put, y1, y2, y3, y4, y5, y6]
                  clear hb872
                  refine wpAnyH_ready (rs := [7]) (by kernel_rfl) (by simp) ?_
                  refine AllReadyH.cons rfl (fun K hK => ?_) (AllReadyH.nil)
                  try simp only [y1, y2, y3]
                  go_simp
                  have hw877 : Below u9.heap.size u9 (w871.alloc zO) := hw873.alloc hw873.size _
                  have hz878 : H16 (w871.alloc zO) w871.heap.size fun _ => 0 := new_h w871
                  have hl880 : u9.heap.size ≤ w871.heap.size := hw873.size
                  have hr881 := Rd.go hr875 ((Below.refl _ _).alloc (Nat.le_refl _) zO)
                  have hz882 := H16.alloc zO hz874
                  have hne883 : b860 < w871.heap.size := hz874.lt
                  refine hK.out _ _ ?_ (fun hHeld => ?_)
                  · exact ⟨range_kept (hw877) (row16_range X3.out), hw877⟩
                  clear hK K
                  try simp only [Act.put, y1, y2, y3, y4, y5, y6]
                  generalize w871.alloc zO = w876 at *
                  generalize w871.heap.size = b879 at *
                  refine wpAnyH_ready (rs := [9]) (by kernel_rfl) (by simp) ?_
                  refine AllReadyH.cons rfl (fun K hK => ?_) (AllReadyH.nil)
                  try simp only [y1, y2, y3]
                  rw [if_pos (by rfl)]
                  refine wp_store_mid 22 (.tmp 12) (.tmp 48) rfl (b879) (0) (vl 16 (pz)).toArray rfl rfl (H16.there hz878) (vsz _) (von _) ?_
                  simp only [Act.put, y1, y2, y3, y4, y5, y6, List.toList_toArray]
                  have hw885 : Below u9.heap.size u9 (w876.setCells b879 0 (vl 16 (pz))) := below_store hw877 (by omega) _ 0
                  have hz886 : H16 (w876.setCells b879 0 (vl 16 (pz))) b879 (pz) := H16.store hz878 _
                  have hz887 : H16 (w876.setCells b879 0 (vl 16 (pz))) b860 _ := H16.storeOther hz882 (by omega) _
                  refine hK.out _ _ ?_ (fun hHeld => ?_)
                  · exact ⟨range_kept (hw885) (row16_range X3.out), hw885⟩
                  clear hK K
                  try simp only [Act.put, y1, y2, y3, y4, y5, y6]
                  generalize w876.setCells b879 0 (vl 16 (pz)) = w884 at *
                  refine wpAnyH_ready (rs := [10]) (by kernel_rfl) (by simp) ?_
                  refine AllReadyH.cons rfl (fun K hK => ?_) (AllReadyH.nil)
                  try simp only [y1, y2, y3]
                  rw [if_pos (by rfl)]
                  refine wp_store_mid 22 (.tmp 13) (.tmp 52) rfl (b860) (0) (vl 16 (po)).toArray rfl rfl (H16.there hz887) (vsz _) (von _) ?_
                  simp only [Act.put, y1, y2, y3, y4, y5, y6, List.toList_toArray]
                  have hw889 : Below u9.heap.size u9 (w884.setCells b860 0 (vl 16 (po))) := below_store hw885 (by omega) _ 0
                  have hz890 : H16 (w884.setCells b860 0 (vl 16 (po))) b860 (po) := H16.store hz887 _
                  have hz891 : H16 (w884.setCells b860 0 (vl 16 (po))) b879 _ := H16.storeOther hz886 (by omega) _
                  refine hK.out _ _ ?_ (fun hHeld => ?_)
                  · exact ⟨range_kept (hw889) (row16_range X3.out), hw889⟩
                  clear hK K
                  try simp only [Act.put, y1, y2, y3, y4, y5, y6]
                  generalize w884.setCells b860 0 (vl 16 (po)) = w888 at *
                  refine wpAnyH_done (by kernel_rfl) ?_ _
                  refine NoPanic.normal ?_
                  go_wp2_with fail
                  go_meet
                  refine ⟨_, _, rfl, rfl, Lib.hid hz891, Lib.hid hz890, Lib.hid hw889⟩
                · try simp only [y1, y2, y3]
                  go_simp
                  have hw893 : Below u9.heap.size u9 (w866.alloc zO) := hw867.alloc hw867.size _
                  have hz894 : H16 (w866.alloc zO) w866.heap.size fun _ => 0 := new_h w866
                  have hl896 : u9.heap.size ≤ w866.heap.size := hw867.size
                  have hr897 := Rd.go hr868 ((Below.refl _ _).alloc (Nat.le_refl _) zO)
                  have hz898 := H16.alloc zO hz870
                  have hne899 : b860 < w866.heap.size := hz870.lt
                  refine hK.out _ _ ?_ (fun hHeld => ?_)
                  · exact ⟨range_kept (hw893) (row16_range X3.out), hw893⟩
                  clear hK K
                  try simp only [Act.put, y1, y2, y3, y4, y5, y6]
                  generalize w866.alloc zO = w892 at *
                  generalize w866.heap.size = b895 at *
                  refine wpAnyH_ready (rs := [6]) (by kernel_rfl) (by simp) ?_
                  refine AllReadyH.cons rfl (fun K hK => ?_) (AllReadyH.nil)
                  try simp only [y1, y2, y3]
                  go_simp
                  refine (Cpo.out _ _ hr897).mono ?_
                  rintro e w900 ⟨rfl, hb901⟩
                  rw [aN_vl 16 (po)]
                  have hw902 : Below u9.heap.size u9 w900 := hw893.trans (hb901.mono hw893.size)
                  have hz903 := H16.call hb901 hz898
                  have hz904 := H16.call hb901 hz894
                  have hr905 := Rd.go hr897 hb901
                  refine hK.out _ _ ?_ (fun hHeld => ?_)
                  · exact ⟨range_kept (hw902) (row16_range X3.out), hw902⟩
                  clear hK K
                  try simp only [Act.put, y1, y2, y3, y4, y5, y6]
                  clear hb901
                  refine wpAnyH_ready (rs := [9]) (by kernel_rfl) (by simp) ?_
                  refine AllReadyH.cons rfl (fun K hK => ?_) (AllReadyH.nil)
                  try simp only [y1, y2, y3]
                  rw [if_pos (by rfl)]
                  refine wp_store_mid 22 (.tmp 12) (.tmp 48) rfl (b895) (0) (vl 16 (pz)).toArray rfl rfl (H16.there hz904) (vsz _) (von _) ?_
                  simp only [Act.put, y1, y2, y3, y4, y5, y6, List.toList_toArray]
                  have hw907 : Below u9.heap.size u9 (w900.setCells b895 0 (vl 16 (pz))) := below_store hw902 (by omega) _ 0
                  have hz908 : H16 (w900.setCells b895 0 (vl 16 (pz))) b895 (pz) := H16.store hz904 _
                  have hz909 : H16 (w900.setCells b895 0 (vl 16 (pz))) b860 _ := H16.storeOther hz903 (by omega) _
                  refine hK.out _ _ ?_ (fun hHeld => ?_)
                  · exact ⟨range_kept (hw907) (row16_range X3.out), hw907⟩
                  clear hK K
                  try simp only [Act.put, y1, y2, y3, y4, y5, y6]
                  generalize w900.setCells b895 0 (vl 16 (pz)) = w906 at *
                  refine wpAnyH_ready (rs := [10]) (by kernel_rfl) (by simp) ?_
                  refine AllReadyH.cons rfl (fun K hK => ?_) (AllReadyH.nil)
                  try simp only [y1, y2, y3]
                  rw [if_pos (by rfl)]
                  refine wp_store_mid 22 (.tmp 13) (.tmp 52) rfl (b860) (0) (vl 16 (po)).toArray rfl rfl (H16.there hz909) (vsz _) (von _) ?_
                  simp only [Act.put, y1, y2, y3, y4, y5, y6, List.toList_toArray]
                  have hw911 : Below u9.heap.size u9 (w906.setCells b860 0 (vl 16 (po))) := below_store hw907 (by omega) _ 0
                  have hz912 : H16 (w906.setCells b860 0 (vl 16 (po))) b860 (po) := H16.store hz909 _
                  have hz913 : H16 (w906.setCells b860 0 (vl 16 (po))) b895 _ := H16.storeOther hz908 (by omega) _
                  refine hK.out _ _ ?_ (fun hHeld => ?_)
                  · exact ⟨range_kept (hw911) (row16_range X3.out), hw911⟩
                  clear hK K
                  try simp only [Act.put, y1, y2, y3, y4, y5, y6]
                  generalize w906.setCells b860 0 (vl 16 (po)) = w910 at *
                  refine wpAnyH_done (by kernel_rfl) ?_ _
                  refine NoPanic.normal ?_
                  go_wp2_with fail
                  go_meet
                  refine ⟨_, _, rfl, rfl, Lib.hid hz913, Lib.hid hz912, Lib.hid hw911⟩
              · try simp only [y1, y2, y3]
                go_simp
                have hw915 : Below u9.heap.size u9 (w862.alloc zO) := hw864.alloc hw864.size _
                have hz916 : H16 (w862.alloc zO) w862.heap.size fun _ => 0 := new_h w862
                have hl918 : u9.heap.size ≤ w862.heap.size := hw864.size
                have hz919 := H16.alloc zO hz865
                have hne920 : b860 < w862.heap.size := hz865.lt
                refine hK.out _ _ ?_ (fun hHeld => ?_)
                · exact ⟨range_kept (hw915) (row16_range X3.out), hw915⟩
                clear hK K
                try simp only [Act.put, y1, y2, y3, y4, y5, y6]
                generalize w862.alloc zO = w914 at *
                generalize w862.heap.size = b917 at *
                refine wpAnyH_ready (rs := [5]) (by kernel_rfl) (by simp) ?_
                refine AllReadyH.cons rfl (fun K hK => ?_) (AllReadyH.nil)
                try simp only [y1, y2, y3]
                go_simp
                have hw922 : Below u9.heap.size u9 (w914.alloc (.cells (zrow k) 5)) := hw915.alloc hw915.size _
                have hr923 : Rd (w914.alloc (.cells (zrow k) 5)) (w914.alloc (.cells (zrow k) 5)).heap.size (some ⟨w914.heap.size, 0, none⟩) (vn (List.replicate k 0)) := zrow_rd k w914
                have hz925 := H16.alloc (.cells (zrow k) 5) hz919
                have hz926 := H16.alloc (.cells (zrow k) 5) hz916
                refine hK.out _ _ ?_ (fun hHeld => ?_)
                · exact ⟨range_kept (hw922) (row16_range X3.out), hw922⟩
                clear hK K
                try simp only [Act.put, y1, y2, y3, y4, y5, y6]
                generalize w914.alloc (.cells (zrow k) 5) = w921 at *
                generalize w914.heap.size = b924 at *
                refine wpAnyH_ready (rs := [6]) (by kernel_rfl) (by simp) ?_
                refine AllReadyH.cons rfl (fun K hK => ?_) (AllReadyH.nil)
                try simp only [y1, y2, y3]
                go_simp
                refine (Cpo.out _ _ hr923).mono ?_
                rintro e w927 ⟨rfl, hb928⟩
                rw [aN_vl 16 (po)]
                have hw929 : Below u9.heap.size u9 w927 := hw922.trans (hb928.mono hw922.size)
                have hz930 := H16.call hb928 hz925
                have hz931 := H16.call hb928 hz926
                have hr932 := Rd.go hr923 hb928
                refine hK.out _ _ ?_ (fun hHeld => ?_)
                · exact ⟨range_kept (hw929) (row16_range X3.out), hw929⟩
                clear hK K
                try simp only [Act.put, y1, y2, y3, y4, y5, y6]
                clear hb928
                refine wpAnyH_ready (rs := [9]) (by kernel_rfl) (by simp) ?_
                refine AllReadyH.cons rfl (fun K hK => ?_) (AllReadyH.nil)
                try simp only [y1, y2, y3]
                rw [if_pos (by rfl)]
                refine wp_store_mid 22 (.tmp 12) (.tmp 48) rfl (b917) (0) (vl 16 (pz)).toArray rfl rfl (H16.there hz931) (vsz _) (von _) ?_
                simp only [Act.put, y1, y2, y3, y4, y5, y6, List.toList_toArray]
                have hw934 : Below u9.heap.size u9 (w927.setCells b917 0 (vl 16 (pz))) := below_store hw929 (by omega) _ 0
                have hz935 : H16 (w927.setCells b917 0 (vl 16 (pz))) b917 (pz) := H16.store hz931 _
                have hz936 : H16 (w927.setCells b917 0 (vl 16 (pz))) b860 _ := H16.storeOther hz930 (by omega) _
                refine hK.out _ _ ?_ (fun hHeld => ?_)
                · exact ⟨range_kept (hw934) (row16_range X3.out), hw934⟩
                clear hK K
                try simp only [Act.put, y1, y2, y3, y4, y5, y6]
                generalize w927.setCells b917 0 (vl 16 (pz)) = w933 at *
                refine wpAnyH_ready (rs := [10]) (by kernel_rfl) (by simp) ?_
                refine AllReadyH.cons rfl (fun K hK => ?_) (AllReadyH.nil)
                try simp only [y1, y2, y3]
                rw [if_pos (by rfl)]
                refine wp_store_mid 22 (.tmp 13) (.tmp 52) rfl (b860) (0) (vl 16 (po)).toArray rfl rfl (H16.there hz936) (vsz _) (von _) ?_
                simp only [Act.put, y1, y2, y3, y4, y5, y6, List.toList_toArray]
                have hw938 : Below u9.heap.size u9 (w933.setCells b860 0 (vl 16 (po))) := below_store hw934 (by omega) _ 0
                have hz939 : H16 (w933.setCells b860 0 (vl 16 (po))) b860 (po) := H16.store hz936 _
                have hz940 : H16 (w933.setCells b860 0 (vl 16 (po))) b917 _ := H16.storeOther hz935 (by omega) _
                refine hK.out _ _ ?_ (fun hHeld => ?_)
                · exact ⟨range_kept (hw938) (row16_range X3.out), hw938⟩
                clear hK K
                try simp only [Act.put, y1, y2, y3, y4, y5, y6]
                generalize w933.setCells b860 0 (vl 16 (po)) = w937 at *
                refine wpAnyH_done (by kernel_rfl) ?_ _
                refine NoPanic.normal ?_
                go_wp2_with fail
                go_meet
                refine ⟨_, _, rfl, rfl, Lib.hid hz940, Lib.hid hz939, Lib.hid hw938⟩
            · try simp only [y1, y2, y3]
              go_simp
              have hw942 : Below u9.heap.size u9 (w857.alloc (.cells (zrow k) 5)) := hw858.alloc hw858.size _
              have hr943 : Rd (w857.alloc (.cells (zrow k) 5)) (w857.alloc (.cells (zrow k) 5)).heap.size (some ⟨w857.heap.size, 0, none⟩) (vn (List.replicate k 0)) := zrow_rd k w857
              have hz945 := H16.alloc (.cells (zrow k) 5) hz859
              refine hK.out _ _ ?_ (fun hHeld => ?_)
              · exact ⟨range_kept (hw942) (row16_range X3.out), hw942⟩
              clear hK K
              try simp only [Act.put, y1, y2, y3, y4, y5, y6]
              generalize w857.alloc (.cells (zrow k) 5) = w941 at *
              generalize w857.heap.size = b944 at *
              refine wpAnyH_ready (rs := [2, 7]) (by kernel_rfl) (by simp) ?_
              refine AllReadyH.cons rfl (fun K hK => ?_) (AllReadyH.cons rfl (fun K hK => ?_) (AllReadyH.nil))
              · try simp only [y1, y2, y3]
                go_simp
                refine (Cpz.out _ (R8.out.go hw942)).mono ?_
                rintro e w946 ⟨rfl, hb947⟩
                rw [aN_vl 16 (pz)]
                have hw948 : Below u9.heap.size u9 w946 := hw942.trans (hb947.mono hw942.size)
                have hz949 := H16.call hb947 hz945
                have hr950 := Rd.go hr943 hb947
                refine hK.out _ _ ?_ (fun hHeld => ?_)
                · exact ⟨range_kept (hw948) (row16_range X3.out), hw948⟩
                clear hK K
                try simp only [Act.put, y1, y2, y3, y4, y5, y6]
                clear hb947
                refine wpAnyH_ready (rs := [6, 7]) (by kernel_rfl) (by simp) ?_
                refine AllReadyH.cons rfl (fun K hK => ?_) (AllReadyH.cons rfl (fun K hK => ?_) (AllReadyH.nil))
                · try simp only [y1, y2, y3]
                  go_simp
                  refine (Cpo.out _ _ hr950).mono ?_
                  rintro e w951 ⟨rfl, hb952⟩
                  rw [aN_vl 16 (po)]
                  have hw953 : Below u9.heap.size u9 w951 := hw948.trans (hb952.mono hw948.size)
                  have hz954 := H16.call hb952 hz949
                  have hr955 := Rd.go hr950 hb952
                  refine hK.out _ _ ?_ (fun hHeld => ?_)
                  · exact ⟨range_kept (hw953) (row16_range X3.out), hw953⟩
                  clear hK K
                  try simp only [Act.put, y1, y2, y3, y4, y5, y6]
                  clear hb952
                  refine wpAnyH_ready (rs := [7]) (by kernel_rfl) (by simp) ?_
                  refine AllReadyH.cons rfl (fun K hK => ?_) (AllReadyH.nil)
                  try simp only [y1, y2, y3]
                  go_simp
                  have hw957 : Below u9.heap.size u9 (w951.alloc zO) := hw953.alloc hw953.size _
                  have hz958 : H16 (w951.alloc zO) w951.heap.size fun _ => 0 := new_h w951
                  have hl960 : u9.heap.size ≤ w951.heap.size := hw953.size
                  have hr961 := Rd.go hr955 ((Below.refl _ _).alloc (Nat.le_refl _) zO)
                  have hz962 := H16.alloc zO hz954
                  have hne963 : b860 < w951.heap.size := hz954.lt
                  refine hK.out _ _ ?_ (fun hHeld => ?_)
                  · exact ⟨range_kept (hw957) (row16_range X3.out), hw957⟩
                  clear hK K
                  try simp only [Act.put, y1, y2, y3, y4, y5, y6]
                  generalize w951.alloc zO = w956 at *
                  generalize w951.heap.size = b959 at *
                  refine wpAnyH_ready (rs := [9]) (by kernel_rfl) (by simp) ?_
                  refine AllReadyH.cons rfl (fun K hK => ?_) (AllReadyH.nil)
                  try simp only [y1, y2, y3]
                  rw [if_pos (by rfl)]
                  refine wp_store_mid 22 (.tmp 12) (.tmp 48) rfl (b959) (0) (vl 16 (pz)).toArray rfl rfl (H16.there hz958) (vsz _) (von _) ?_
                  simp only [Act.put, y1, y2, y3, y4, y5, y6, List.toList_toArray]
                  have hw965 : Below u9.heap.size u9 (w956.setCells b959 0 (vl 16 (pz))) := below_store hw957 (by omega) _ 0
                  have hz966 : H16 (w956.setCells b959 0 (vl 16 (pz))) b959 (pz) := H16.store hz958 _
                  have hz967 : H16 (w956.setCells b959 0 (vl 16 (pz))) b860 _ := H16.storeOther hz962 (by omega) _
                  refine hK.out _ _ ?_ (fun hHeld => ?_)
                  · exact ⟨range_kept (hw965) (row16_range X3.out), hw965⟩
                  clear hK K
                  try simp only [Act.put, y1, y2, y3, y4, y5, y6]
                  generalize w956.setCells b959 0 (vl 16 (pz)) = w964 at *
                  refine wpAnyH_ready (rs := [10]) (by kernel_rfl) (by simp) ?_
                  refine AllReadyH.cons rfl (fun K hK => ?_) (AllReadyH.nil)
                  try simp only [y1, y2, y3]
                  rw [if_pos (by rfl)]
                  refine wp_store_mid 22 (.tmp 13) (.tmp 52) rfl (b860) (0) (vl 16 (po)).toArray rfl rfl (H16.there hz967) (vsz _) (von _) ?_
                  simp only [Act.put, y1, y2, y3, y4, y5, y6, List.toList_toArray]
                  have hw969 : Below u9.heap.size u9 (w964.setCells b860 0 (vl 16 (po))) := below_store hw965 (by omega) _ 0
                  have hz970 : H16 (w964.setCells b860 0 (vl 16 (po))) b860 (po) := H16.store hz967 _
                  have hz971 : H16 (w964.setCells b860 0 (vl 16 (po))) b959 _ := H16.storeOther hz966 (by omega) _
                  refine hK.out _ _ ?_ (fun hHeld => ?_)
                  · exact ⟨range_kept (hw969) (row16_range X3.out), hw969⟩
                  clear hK K
                  try simp only [Act.put, y1, y2, y3, y4, y5, y6]
                  generalize w964.setCells b860 0 (vl 16 (po)) = w968 at *
                  refine wpAnyH_done (by kernel_rfl) ?_ _
                  refine NoPanic.normal ?_
                  go_wp2_with fail
                  go_meet
                  refine ⟨_, _, rfl, rfl, Lib.hid hz971, Lib.hid hz970, Lib.hid hw969⟩
                · try simp only [y1, y2, y3]
                  go_simp
                  have hw973 : Below u9.heap.size u9 (w946.alloc zO) := hw948.alloc hw948.size _
                  have hz974 : H16 (w946.alloc zO) w946.heap.size fun _ => 0 := new_h w946
                  have hl976 : u9.heap.size ≤ w946.heap.size := hw948.size
                  have hr977 := Rd.go hr950 ((Below.refl _ _).alloc (Nat.le_refl _) zO)
                  have hz978 := H16.alloc zO hz949
                  have hne979 : b860 < w946.heap.size := hz949.lt
                  refine hK.out _ _ ?_ (fun hHeld => ?_)
                  · exact ⟨range_kept (hw973) (row16_range X3.out), hw973⟩
                  clear hK K
                  try simp only [Act.put, y1, y2, y3, y4, y5, y6]
                  generalize w946.alloc zO = w972 at *
                  generalize w946.heap.size = b975 at *
                  refine wpAnyH_ready (rs := [6]) (by kernel_rfl) (by simp) ?_
                  refine AllReadyH.cons rfl (fun K hK => ?_) (AllReadyH.nil)
                  try simp only [y1, y2, y3]
                  go_simp
                  refine (Cpo.out _ _ hr977).mono ?_
                  rintro e w980 ⟨rfl, hb981⟩
                  rw [aN_vl 16 (po)]
                  have hw982 : Below u9.heap.size u9 w980 := hw973.trans (hb981.mono hw973.size)
                  have hz983 := H16.call hb981 hz978
                  have hz984 := H16.call hb981 hz974
                  have hr985 := Rd.go hr977 hb981
                  refine hK.out _ _ ?_ (fun hHeld => ?_)
                  · exact ⟨range_kept (hw982) (row16_range X3.out), hw982⟩
                  clear hK K
                  try simp only [Act.put, y1, y2, y3, y4, y5, y6]
                  clear hb981
                  refine wpAnyH_ready (rs := [9]) (by kernel_rfl) (by simp) ?_
                  refine AllReadyH.cons rfl (fun K hK => ?_) (AllReadyH.nil)
                  try simp only [y1, y2, y3]
                  rw [if_pos (by rfl)]
                  refine wp_store_mid 22 (.tmp 12) (.tmp 48) rfl (b975) (0) (vl 16 (pz)).toArray rfl rfl (H16.there hz984) (vsz _) (von _) ?_
                  simp only [Act.put, y1, y2, y3, y4, y5, y6, List.toList_toArray]
                  have hw987 : Below u9.heap.size u9 (w980.setCells b975 0 (vl 16 (pz))) := below_store hw982 (by omega) _ 0
                  have hz988 : H16 (w980.setCells b975 0 (vl 16 (pz))) b975 (pz) := H16.store hz984 _
                  have hz989 : H16 (w980.setCells b975 0 (vl 16 (pz))) b860 _ := H16.storeOther hz983 (by omega) _
                  refine hK.out _ _ ?_ (fun hHeld => ?_)
                  · exact ⟨range_kept (hw987) (row16_range X3.out), hw987⟩
                  clear hK K
                  try simp only [Act.put, y1, y2, y3, y4, y5, y6]
                  generalize w980.setCells b975 0 (vl 16 (pz)) = w986 at *
                  refine wpAnyH_ready (rs := [10]) (by kernel_rfl) (by simp) ?_
                  refine AllReadyH.cons rfl (fun K hK => ?_) (AllReadyH.nil)
                  try simp only [y1, y2, y3]
                  rw [if_pos (by rfl)]
                  refine wp_store_mid 22 (.tmp 13) (.tmp 52) rfl (b860) (0) (vl 16 (po)).toArray rfl rfl (H16.there hz989) (vsz _) (von _) ?_
                  simp only [Act.put, y1, y2, y3, y4, y5, y6, List.toList_toArray]
                  have hw991 : Below u9.heap.size u9 (w986.setCells b860 0 (vl 16 (po))) := below_store hw987 (by omega) _ 0
                  have hz992 : H16 (w986.setCells b860 0 (vl 16 (po))) b860 (po) := H16.store hz989 _
                  have hz993 : H16 (w986.setCells b860 0 (vl 16 (po))) b975 _ := H16.storeOther hz988 (by omega) _
                  refine hK.out _ _ ?_ (fun hHeld => ?_)
                  · exact ⟨range_kept (hw991) (row16_range X3.out), hw991⟩
                  clear hK K
                  try simp only [Act.put, y1, y2, y3, y4, y5, y6]
                  generalize w986.setCells b860 0 (vl 16 (po)) = w990 at *
                  refine wpAnyH_done (by kernel_rfl) ?_ _
                  refine NoPanic.normal ?_
                  go_wp2_with fail
                  go_meet
                  refine ⟨_, _, rfl, rfl, Lib.hid hz993, Lib.hid hz992, Lib.hid hw991⟩
              · try simp only [y1, y2, y3]
                go_simp
                have hw995 : Below u9.heap.size u9 (w941.alloc zO) := hw942.alloc hw942.size _
                have hz996 : H16 (w941.alloc zO) w941.heap.size fun _ => 0 := new_h w941
                have hl998 : u9.heap.size ≤ w941.heap.size := hw942.size
                have hr999 := Rd.go hr943 ((Below.refl _ _).alloc (Nat.le_refl _) zO)
                have hz1000 := H16.alloc zO hz945
                have hne1001 : b860 < w941.heap.size := hz945.lt
                refine hK.out _ _ ?_ (fun hHeld => ?_)
                · exact ⟨range_kept (hw995) (row16_range X3.out), hw995⟩
                clear hK K
                try simp only [Act.put, y1, y2, y3, y4, y5, y6]
                generalize w941.alloc zO = w994 at *
                generalize w941.heap.size = b997 at *
                refine wpAnyH_ready (rs := [2]) (by kernel_rfl) (by simp) ?_
                refine AllReadyH.cons rfl (fun K hK => ?_) (AllReadyH.nil)
                try simp only [y1, y2, y3]
                go_simp
                refine (Cpz.out _ (R8.out.go hw995)).mono ?_
                rintro e w1002 ⟨rfl, hb1003⟩
                rw [aN_vl 16 (pz)]
                have hw1004 : Below u9.heap.size u9 w1002 := hw995.trans (hb1003.mono hw995.size)
                have hz1005 := H16.call hb1003 hz1000
                have hz1006 := H16.call hb1003 hz996
                have hr1007 := Rd.go hr999 hb1003
                refine hK.out _ _ ?_ (fun hHeld => ?_)
                · exact ⟨range_kept (hw1004) (row16_range X3.out), hw1004⟩
                clear hK K
                try simp only [Act.put, y1, y2, y3, y4, y5, y6]
                clear hb1003
                refine wpAnyH_ready (rs := [6]) (by kernel_rfl) (by simp) ?_
                refine AllReadyH.cons rfl (fun K hK => ?_) (AllReadyH.nil)
                try simp only [y1, y2, y3]
                go_simp
                refine (Cpo.out _ _ hr1007).mono ?_
                rintro e w1008 ⟨rfl, hb1009⟩
                rw [aN_vl 16 (po)]
                have hw1010 : Below u9.heap.size u9 w1008 := hw1004.trans (hb1009.mono hw1004.size)
                have hz1011 := H16.call hb1009 hz1005
                have hz1012 := H16.call hb1009 hz1006
                have hr1013 := Rd.go hr1007 hb1009
                refine hK.out _ _ ?_ (fun hHeld => ?_)
                · exact ⟨range_kept (hw1010) (row16_range X3.out), hw1010⟩
                clear hK K
                try simp only [Act.put, y1, y2, y3, y4, y5, y6]
                clear hb1009
                refine wpAnyH_ready (rs := [9]) (by kernel_rfl) (by simp) ?_
                refine AllReadyH.cons rfl (fun K hK => ?_) (AllReadyH.nil)
                try simp only [y1, y2, y3]
                rw [if_pos (by rfl)]
                refine wp_store_mid 22 (.tmp 12) (.tmp 48) rfl (b997) (0) (vl 16 (pz)).toArray rfl rfl (H16.there hz1012) (vsz _) (von _) ?_
                simp only [Act.put, y1, y2, y3, y4, y5, y6, List.toList_toArray]
                have hw1015 : Below u9.heap.size u9 (w1008.setCells b997 0 (vl 16 (pz))) := below_store hw1010 (by omega) _ 0
                have hz1016 : H16 (w1008.setCells b997 0 (vl 16 (pz))) b997 (pz) := H16.store hz1012 _
                have hz1017 : H16 (w1008.setCells b997 0 (vl 16 (pz))) b860 _ := H16.storeOther hz1011 (by omega) _
                refine hK.out _ _ ?_ (fun hHeld => ?_)
                · exact ⟨range_kept (hw1015) (row16_range X3.out), hw1015⟩
                clear hK K
                try simp only [Act.put, y1, y2, y3, y4, y5, y6]
                generalize w1008.setCells b997 0 (vl 16 (pz)) = w1014 at *
                refine wpAnyH_ready (rs := [10]) (by kernel_rfl) (by simp) ?_
                refine AllReadyH.cons rfl (fun K hK => ?_) (AllReadyH.nil)
                try simp only [y1, y2, y3]
                rw [if_pos (by rfl)]
                refine wp_store_mid 22 (.tmp 13) (.tmp 52) rfl (b860) (0) (vl 16 (po)).toArray rfl rfl (H16.there hz1017) (vsz _) (von _) ?_
                simp only [Act.put, y1, y2, y3, y4, y5, y6, List.toList_toArray]
                have hw1019 : Below u9.heap.size u9 (w1014.setCells b860 0 (vl 16 (po))) := below_store hw1015 (by omega) _ 0
                have hz1020 : H16 (w1014.setCells b860 0 (vl 16 (po))) b860 (po) := H16.store hz1017 _
                have hz1021 : H16 (w1014.setCells b860 0 (vl 16 (po))) b997 _ := H16.storeOther hz1016 (by omega) _
                refine hK.out _ _ ?_ (fun hHeld => ?_)
                · exact ⟨range_kept (hw1019) (row16_range X3.out), hw1019⟩
                clear hK K
                try simp only [Act.put, y1, y2, y3, y4, y5, y6]
                generalize w1014.setCells b860 0 (vl 16 (po)) = w1018 at *
                refine wpAnyH_done (by kernel_rfl) ?_ _
                refine NoPanic.normal ?_
                go_wp2_with fail
                go_meet
                refine ⟨_, _, rfl, rfl, Lib.hid hz1021, Lib.hid hz1020, Lib.hid hw1019⟩
            · try simp only [y1, y2, y3]
              go_simp
              have hw1023 : Below u9.heap.size u9 (w857.alloc zO) := hw858.alloc hw858.size _
              have hz1024 : H16 (w857.alloc zO) w857.heap.size fun _ => 0 := new_h w857
              have hl1026 : u9.heap.size ≤ w857.heap.size := hw858.size
              have hz1027 := H16.alloc zO hz859
              have hne1028 : b860 < w857.heap.size := hz859.lt
              refine hK.out _ _ ?_ (fun hHeld => ?_)
              · exact ⟨range_kept (hw1023) (row16_range X3.out), hw1023⟩
              clear hK K
              try simp only [Act.put, y1, y2, y3, y4, y5, y6]
              generalize w857.alloc zO = w1022 at *
              generalize w857.heap.size = b1025 at *
              refine wpAnyH_ready (rs := [2, 5]) (by kernel_rfl) (by simp) ?_
              refine AllReadyH.cons rfl (fun K hK => ?_) (AllReadyH.cons rfl (fun K hK => ?_) (AllReadyH.nil))
              · try simp only [y1, y2, y3]
                go_simp
                refine (Cpz.out _ (R8.out.go hw1023)).mono ?_
                rintro e w1029 ⟨rfl, hb1030⟩
                rw [aN_vl 16 (pz)]
                have hw1031 : Below u9.heap.size u9 w1029 := hw1023.trans (hb1030.mono hw1023.size)
                have hz1032 := H16.call hb1030 hz1027
                have hz1033 := H16.call hb1030 hz1024
                refine hK.out _ _ ?_ (fun hHeld => ?_)
                · exact ⟨range_kept (hw1031) (row16_range X3.out), hw1031⟩
                clear hK K
                try simp only [Act.put, y1, y2, y3, y4, y5, y6]
                clear hb1030
                refine wpAnyH_ready (rs := [5]) (by kernel_rfl) (by simp) ?_
                refine AllReadyH.cons rfl (fun K hK => ?_) (AllReadyH.nil)
                try simp only [y1, y2, y3]
                go_simp
                have hw1035 : Below u9.heap.size u9 (w1029.alloc (.cells (zrow k) 5)) := hw1031.alloc hw1031.size _
                have hr1036 : Rd (w1029.alloc (.cells (zrow k) 5)) (w1029.alloc (.cells (zrow k) 5)).heap.size (some ⟨w1029.heap.size, 0, none⟩) (vn (List.replicate k 0)) := zrow_rd k w1029
                have hz1038 := H16.alloc (.cells (zrow k) 5) hz1032
                have hz1039 := H16.alloc (.cells (zrow k) 5) hz1033
                refine hK.out _ _ ?_ (fun hHeld => ?_)
                · exact ⟨range_kept (hw1035) (row16_range X3.out), hw1035⟩
                clear hK K
                try simp only [Act.put, y1, y2, y3, y4, y5, y6]
                generalize w1029.alloc (.cells (zrow k) 5) = w1034 at *
                generalize w1029.heap.size = b1037 at *
                refine wpAnyH_ready (rs := [6]) (by kernel_rfl) (by simp) ?_
                refine AllReadyH.cons rfl (fun K hK => ?_) (AllReadyH.nil)
                try simp only [y1, y2, y3]
                go_simp
                refine (Cpo.out _ _ hr1036).mono ?_
                rintro e w1040 ⟨rfl, hb1041⟩
                rw [aN_vl 16 (po)]
                have hw1042 : Below u9.heap.size u9 w1040 := hw1035.trans (hb1041.mono hw1035.size)
                have hz1043 := H16.call hb1041 hz1038
                have hz1044 := H16.call hb1041 hz1039
                have hr1045 := Rd.go hr1036 hb1041
                refine hK.out _ _ ?_ (fun hHeld => ?_)
                · exact ⟨range_kept (hw1042) (row16_range X3.out), hw1042⟩
                clear hK K
                try simp only [Act.put, y1, y2, y3, y4, y5, y6]
                clear hb1041
                refine wpAnyH_ready (rs := [9]) (by kernel_rfl) (by simp) ?_
                refine AllReadyH.cons rfl (fun K hK => ?_) (AllReadyH.nil)
                try simp only [y1, y2, y3]
                rw [if_pos (by rfl)]
                refine wp_store_mid 22 (.tmp 12) (.tmp 48) rfl (b1025) (0) (vl 16 (pz)).toArray rfl rfl (H16.there hz1044) (vsz _) (von _) ?_
                simp only [Act.put, y1, y2, y3, y4, y5, y6, List.toList_toArray]
                have hw1047 : Below u9.heap.size u9 (w1040.setCells b1025 0 (vl 16 (pz))) := below_store hw1042 (by omega) _ 0
                have hz1048 : H16 (w1040.setCells b1025 0 (vl 16 (pz))) b1025 (pz) := H16.store hz1044 _
                have hz1049 : H16 (w1040.setCells b1025 0 (vl 16 (pz))) b860 _ := H16.storeOther hz1043 (by omega) _
                refine hK.out _ _ ?_ (fun hHeld => ?_)
                · exact ⟨range_kept (hw1047) (row16_range X3.out), hw1047⟩
                clear hK K
                try simp only [Act.put, y1, y2, y3, y4, y5, y6]
                generalize w1040.setCells b1025 0 (vl 16 (pz)) = w1046 at *
                refine wpAnyH_ready (rs := [10]) (by kernel_rfl) (by simp) ?_
                refine AllReadyH.cons rfl (fun K hK => ?_) (AllReadyH.nil)
                try simp only [y1, y2, y3]
                rw [if_pos (by rfl)]
                refine wp_store_mid 22 (.tmp 13) (.tmp 52) rfl (b860) (0) (vl 16 (po)).toArray rfl rfl (H16.there hz1049) (vsz _) (von _) ?_
                simp only [Act.put, y1, y2, y3, y4, y5, y6, List.toList_toArray]
                have hw1051 : Below u9.heap.size u9 (w1046.setCells b860 0 (vl 16 (po))) := below_store hw1047 (by omega) _ 0
                have hz1052 : H16 (w1046.setCells b860 0 (vl 16 (po))) b860 (po) := H16.store hz1049 _
                have hz1053 : H16 (w1046.setCells b860 0 (vl 16 (po))) b1025 _ := H16.storeOther hz1048 (by omega) _
                refine hK.out _ _ ?_ (fun hHeld => ?_)
                · exact ⟨range_kept (hw1051) (row16_range X3.out), hw1051⟩
                clear hK K
                try simp only [Act.put, y1, y2, y3, y4, y5, y6]
                generalize w1046.setCells b860 0 (vl 16 (po)) = w1050 at *
                refine wpAnyH_done (by kernel_rfl) ?_ _
                refine NoPanic.normal ?_
                go_wp2_with fail
                go_meet
                refine ⟨_, _, rfl, rfl, Lib.hid hz1053, Lib.hid hz1052, Lib.hid hw1051⟩
              · try simp only [y1, y2, y3]
                go_simp
                have hw1055 : Below u9.heap.size u9 (w1022.alloc (.cells (zrow k) 5)) := hw1023.alloc hw1023.size _
                have hr1056 : Rd (w1022.alloc (.cells (zrow k) 5)) (w1022.alloc (.cells (zrow k) 5)).heap.size (some ⟨w1022.heap.size, 0, none⟩) (vn (List.replicate k 0)) := zrow_rd k w1022
                have hz1058 := H16.alloc (.cells (zrow k) 5) hz1027
                have hz1059 := H16.alloc (.cells (zrow k) 5) hz1024
                refine hK.out _ _ ?_ (fun hHeld => ?_)
                · exact ⟨range_kept (hw1055) (row16_range X3.out), hw1055⟩
                clear hK K
                try simp only [Act.put, y1, y2, y3, y4, y5, y6]
                generalize w1022.alloc (.cells (zrow k) 5) = w1054 at *
                generalize w1022.heap.size = b1057 at *
                refine wpAnyH_ready (rs := [2]) (by kernel_rfl) (by simp) ?_
                refine AllReadyH.cons rfl (fun K hK => ?_) (AllReadyH.nil)
                try simp only [y1, y2, y3]
                go_simp
                refine (Cpz.out _ (R8.out.go hw1055)).mono ?_
                rintro e w1060 ⟨rfl, hb1061⟩
                rw [aN_vl 16 (pz)]
                have hw1062 : Below u9.heap.size u9 w1060 := hw1055.trans (hb1061.mono hw1055.size)
                have hz1063 := H16.call hb1061 hz1058
                have hz1064 := H16.call hb1061 hz1059
                have hr1065 := Rd.go hr1056 hb1061
                refine hK.out _ _ ?_ (fun hHeld => ?_)
                · exact ⟨range_kept (hw1062) (row16_range X3.out), hw1062⟩
                clear hK K
                try simp only [Act.put, y1, y2, y3, y4, y5, y6]
                clear hb1061
                refine wpAnyH_ready (rs := [6]) (by kernel_rfl) (by simp) ?_
                refine AllReadyH.cons rfl (fun K hK => ?_) (AllReadyH.nil)
                try simp only [y1, y2, y3]
                go_simp
                refine (Cpo.out _ _ hr1065).mono ?_
                rintro e w1066 ⟨rfl, hb1067⟩
                rw [aN_vl 16 (po)]
                have hw1068 : Below u9.heap.size u9 w1066 := hw1062.trans (hb1067.mono hw1062.size)
                have hz1069 := H16.call hb1067 hz1063
                have hz1070 := H16.call hb1067 hz1064
                have hr1071 := Rd.go hr1065 hb1067
                refine hK.out _ _ ?_ (fun hHeld => ?_)
                · exact ⟨range_kept (hw1068) (row16_range X3.out), hw1068⟩
                clear hK K
                try simp only [Act.put, y1, y2, y3, y4, y5, y6]
                clear hb1067
                refine wpAnyH_ready (rs := [9]) (by kernel_rfl) (by simp) ?_
                refine AllReadyH.cons rfl (fun K hK => ?_) (AllReadyH.nil)
                try simp only [y1, y2, y3]
                rw [if_pos (by rfl)]
                refine wp_store_mid 22 (.tmp 12) (.tmp 48) rfl (b1025) (0) (vl 16 (pz)).toArray rfl rfl (H16.there hz1070) (vsz _) (von _) ?_
                simp only [Act.put, y1, y2, y3, y4, y5, y6, List.toList_toArray]
                have hw1073 : Below u9.heap.size u9 (w1066.setCells b1025 0 (vl 16 (pz))) := below_store hw1068 (by omega) _ 0
                have hz1074 : H16 (w1066.setCells b1025 0 (vl 16 (pz))) b1025 (pz) := H16.store hz1070 _
                have hz1075 : H16 (w1066.setCells b1025 0 (vl 16 (pz))) b860 _ := H16.storeOther hz1069 (by omega) _
                refine hK.out _ _ ?_ (fun hHeld => ?_)
                · exact ⟨range_kept (hw1073) (row16_range X3.out), hw1073⟩
                clear hK K
                try simp only [Act.put, y1, y2, y3, y4, y5, y6]
                generalize w1066.setCells b1025 0 (vl 16 (pz)) = w1072 at *
                refine wpAnyH_ready (rs := [10]) (by kernel_rfl) (by simp) ?_
                refine AllReadyH.cons rfl (fun K hK => ?_) (AllReadyH.nil)
                try simp only [y1, y2, y3]
                rw [if_pos (by rfl)]
                refine wp_store_mid 22 (.tmp 13) (.tmp 52) rfl (b860) (0) (vl 16 (po)).toArray rfl rfl (H16.there hz1075) (vsz _) (von _) ?_
                simp only [Act.put, y1, y2, y3, y4, y5, y6, List.toList_toArray]
                have hw1077 : Below u9.heap.size u9 (w1072.setCells b860 0 (vl 16 (po))) := below_store hw1073 (by omega) _ 0
                have hz1078 : H16 (w1072.setCells b860 0 (vl 16 (po))) b860 (po) := H16.store hz1075 _
                have hz1079 : H16 (w1072.setCells b860 0 (vl 16 (po))) b1025 _ := H16.storeOther hz1074 (by omega) _
                refine hK.out _ _ ?_ (fun hHeld => ?_)
                · exact ⟨range_kept (hw1077) (row16_range X3.out), hw1077⟩
                clear hK K
                try simp only [Act.put, y1, y2, y3, y4, y5, y6]
                generalize w1072.setCells b860 0 (vl 16 (po)) = w1076 at *
                refine wpAnyH_done (by kernel_rfl) ?_ _
                refine NoPanic.normal ?_
                go_wp2_with fail
                go_meet
                refine ⟨_, _, rfl, rfl, Lib.hid hz1079, Lib.hid hz1078, Lib.hid hw1077⟩
        case rest =>
          obtain ⟨b12, b13, rfl, rfl, X12, X13, HW⟩ := hcut
          obtain ⟨u10, rfl⟩ : ∃ u10 : World, u10 = wc := ⟨_, rfl⟩
          replace X3 := Lib.hid (H16.call HW.out X3.out)
          replace X10 := Lib.hid (H16.call HW.out X10.out)
          replace X11 := Lib.hid (H16.call HW.out X11.out)
          replace R8 := Lib.hid (R8.out.go HW.out)
          replace HB : Hid (Below w.heap.size w u10) := Lib.hid (HB.out.trans (HW.out.mono HB.out.size))
          clear HW
          try clear u9
          go_upto_region 10 with fail
          refine wp_region_noPanic ?_
          refine wp_region_held_drew (S := (fun w' => w'.rangeAt (b10) 0 (vl 16 (px)) ∧ w'.rangeAt (b11) 0 (vl 16 (py)) ∧ w'.rangeAt (b12) 0 (vl 16 (pz)) ∧ w'.rangeAt (b13) 0 (vl 16 (po)) ∧ Below u10.heap.size u10 w')) (by kernel_rfl) ?_ (fun hHeld => ?_)
          · exact ⟨range_kept ((Below.refl u10.heap.size u10).drew) (row16_range X10.out), range_kept ((Below.refl u10.heap.size u10).drew) (row16_range X11.out), range_kept ((Below.refl u10.heap.size u10).drew) (row16_range X12.out), range_kept ((Below.refl u10.heap.size u10).drew) (row16_range X13.out), (Below.refl u10.heap.size u10).drew⟩
          have hs2 : Below u10.heap.size u10 u10.drew := (Below.refl u10.heap.size u10).drew
          generalize u10.drew = ws1 at *
          refine wpAnyH_take (i := 0) rfl (by kernel_rfl) (by kernel_rfl) (by kernel_rfl) (fun _ _ _ h => h) (yieldsIf_load_mid (by rfl) 22 (.tmp 10) rfl (b10) (0) rfl (vl 16 (px)) (.array 16 5) (fun _ h => h.1) Try.underlying22 rfl (vln _)) hHeld ?_
          try simp only [Act.put, y1, y2, y3, y4, y5, y6]
          refine wpAnyH_take (i := 1) rfl (by kernel_rfl) (by kernel_rfl) (by kernel_rfl) (fun _ _ _ h => h) (yieldsIf_load_mid (by rfl) 22 (.tmp 11) rfl (b11) (0) rfl (vl 16 (py)) (.array 16 5) (fun _ h => h.2.1) Try.underlying22 rfl (vln _)) hHeld ?_
          try simp only [Act.put, y1, y2, y3, y4, y5, y6]
          refine wpAnyH_take (i := 3) rfl (by kernel_rfl) (by kernel_rfl) (by kernel_rfl) (fun _ _ _ h => h) (yieldsIf_load_mid (by rfl) 22 (.tmp 12) rfl (b12) (0) rfl (vl 16 (pz)) (.array 16 5) (fun _ h => h.2.2.1) Try.underlying22 rfl (vln _)) hHeld ?_
          try simp only [Act.put, y1, y2, y3, y4, y5, y6]
          refine wpAnyH_take (i := 4) rfl (by kernel_rfl) (by kernel_rfl) (by kernel_rfl) (fun _ _ _ h => h) (yieldsIf_load_mid (by rfl) 22 (.tmp 13) rfl (b13) (0) rfl (vl 16 (po)) (.array 16 5) (fun _ h => h.2.2.2.1) Try.underlying22 rfl (vln _)) hHeld ?_
          try simp only [Act.put, y1, y2, y3, y4, y5, y6]
          refine wpAnyH_ready (rs := [2]) (by kernel_rfl) (by simp) ?_
          refine AllReadyH.cons rfl (fun K hK => ?_) (AllReadyH.nil)
          try simp only [y1, y2, y3]
          go_simp
          refine (lplus_any px py _ Lpx.out Lpy.out).mono ?_
          rintro e w3 ⟨rfl, hb4⟩
          rw [aN_vl 16 (fun i => px i ^^^ py i)]
          have hw5 : Below u10.heap.size u10 w3 := hs2.trans (hb4.mono hs2.size)
          refine hK.out _ _ ?_ (fun hHeld => ?_)
          · exact ⟨range_kept (hw5) (row16_range X10.out), range_kept (hw5) (row16_range X11.out), range_kept (hw5) (row16_range X12.out), range_kept (hw5) (row16_range X13.out), hw5⟩
          clear hK K
          try simp only [Act.put, y1, y2, y3, y4, y5, y6]
          clear hb4
          refine wpAnyH_ready (rs := [5]) (by kernel_rfl) (by simp) ?_
          refine AllReadyH.cons rfl (fun K hK => ?_) (AllReadyH.nil)
          try simp only [y1, y2, y3]
          go_simp
          refine (lplus_any pz po _ Lpz.out Lpo.out).mono ?_
          rintro e w6 ⟨rfl, hb7⟩
          rw [aN_vl 16 (fun i => pz i ^^^ po i)]
          have hw8 : Below u10.heap.size u10 w6 := hw5.trans (hb7.mono hw5.size)
          refine hK.out _ _ ?_ (fun hHeld => ?_)
          · exact ⟨range_kept (hw8) (row16_range X10.out), range_kept (hw8) (row16_range X11.out), range_kept (hw8) (row16_range X12.out), range_kept (hw8) (row16_range X13.out), hw8⟩
          clear hK K
          try simp only [Act.put, y1, y2, y3, y4, y5, y6]
          clear hb7
          refine wpAnyH_take (i := 6) (v := ?_) rfl (by kernel_rfl) (by kernel_rfl) (by kernel_rfl) (fun _ _ _ h => h) (Or.inl ⟨by rfl, ?_⟩) hHeld ?_
          rotate_left
          · intro w' hSw
            (try dsimp only at hSw)
            go_simp
            try with_reducible rfl
          try simp only [Act.put, y1, y2, y3, y4, y5, y6]
          refine wpAnyH_take (i := 7) (v := ?_) rfl (by kernel_rfl) (by kernel_rfl) (by kernel_rfl) (fun _ _ _ h => h) (Or.inl ⟨by rfl, ?_⟩) hHeld ?_
          rotate_left
          · intro w' hSw
            (try dsimp only at hSw)
            go_simp
            try with_reducible rfl
          try simp only [Act.put, y1, y2, y3, y4, y5, y6]
          refine wpAnyH_ready (rs := [8]) (by kernel_rfl) (by simp) ?_
          refine AllReadyH.cons rfl (fun K hK => ?_) (AllReadyH.nil)
          try simp only [y1, y2, y3]
          go_simp
          refine (known04_any _).mono ?_
          rintro e w9 ⟨rfl, hb10⟩
          have hw11 : Below u10.heap.size u10 w9 := hw8.trans (hb10.mono hw8.size)
          refine hK.out _ _ ?_ (fun hHeld => ?_)
          · exact ⟨range_kept (hw11) (row16_range X10.out), range_kept (hw11) (row16_range X11.out), range_kept (hw11) (row16_range X12.out), range_kept (hw11) (row16_range X13.out), hw11⟩
          clear hK K
          try simp only [Act.put, y1, y2, y3, y4, y5, y6]
          clear hb10
          refine wpAnyH_take (i := 9) (v := ?_) rfl (by kernel_rfl) (by kernel_rfl) (by kernel_rfl) (fun _ _ _ h => h) (Or.inl ⟨by rfl, ?_⟩) hHeld ?_
          rotate_left
          · intro w' hSw
            (try dsimp only at hSw)
            go_simp
            try with_reducible rfl
          try simp only [Act.put, y1, y2, y3, y4, y5, y6]
          refine wpAnyH_take (i := 10) (v := ?_) rfl (by kernel_rfl) (by kernel_rfl) (by kernel_rfl) (fun _ _ _ h => h) (Or.inl ⟨by rfl, ?_⟩) hHeld ?_
          rotate_left
          · intro w' hSw
            (try dsimp only at hSw)
            go_simp
            try with_reducible rfl
          try simp only [Act.put, y1, y2, y3, y4, y5, y6]
          refine wpAnyH_done (by kernel_rfl) ?_ _
          refine NoPanic.normal ?_
          go_wp2_with fail
          go_ret
          exact ⟨rfl, HB.out.trans (hw11.mono HB.out.size)⟩

set_option maxRecDepth 100000 in
theorem hadds_lifted (os : Os) (started : os.Started) (H : Type) (enc : TypeId × Value → H) :
    ReturnsInHanded {} Try.checked os 6 .any (Rows.ghashAddsSpec.pre6 enc Try.prog Try.f6 Rows.ghashAddsRow.domain false) (Rows.ghashAddsSpec.post enc Try.prog Try.f6 false true false false) := by
  refine returnsInHanded_of_change_sized (C := Try.checked) Try.own started (by kernel_rfl) Try.func6
    (ChangeSpec.witness6 (enc := enc) (C := Try.checked) false ⟨#[], #[.agg #[.int .u8 0, .int .u8 0, .int .u8 0, .int .u8 0, .int .u8 0, .int .u8 0, .int .u8 0, .int .u8 0, .int .u8 0, .int .u8 0, .int .u8 0, .int .u8 0, .int .u8 0, .int .u8 0, .int .u8 0, .int .u8 0], .slice none 0 0, .slice none 0 0], []⟩ 8 (by kernel_rfl) (by kernel_rfl) (by kernel_rfl) (by kernel_rfl)) ?_
  intro W base args ds gs before hval0 hW _ hsz0 _
  have hsz : (DataW.weightsEach Try.prog (Try.f6.params.toList ++ Rows.ghashAddsSpec.plain.varTypes Try.prog) (ds ++ gs)).all (· ≤ reachBytes) = true := hsz0
  have hval : ∀ (j : Nat) t v, Try.f6.params[j]? = some t → args[j]? = some v → Value.okWide Try.prog W .any base t v := hval0
  have hW' := hW
  obtain ⟨p, q, hA0, hV, rfl, _, _⟩ := hW
  have hA : DataW.TrodAll enc Try.prog W 0 (fun _ => true) true Try.f6.params.toList args.toList ds p := hA0
  rw [Try.params6] at hA hval hsz
  have hlt := hW'.lt
  clear hA0 hval0 hsz0
  obtain ⟨v0, vs0, d0, ds0, p0, q0, hv0, rfl, rfl, h0, r0⟩ := trodAll_cons hA
  obtain ⟨v1, vs1, d1, ds1, p1, q1, hv1, rfl, rfl, h1, r1⟩ := trodAll_cons r0
  subst hv1
  obtain ⟨v2, vs2, d2, ds2, p2, q2, hv2, rfl, rfl, h2, r2⟩ := trodAll_cons r1
  subst hv2
  obtain ⟨rfl, rfl, rfl⟩ := trodAll_nil r2
  obtain rfl : args = #[v0, v1, v2] := by cases args; simp_all
  obtain ⟨rfl, rfl⟩ := trodVars_none hV
  obtain ⟨f0, rfl, u0⟩ := open_arr_u8 Try.underlying22 Try.underlying5 Try.cellsU8 (by kernel_rfl) (hval 0 22 v0 rfl rfl) h0
  obtain ⟨A1, l1, c1, rfl, rd1, le1, lc1⟩ := open_bytes_cap Try.underlying26 Try.underlying5 Try.cellsU8 (hval 1 26 v1 rfl rfl) h1 (fun x hx => hlt x (by simp [hx])) (fun es sp he => by subst he; have := sized_slice hsz (j := 1) (t := 26) (e := 5) rfl rfl Try.underlying26; rw [Try.bytesU8, Nat.mul_one] at this; exact this)
  obtain ⟨A2, l2, c2, rfl, rd2, le2, lc2⟩ := open_bytes_cap Try.underlying26 Try.underlying5 Try.cellsU8 (hval 2 26 v2 rfl rfl) h2 (fun x hx => hlt x (by simp [hx])) (fun es sp he => by subst he; have := sized_slice hsz (j := 2) (t := 26) (e := 5) rfl rfl Try.underlying26; rw [Try.bytesU8, Nat.mul_one] at this; exact this)
  refine (hadds_any f0 A1 l1 l1.length c1 rfl A2 l2 l2.length c2 rfl W u0 le1 lc1 rd1 le2 lc2 rd2).mono fun e W' ⟨he, hb⟩ => ⟨_, he, ?_⟩
  exact law_post 4 Try.underlying4 (by kernel_rfl) rfl Try.laidOut (by kernel_rfl) hW' ⟨rfl, rfl, rfl⟩ hb

theorem hadds_holds : Rows.GhashAddsSaid :=
  OpenClaim.holds_of_wide 6 Try.f6 rfl rfl rfl rfl rfl rfl rfl ⟨rfl, rfl, rfl, rfl, rfl⟩ rfl rfl rfl rfl rfl (by kernel_rfl) Try.func6 (by kernel_rfl)
    (of_decide_eq_true (by kernel_rfl)) (by unfold Func.isWrapper; first | (rw [if_pos (by decide +kernel)]; kernel_rfl) | (rw [if_neg (by decide +kernel)]; exact ⟨rfl, rfl⟩))
    (fun os started H enc _ => hadds_lifted os started H enc)
end Go.Proofs.Ytojdhcbfjiojdaa
