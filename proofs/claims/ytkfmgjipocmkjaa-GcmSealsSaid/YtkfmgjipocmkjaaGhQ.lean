/-
  The code's hash of two texts. (Printed by wip/gen/ghsum.py.)
-/
import Derived.Test.YtkfmgjipocmkjaaFoldD
namespace Go.Proofs.Ytkfmgjipocmkjaa
open Go Go.RowKit
set_option linter.unusedVariables false
set_option linter.unusedSimpArgs false

theorem over_d (a key : Nat) (ha : a < 2 ^ 128) (hk : key < 2 ^ 128) (A : Option Addr) (l : List Nat) (len cap : Nat) (hn : l.length = len) (hl : ∀ x ∈ l, x < 256) (hlc : len ≤ cap) (hreach : len ≤ 140737488351360) (w : World) (h : Rd w w.heap.size A (vn l)) :
    Calls Try.prog 48 #[.agg (eL a).toArray, .slice A len cap, .agg (eL key).toArray] w fun e w' => e = .returned (.agg (eL (gfrom key a l ((len + 15) / 16))).toArray) ∧ Below w.heap.size w w' :=
  over_any a key ha hk A l len cap hn hl hlc hreach w h
/-- The lengths' element. -/
def gLen (n m : Nat) : Nat := 8 * n * 18446744073709551616 + 8 * m
theorem gLen_hi (n m : Nat) (hm : m ≤ 140737488351360) : gLen n m / 18446744073709551616 = 8 * n := by unfold gLen; omega
theorem gLen_lo (n m : Nat) (hm : m ≤ 140737488351360) : gLen n m % 18446744073709551616 = 8 * m := by unfold gLen; omega
theorem gLen_lt (n m : Nat) (hn : n ≤ 140737488351360) (hm : m ≤ 140737488351360) : gLen n m < 2 ^ 128 := by unfold gLen; omega
theorem gfrom_lt (h a : Nat) (hh : h < 2 ^ 128) (ha : a < 2 ^ 128) (l : List Nat) (n : Nat) : gfrom h a l n < 2 ^ 128 := gpre_lt h a hh ha l _
/-- The hash of two texts. -/
def gS (k : Nat) (a t : List Nat) : Nat := hm (gfrom k (gfrom k 0 a ((a.length + 15) / 16)) t ((t.length + 15) / 16) ^^^ gLen a.length t.length) k

theorem el_new (w : World) (a : Nat) (h : a = 0) : HE (w.alloc (.cells #[.int .u64 0, .int .u64 0] 77)) w.heap.size a := by subst h; exact heap_alloc_new w _

theorem sum_keep {w w1 w' : World} {b9 b8 b7 b6 x9 x8 x7 B0 : Nat} (hb : Below w1.heap.size w1 w') (hB : B0 ≤ w1.heap.size)
    (h : w1.rangeAt b9 0 (eL x9) ∧ w1.rangeAt b8 0 (eL x8) ∧ w1.rangeAt b7 0 (eL x7) ∧ w1.there b6 0 16 ∧ Below B0 w w1) :
    w'.rangeAt b9 0 (eL x9) ∧ w'.rangeAt b8 0 (eL x8) ∧ w'.rangeAt b7 0 (eL x7) ∧ w'.there b6 0 16 ∧ Below B0 w w' :=
  ⟨range_callw hb h.1, range_callw hb h.2.1, range_callw hb h.2.2.1, there_callw hb h.2.2.2.1, h.2.2.2.2.trans (hb.mono hB)⟩
theorem sum_store {w w1 : World} {b9 b8 b7 b6 x9 x8 x7 B0 : Nat} (vs : List Value) (h9 : b9 ≠ b6) (h8 : b8 ≠ b6) (h7 : b7 ≠ b6) (hB : B0 ≤ b6)
    (h : w1.rangeAt b9 0 (eL x9) ∧ w1.rangeAt b8 0 (eL x8) ∧ w1.rangeAt b7 0 (eL x7) ∧ w1.there b6 0 16 ∧ Below B0 w w1) :
    (w1.setCells b6 0 vs).rangeAt b9 0 (eL x9) ∧ (w1.setCells b6 0 vs).rangeAt b8 0 (eL x8) ∧ (w1.setCells b6 0 vs).rangeAt b7 0 (eL x7) ∧ (w1.setCells b6 0 vs).there b6 0 16 ∧ Below B0 w (w1.setCells b6 0 vs) :=
  ⟨World.rangeAt_setCells_apart h.1 _ _ _ (.inl h9), World.rangeAt_setCells_apart h.2.1 _ _ _ (.inl h8), World.rangeAt_setCells_apart h.2.2.1 _ _ _ (.inl h7), World.there_setCells h.2.2.2.1 _ _ _, below_store h.2.2.2.2 hB _ 0⟩

set_option maxRecDepth 100000 in
set_option maxHeartbeats 4000000 in
theorem csum_any (h : Nat → Nat) (hh : B16 h) (A B : Option Addr) (a t : List Nat) (n m ca ct : Nat) (hn : a.length = n) (hm : t.length = m) (ha : ∀ x ∈ a, x < 256) (ht : ∀ x ∈ t, x < 256) (hca : n ≤ ca) (hct : m ≤ ct) (hra : n ≤ 140737488351360) (hrt : m ≤ 140737488351360) (w : World) (h1 : Rd w w.heap.size A (vn a)) (h2 : Rd w w.heap.size B (vn t)) :
    Calls Try.prog 30 #[.agg (aN 16 h), .slice A n ca, .slice B m ct] w fun e w' => e = .returned (.agg (aN 16 (hby (gS (hof h) a t)))) ∧ Below w.heap.size w w' := by
  have hkl := hof_lt h hh
  have H1 := Lib.hid h1; clear h1
  have H2 := Lib.hid h2; clear h2
  have HH := Lib.hid hh; clear hh
  have HA := Lib.hid ha; clear ha
  have HT := Lib.hid ht; clear ht
  obtain ⟨k, hk⟩ : ∃ k, k = hof h := ⟨_, rfl⟩
  rw [← hk] at hkl
  have HKL := Lib.hid hkl; clear hkl
  obtain ⟨k1, hk1⟩ : ∃ k1, k1 = k / 18446744073709551616 := ⟨_, rfl⟩
  obtain ⟨k2, hk2⟩ : ∃ k2, k2 = k % 18446744073709551616 := ⟨_, rfl⟩
  have hek : eV (hof h) = .agg #[.int .u64 (k1 : Int), .int .u64 (k2 : Int)] := by rw [← hk, eV, ← hk1, ← hk2]
  rw [← hk]
  have HEK := Lib.hid (And.intro hk1 hk2); clear hk1 hk2
  have HK := Lib.hid hk; clear hk
  have HHEK := Lib.hid hek; clear hek
  obtain ⟨la, hla⟩ : ∃ la, la = 8 * n := ⟨_, rfl⟩
  obtain ⟨lt, hlt⟩ : ∃ lt, lt = 8 * m := ⟨_, rfl⟩
  have wla : IntKind.u64.wrap (8 * (n : Int)) = (la : Int) := (IntWalk.u64_in _ (by omega)).trans (by omega)
  have wlt : IntKind.u64.wrap (8 * (m : Int)) = (lt : Int) := (IntWalk.u64_in _ (by omega)).trans (by omega)
  have wla2 : (8 * (n : Int)) = (la : Int) := by omega
  have wlt2 : (8 * (m : Int)) = (lt : Int) := by omega
  have HLA := Lib.hid (And.intro hla hlt); clear hla hlt
  have HN := Lib.hid (And.intro hn hm); clear hn hm
  obtain ⟨g1, hg1⟩ : ∃ g1, g1 = gfrom k 0 a ((n + 15) / 16) := ⟨_, rfl⟩
  obtain ⟨g2, hg2⟩ : ∃ g2, g2 = gfrom k g1 t ((m + 15) / 16) := ⟨_, rfl⟩
  have hgl1 : g1 < 2 ^ 128 := by rw [hg1]; exact gfrom_lt _ _ HKL.out (by decide) _ _
  have hgl2 : g2 < 2 ^ 128 := by rw [hg2]; exact gfrom_lt _ _ HKL.out hgl1 _ _
  have hgS : gS k a t = hm (g2 ^^^ gLen n m) k := by rw [gS, HN.out.1, HN.out.2, ← hg1, ← hg2]
  rw [hgS]
  clear hgS
  have HG1 := Lib.hid hg1; clear hg1
  have HG2 := Lib.hid hg2; clear hg2
  have HGL1 := Lib.hid hgl1; clear hgl1
  have HGL2 := Lib.hid hgl2; clear hgl2
  have hlenl := gLen_lt n m hra hrt
  have HLEN := Lib.hid hlenl; clear hlenl
  obtain ⟨L, hL⟩ : ∃ L, L = gLen n m := ⟨_, rfl⟩
  rw [← hL] at HLEN
  rw [← hL]
  have HL := Lib.hid hL; clear hL
  have d0 : H16 ((w.alloc (.cells (aN 16 h) 35)).alloc (.cells (aN 16 fun _ => 0) 35)) w.heap.size h := H16.alloc _ (H16.newAt rfl)
  have d1 : H16 ((w.alloc (.cells (aN 16 h) 35)).alloc (.cells (aN 16 fun _ => 0) 35)) (w.heap.size + 1) fun _ => 0 := H16.newAt (w := w.alloc (.cells (aN 16 h) 35)) (by rw [World.size_alloc])
  have hB : Below w.heap.size w ((w.alloc (.cells (aN 16 h) 35)).alloc (.cells (aN 16 fun _ => 0) 35)) := ((Below.refl _ _).alloc (Nat.le_refl _) _).alloc (by simp) _
  have HB := Lib.hid hB; clear hB
  go_enter Try.func30, Try.ntmps30
  go_wp2_with (refine wpList_load_row rfl 35 (.tmp 3) rfl w.heap.size rfl 35 (aN 16 h) (0, 0) (.array 16 5) d0 Try.underlying35 rfl (by rw [aN_size]; exact blk_size) ?_)
  rw [zero16]
  have D1 := Lib.hid d1; clear d1 d0
  generalize (w.alloc (.cells (aN 16 h) 35)).alloc (.cells (aN 16 fun _ => 0) 35) = w1 at *
  refine (gwords_any h w1 HH.out).mono ?_
  rintro e w2 ⟨he, hb2⟩
  rw [HHEK.out] at he
  subst he
  go_upto_region 3 with fail
  have hs2 : w1.heap.size ≤ w2.heap.size := hb2.size
  have D1b : H16 ((w2.alloc (.cells #[.int .u64 (k1 : Int), .int .u64 (k2 : Int)] 77)).alloc (.cells #[.int .u64 (la : Int), .int .u64 (lt : Int)] 77)) (w.heap.size + 1) fun _ => 0 := H16.alloc _ (H16.alloc _ (D1.out.call hb2))
  have D7 : HE ((w2.alloc (.cells #[.int .u64 (k1 : Int), .int .u64 (k2 : Int)] 77)).alloc (.cells #[.int .u64 (la : Int), .int .u64 (lt : Int)] 77)) w2.heap.size k := by
    unfold HE
    rw [← HEK.out.1, ← HEK.out.2, heap_alloc_old _ _ (by simp)]
    exact heap_alloc_new _ _
  have D8 : HE ((w2.alloc (.cells #[.int .u64 (k1 : Int), .int .u64 (k2 : Int)] 77)).alloc (.cells #[.int .u64 (la : Int), .int .u64 (lt : Int)] 77)) (w2.heap.size + 1) (gLen n m) := by
    unfold HE
    rw [gLen_hi n m hrt, gLen_lo n m hrt, ← HLA.out.1, ← HLA.out.2]
    have := heap_alloc_new (w2.alloc (.cells #[.int .u64 (k1 : Int), .int .u64 (k2 : Int)] 77)) (.cells #[.int .u64 (la : Int), .int .u64 (lt : Int)] 77)
    rw [World.size_alloc] at this
    exact this
  have B3 : Below w.heap.size w ((w2.alloc (.cells #[.int .u64 (k1 : Int), .int .u64 (k2 : Int)] 77)).alloc (.cells #[.int .u64 (la : Int), .int .u64 (lt : Int)] 77)) := ((HB.out.trans (hb2.mono HB.out.size)).alloc (by have := HB.out.size; omega) _).alloc (by have := HB.out.size; simp; omega) _
  have hw61 : w.heap.size + 1 < w1.heap.size := D1.out.lt
  generalize (w2.alloc (.cells #[.int .u64 (k1 : Int), .int .u64 (k2 : Int)] 77)).alloc (.cells #[.int .u64 (la : Int), .int .u64 (lt : Int)] 77) = w3 at *
  obtain ⟨b7, hb7⟩ : ∃ b7, b7 = w2.heap.size := ⟨_, rfl⟩
  have h67 : w.heap.size + 1 < b7 := by omega
  rw [← hb7] at D7 D8
  rw [← hb7]
  clear hb7 hb2 hs2 HB D1 hw61
  have HRA : Hid (Rd w3 w3.heap.size A (vn a)) := Lib.hid ((H1.out.below B3).more B3.size)
  have HRB : Hid (Rd w3 w3.heap.size B (vn t)) := Lib.hid ((H2.out.below B3).more B3.size)
  have H7l : b7 < w3.heap.size := (Array.getElem?_eq_some_iff.1 D7).1
  have HD7 := Lib.hid D7; clear D7
  rw [← HL.out] at D8
  have HD8 := Lib.hid D8; clear D8
  have HD1 := Lib.hid D1b; clear D1b
  have HB3 := Lib.hid B3; clear B3 H1 H2
  obtain ⟨elD, hElD, hRow⟩ : ∃ d, Try.prog.underlying 77 = some d ∧ d.isRow = true := ⟨_, Try.underlying77, rfl⟩
  go_cut [9] (fun s9 wx => ∃ b9 : Nat, s9 = .pointer (some ⟨b9, 0, none⟩) ∧ Hid (HE wx b9 g2) ∧ w3.heap.size ≤ b9 ∧ Hid (Below w3.heap.size w3 wx))
  case first =>
    refine wp_region_noPanic ?_
    refine wp_region_held_drew (S := (fun w' => w'.rangeAt b7 0 (eL k) ∧ Below w3.heap.size w3 w')) (by kernel_rfl) ?_ (fun hHeld => ?_)
    · exact ⟨range_kept ((Below.refl w3.heap.size w3).drew) (HE.range HD7.out), (Below.refl w3.heap.size w3).drew⟩
    refine wpAnyH_take (i := 0) (v := ?_) rfl (by kernel_rfl) (by kernel_rfl) (by kernel_rfl) (fun _ _ _ h => h) (Or.inl ⟨by rfl, ?_⟩) hHeld ?_
    rotate_left
    · intro w' hSw
      (try dsimp only at hSw)
      go_simp
      try with_reducible rfl
    try simp only [Act.put, zq1, zq2, zq3, zq4, zq5, zq6]
    refine wpAnyH_take (i := 1) (v := ?_) rfl (by kernel_rfl) (by kernel_rfl) (by kernel_rfl) (fun _ _ _ h => h) (Or.inl ⟨by rfl, ?_⟩) hHeld ?_
    rotate_left
    · intro w' hSw
      (try dsimp only at hSw)
      go_simp
      try with_reducible rfl
    try simp only [Act.put, zq1, zq2, zq3, zq4, zq5, zq6]
    refine wpAnyH_take (i := 2) rfl (by kernel_rfl) (by kernel_rfl) (by kernel_rfl) (fun _ _ _ h => h) (yieldsIf_load_mid (by rfl) 77 (.tmp 7) rfl (b7) (0) rfl (eL k) elD (fun _ h => h.1) hElD hRow el_info) hHeld ?_
    try simp only [Act.put, zq1, zq2, zq3, zq4, zq5, zq6]
    refine wpAnyH_take (i := 4) (v := ?_) rfl (by kernel_rfl) (by kernel_rfl) (by kernel_rfl) (fun _ _ _ h => h) (Or.inl ⟨by rfl, ?_⟩) hHeld ?_
    rotate_left
    · intro w' hSw
      (try dsimp only at hSw)
      go_simp
      try with_reducible rfl
    try simp only [Act.put, zq1, zq2, zq3, zq4, zq5, zq6]
    refine wpAnyH_take (i := 5) rfl (by kernel_rfl) (by kernel_rfl) (by kernel_rfl) (fun _ _ _ h => h) (yieldsIf_load_mid (by rfl) 77 (.tmp 7) rfl (b7) (0) rfl (eL k) elD (fun _ h => h.1) hElD hRow el_info) hHeld ?_
    try simp only [Act.put, zq1, zq2, zq3, zq4, zq5, zq6]
    refine wpAnyH_ready (rs := [3, 7]) (by kernel_rfl) (by simp) ?_
    refine AllReadyH.cons rfl (fun K hK => ?_) (AllReadyH.cons rfl (fun K hK => ?_) (AllReadyH.nil))
    · try simp only [zq1, zq2, zq3]
      go_simp
      refine (over_d 0 k (by decide) HKL.out A a n ca HN.out.1 HA.out hca hra _ (HRA.out.go ((Below.refl w3.heap.size w3).drew))).mono ?_
      rintro e xp ⟨rfl, hbxp⟩
      rw [← HG1.out]
      have hwxp : Below w3.heap.size w3 xp := ((Below.refl w3.heap.size w3).drew).trans (hbxp.mono ((Below.refl w3.heap.size w3).drew).size)
      refine hK.out _ _ ?_ (fun hHeld => ?_)
      · exact ⟨range_kept (hwxp) (HE.range HD7.out), hwxp⟩
      clear hK K
      try simp only [Act.put, zq1, zq2, zq3, zq4, zq5, zq6]
      refine wpAnyH_ready (rs := [6, 7]) (by kernel_rfl) (by simp) ?_
      refine AllReadyH.cons rfl (fun K hK => ?_) (AllReadyH.cons rfl (fun K hK => ?_) (AllReadyH.nil))
      · try simp only [zq1, zq2, zq3]
        go_simp
        refine (over_d g1 k HGL1.out HKL.out B t m ct HN.out.2 HT.out hct hrt _ (HRB.out.go (hwxp))).mono ?_
        rintro e yp ⟨rfl, hbyp⟩
        rw [← HG2.out]
        have hwyp : Below w3.heap.size w3 yp := (hwxp).trans (hbyp.mono (hwxp).size)
        refine hK.out _ _ ?_ (fun hHeld => ?_)
        · exact ⟨range_kept (hwyp) (HE.range HD7.out), hwyp⟩
        clear hK K
        try simp only [Act.put, zq1, zq2, zq3, zq4, zq5, zq6]
        refine wpAnyH_ready (rs := [7]) (by kernel_rfl) (by simp) ?_
        refine AllReadyH.cons rfl (fun K hK => ?_) (AllReadyH.nil)
        try simp only [zq1, zq2, zq3]
        go_simp
        have hwa2 : Below w3.heap.size w3 ((yp).alloc (.cells #[.int .u64 0, .int .u64 0] 77)) := (hwyp).alloc (hwyp).size _
        have hza2 : HE ((yp).alloc (.cells #[.int .u64 0, .int .u64 0] 77)) (yp).heap.size 0 := el_new _ 0 rfl
        refine hK.out _ _ ?_ (fun hHeld => ?_)
        · exact ⟨range_kept (hwa2) (HE.range HD7.out), hwa2⟩
        clear hK K
        try simp only [Act.put, zq1, zq2, zq3, zq4, zq5, zq6]
        refine wpAnyH_ready (rs := [8]) (by kernel_rfl) (by simp) ?_
        refine AllReadyH.cons rfl (fun K hK => ?_) (AllReadyH.nil)
        try simp only [zq1, zq2, zq3]
        rw [if_pos (by rfl)]
        refine wp_store_mid 77 (.tmp 9) (.tmp 27) rfl ((yp).heap.size) (0) (eL g2).toArray rfl rfl (HE.there (b := (yp).heap.size) (hza2)) el_info (el_one _) ?_
        simp only [Act.put, zq1, zq2, zq3, zq4, zq5, zq6, List.toList_toArray]
        refine hK.out _ _ ?_ (fun hHeld => ?_)
        · exact ⟨range_kept ((below_store (b := (yp).heap.size) (hwa2) ((hwyp).size) _ 0)) (HE.range HD7.out), (below_store (b := (yp).heap.size) (hwa2) ((hwyp).size) _ 0)⟩
        clear hK K
        try simp only [Act.put, zq1, zq2, zq3, zq4, zq5, zq6]
        refine wpAnyH_done (by kernel_rfl) ?_ _
        refine NoPanic.normal ?_
        go_wp2_with fail
        go_meet
        refine ⟨_, rfl, Lib.hid ?_, ?_, Lib.hid ?_⟩
        · exact HE.store (b := (yp).heap.size) (hza2) _
        · exact (hwyp).size
        · exact (below_store (b := (yp).heap.size) (hwa2) ((hwyp).size) _ 0)
      · try simp only [zq1, zq2, zq3]
        go_simp
        have hwa1 : Below w3.heap.size w3 ((xp).alloc (.cells #[.int .u64 0, .int .u64 0] 77)) := (hwxp).alloc (hwxp).size _
        have hza1 : HE ((xp).alloc (.cells #[.int .u64 0, .int .u64 0] 77)) (xp).heap.size 0 := el_new _ 0 rfl
        refine hK.out _ _ ?_ (fun hHeld => ?_)
        · exact ⟨range_kept (hwa1) (HE.range HD7.out), hwa1⟩
        clear hK K
        try simp only [Act.put, zq1, zq2, zq3, zq4, zq5, zq6]
        refine wpAnyH_ready (rs := [6]) (by kernel_rfl) (by simp) ?_
        refine AllReadyH.cons rfl (fun K hK => ?_) (AllReadyH.nil)
        try simp only [zq1, zq2, zq3]
        go_simp
        refine (over_d g1 k HGL1.out HKL.out B t m ct HN.out.2 HT.out hct hrt _ (HRB.out.go (hwa1))).mono ?_
        rintro e yq1 ⟨rfl, hbyq1⟩
        rw [← HG2.out]
        have hwyq1 : Below w3.heap.size w3 yq1 := (hwa1).trans (hbyq1.mono (hwa1).size)
        have hzyq1 := HE.call hbyq1 (hza1)
        refine hK.out _ _ ?_ (fun hHeld => ?_)
        · exact ⟨range_kept (hwyq1) (HE.range HD7.out), hwyq1⟩
        clear hK K
        try simp only [Act.put, zq1, zq2, zq3, zq4, zq5, zq6]
        refine wpAnyH_ready (rs := [8]) (by kernel_rfl) (by simp) ?_
        refine AllReadyH.cons rfl (fun K hK => ?_) (AllReadyH.nil)
        try simp only [zq1, zq2, zq3]
        rw [if_pos (by rfl)]
        refine wp_store_mid 77 (.tmp 9) (.tmp 27) rfl ((xp).heap.size) (0) (eL g2).toArray rfl rfl (HE.there (b := (xp).heap.size) (hzyq1)) el_info (el_one _) ?_
        simp only [Act.put, zq1, zq2, zq3, zq4, zq5, zq6, List.toList_toArray]
        refine hK.out _ _ ?_ (fun hHeld => ?_)
        · exact ⟨range_kept ((below_store (b := (xp).heap.size) (hwyq1) ((hwxp).size) _ 0)) (HE.range HD7.out), (below_store (b := (xp).heap.size) (hwyq1) ((hwxp).size) _ 0)⟩
        clear hK K
        try simp only [Act.put, zq1, zq2, zq3, zq4, zq5, zq6]
        refine wpAnyH_done (by kernel_rfl) ?_ _
        refine NoPanic.normal ?_
        go_wp2_with fail
        go_meet
        refine ⟨_, rfl, Lib.hid ?_, ?_, Lib.hid ?_⟩
        · exact HE.store (b := (xp).heap.size) (hzyq1) _
        · exact (hwxp).size
        · exact (below_store (b := (xp).heap.size) (hwyq1) ((hwxp).size) _ 0)
    · try simp only [zq1, zq2, zq3]
      go_simp
      have hwa0 : Below w3.heap.size w3 ((w3.drew).alloc (.cells #[.int .u64 0, .int .u64 0] 77)) := ((Below.refl w3.heap.size w3).drew).alloc ((Below.refl w3.heap.size w3).drew).size _
      have hza0 : HE ((w3.drew).alloc (.cells #[.int .u64 0, .int .u64 0] 77)) (w3.drew).heap.size 0 := el_new _ 0 rfl
      refine hK.out _ _ ?_ (fun hHeld => ?_)
      · exact ⟨range_kept (hwa0) (HE.range HD7.out), hwa0⟩
      clear hK K
      try simp only [Act.put, zq1, zq2, zq3, zq4, zq5, zq6]
      refine wpAnyH_ready (rs := [3]) (by kernel_rfl) (by simp) ?_
      refine AllReadyH.cons rfl (fun K hK => ?_) (AllReadyH.nil)
      try simp only [zq1, zq2, zq3]
      go_simp
      refine (over_d 0 k (by decide) HKL.out A a n ca HN.out.1 HA.out hca hra _ (HRA.out.go (hwa0))).mono ?_
      rintro e xq0 ⟨rfl, hbxq0⟩
      rw [← HG1.out]
      have hwxq0 : Below w3.heap.size w3 xq0 := (hwa0).trans (hbxq0.mono (hwa0).size)
      have hzxq0 := HE.call hbxq0 (hza0)
      refine hK.out _ _ ?_ (fun hHeld => ?_)
      · exact ⟨range_kept (hwxq0) (HE.range HD7.out), hwxq0⟩
      clear hK K
      try simp only [Act.put, zq1, zq2, zq3, zq4, zq5, zq6]
      refine wpAnyH_ready (rs := [6]) (by kernel_rfl) (by simp) ?_
      refine AllReadyH.cons rfl (fun K hK => ?_) (AllReadyH.nil)
      try simp only [zq1, zq2, zq3]
      go_simp
      refine (over_d g1 k HGL1.out HKL.out B t m ct HN.out.2 HT.out hct hrt _ (HRB.out.go (hwxq0))).mono ?_
      rintro e yq0 ⟨rfl, hbyq0⟩
      rw [← HG2.out]
      have hwyq0 : Below w3.heap.size w3 yq0 := (hwxq0).trans (hbyq0.mono (hwxq0).size)
      have hzyq0 := HE.call hbyq0 (hzxq0)
      refine hK.out _ _ ?_ (fun hHeld => ?_)
      · exact ⟨range_kept (hwyq0) (HE.range HD7.out), hwyq0⟩
      clear hK K
      try simp only [Act.put, zq1, zq2, zq3, zq4, zq5, zq6]
      refine wpAnyH_ready (rs := [8]) (by kernel_rfl) (by simp) ?_
      refine AllReadyH.cons rfl (fun K hK => ?_) (AllReadyH.nil)
      try simp only [zq1, zq2, zq3]
      rw [if_pos (by rfl)]
      refine wp_store_mid 77 (.tmp 9) (.tmp 27) rfl (w3.heap.size) (0) (eL g2).toArray rfl rfl (HE.there (b := w3.heap.size) (hzyq0)) el_info (el_one _) ?_
      simp only [Act.put, zq1, zq2, zq3, zq4, zq5, zq6, List.toList_toArray]
      refine hK.out _ _ ?_ (fun hHeld => ?_)
      · exact ⟨range_kept ((below_store (b := w3.heap.size) (hwyq0) (((Below.refl w3.heap.size w3).drew).size) _ 0)) (HE.range HD7.out), (below_store (b := w3.heap.size) (hwyq0) (((Below.refl w3.heap.size w3).drew).size) _ 0)⟩
      clear hK K
      try simp only [Act.put, zq1, zq2, zq3, zq4, zq5, zq6]
      refine wpAnyH_done (by kernel_rfl) ?_ _
      refine NoPanic.normal ?_
      go_wp2_with fail
      go_meet
      refine ⟨_, rfl, Lib.hid ?_, ?_, Lib.hid ?_⟩
      · exact HE.store (b := w3.heap.size) (hzyq0) _
      · exact ((Below.refl w3.heap.size w3).drew).size
      · exact (below_store (b := w3.heap.size) (hwyq0) (((Below.refl w3.heap.size w3).drew).size) _ 0)

  case rest =>
    obtain ⟨b9, rfl, H9, hb9, hw⟩ := hcut
    have h7' : HE wc b7 k := (hw.out.block b7 H7l).trans HD7.out
    have h8' : HE wc (b7 + 1) L := (hw.out.block (b7 + 1) (Array.getElem?_eq_some_iff.1 HD8.out).1).trans HD8.out
    have h6' : H16 wc (w.heap.size + 1) fun _ => 0 := HD1.out.below hw.out HD1.out.lt
    have hB' : Below w.heap.size w wc := HB3.out.trans (hw.out.mono HB3.out.size)
    go_upto_region 4 with fail
    refine wp_region_noPanic ?_
    refine wp_region_held_drew (S := (fun w' => w'.rangeAt b9 0 (eL g2) ∧ w'.rangeAt (b7 + 1) 0 (eL L) ∧ w'.rangeAt b7 0 (eL k) ∧ w'.there (w.heap.size + 1) 0 16 ∧ Below w.heap.size w w')) (by kernel_rfl) ?_ (fun hHeld => ?_)
    · exact ⟨HE.range H9.out, HE.range h8', HE.range h7', h6'.there, hB'.drew⟩
    refine wpAnyH_take (i := 0) rfl (by kernel_rfl) (by kernel_rfl) (by kernel_rfl) (fun _ _ _ h => h) (yieldsIf_load_mid (by rfl) 77 (.tmp 9) rfl (b9) (0) rfl (eL g2) elD (fun _ h => h.1) hElD hRow el_info) hHeld ?_
    try simp only [Act.put, zq1, zq2, zq3, zq4, zq5, zq6]
    refine wpAnyH_take (i := 1) rfl (by kernel_rfl) (by kernel_rfl) (by kernel_rfl) (fun _ _ _ h => h) (yieldsIf_load_mid (by rfl) 77 (.tmp 8) rfl (b7 + 1) (0) rfl (eL L) elD (fun _ h => h.2.1) hElD hRow el_info) hHeld ?_
    try simp only [Act.put, zq1, zq2, zq3, zq4, zq5, zq6]
    refine wpAnyH_take (i := 3) rfl (by kernel_rfl) (by kernel_rfl) (by kernel_rfl) (fun _ _ _ h => h) (yieldsIf_load_mid (by rfl) 77 (.tmp 7) rfl (b7) (0) rfl (eL k) elD (fun _ h => h.2.2.1) hElD hRow el_info) hHeld ?_
    try simp only [Act.put, zq1, zq2, zq3, zq4, zq5, zq6]
    refine wpAnyH_ready (rs := [2]) (by kernel_rfl) (by simp) ?_
    refine AllReadyH.cons rfl (fun K hK => ?_) (AllReadyH.nil)
    try simp only [zq1, zq2, zq3]
    go_simp
    refine (gplus_d g2 L _ HGL2.out HLEN.out).mono ?_
    rintro e wa ⟨rfl, hbwa⟩
    refine hK.out _ _ ?_ (fun hHeld => ?_)
    · exact sum_keep hbwa hHeld.2.2.2.2.size hHeld
    clear hK K
    try simp only [Act.put, zq1, zq2, zq3, zq4, zq5, zq6]
    refine wpAnyH_ready (rs := [4]) (by kernel_rfl) (by simp) ?_
    refine AllReadyH.cons rfl (fun K hK => ?_) (AllReadyH.nil)
    try simp only [zq1, zq2, zq3]
    go_simp
    refine (gtimes_d (g2 ^^^ L) k _ (Nat.xor_lt_two_pow HGL2.out HLEN.out) HKL.out).mono ?_
    rintro e wb ⟨rfl, hbwb⟩
    refine hK.out _ _ ?_ (fun hHeld => ?_)
    · exact sum_keep hbwb hHeld.2.2.2.2.size hHeld
    clear hK K
    try simp only [Act.put, zq1, zq2, zq3, zq4, zq5, zq6]
    refine wpAnyH_ready (rs := [5]) (by kernel_rfl) (by simp) ?_
    refine AllReadyH.cons rfl (fun K hK => ?_) (AllReadyH.nil)
    try simp only [zq1, zq2, zq3]
    go_simp
    refine (gbytes_d (hm (g2 ^^^ L) k) _ (hm_lt _ _ HKL.out)).mono ?_
    rintro e wd ⟨rfl, hbwd⟩
    rw [aN_vl 16 (hby (hm (g2 ^^^ L) k))]
    refine hK.out _ _ ?_ (fun hHeld => ?_)
    · exact sum_keep hbwd hHeld.2.2.2.2.size hHeld
    clear hK K
    try simp only [Act.put, zq1, zq2, zq3, zq4, zq5, zq6]
    refine wpAnyH_ready (rs := [6]) (by kernel_rfl) (by simp) ?_
    refine AllReadyH.cons rfl (fun K hK => ?_) (AllReadyH.nil)
    try simp only [zq1, zq2, zq3]
    rw [if_pos (by rfl)]
    refine wp_store_mid 35 (.tmp 6) (.tmp 33) rfl (w.heap.size + 1) (0) (vl 16 (hby (hm (g2 ^^^ L) k))).toArray rfl rfl hHeld.2.2.2.1 (by rw [List.size_toArray, vl_len]; exact blk_size) (all_oneCell_toArray (vl_one _ _)) ?_
    simp only [Act.put, zq1, zq2, zq3, zq4, zq5, zq6, List.toList_toArray]
    refine hK.out _ _ ?_ (fun hHeld => ?_)
    · exact sum_store _ (by omega) (by omega) (by omega) (by omega) hHeld
    clear hK K
    try simp only [Act.put, zq1, zq2, zq3, zq4, zq5, zq6]
    refine wpAnyH_done (by kernel_rfl) ?_ _
    refine NoPanic.normal ?_
    have H4' : H16 (wd.setCells (w.heap.size + 1) 0 (vl 16 (hby (hm (g2 ^^^ L) k)))) (w.heap.size + 1) (hby (hm (g2 ^^^ L) k)) := H16.store ((((h6' : H16 wc.drew _ _).call hbwa).call hbwb).call hbwd) _
    have HB' := hHeld.2.2.2.2
    clear hHeld
    generalize wd.setCells (w.heap.size + 1) 0 (vl 16 (hby (hm (g2 ^^^ L) k))) = wz at *
    go_wp2_with fail
    exact bodyPost_ret (blk_ret (p := 6) (by kernel_rfl) _ _ (w.heap.size + 1) _ rfl H4') rfl ⟨rfl, HB'⟩

end Go.Proofs.Ytkfmgjipocmkjaa
