/-
  The document's hash of two texts (layer 4). (Printed by wip/gen/ghref.py.)
-/
import Derived.Test.YtkfmgjipocmkjaaFoldE
import Derived.Test.YtkfmgjipocmkjaaFoldC
import Derived.Test.YtkfmgjipocmkjaaFoldD
import Derived.Deep.DeepCutAuto
namespace Go.Proofs.Ytkfmgjipocmkjaa
open Go Go.RowKit
set_option linter.unusedVariables false
set_option linter.unusedSimpArgs false

/-- The first k bytes of a block, noughts behind. -/
def blkK (f : Nat → Nat) (k i : Nat) : Nat := if i < k then f i else 0
set_option maxRecDepth 100000 in
set_option maxHeartbeats 8000000 in
theorem rsum_any (h : Nat → Nat) (hh : B16 h) (A B : Option Addr) (a t : List Nat) (n m ca ct : Nat) (hn : a.length = n) (hm : t.length = m) (ha : ∀ x ∈ a, x < 256) (ht : ∀ x ∈ t, x < 256) (hra : n ≤ 100000) (hrt : m ≤ 100000) (w : World) (h1 : Rd w w.heap.size A (vn a)) (h2 : Rd w w.heap.size B (vn t)) :
    Calls Try.prog 34 #[.agg (aN 16 h), .slice A n ca, .slice B m ct] w fun e w' => e = .returned (.agg (aN 16 (hby (gS (hof h) a t)))) ∧ Below w.heap.size w w' := by
  obtain ⟨i0, hi0, hz0, hz1, hz2⟩ := info_parts info_b
  have HI0 := Lib.hid (And.intro hi0 (And.intro hz0 (And.intro hz1 hz2))); clear hi0 hz0 hz1 hz2
  have H1 := Lib.hid h1; clear h1
  have H2 := Lib.hid h2; clear h2
  have HH := Lib.hid hh; clear hh
  have HT := Lib.hid (And.intro ha ht); clear ha ht
  have HN := Lib.hid (And.intro hn hm); clear hn hm
  have hlkn : lackN n < 16 := by unfold lackN; omega
  have hlkm : lackN m < 16 := by unfold lackN; omega
  obtain ⟨fa, hfa⟩ : ∃ fa, fa = n + lackN n := ⟨_, rfl⟩
  obtain ⟨ft, hft⟩ : ∃ ft, ft = m + lackN m := ⟨_, rfl⟩
  have lfa : fa ≤ 100016 := by omega
  have lft : ft ≤ 100016 := by omega
  have HFA := Lib.hid (And.intro hfa hft); clear hfa hft hlkn hlkm
  obtain ⟨la, hla⟩ : ∃ la, la = 8 * n := ⟨_, rfl⟩
  obtain ⟨lt, hlt⟩ : ∃ lt, lt = 8 * m := ⟨_, rfl⟩
  have wla : IntKind.u64.wrap (8 * (n : Int)) = (la : Int) := (IntWalk.u64_in _ (by omega)).trans (by omega)
  have wlt : IntKind.u64.wrap (8 * (m : Int)) = (lt : Int) := (IntWalk.u64_in _ (by omega)).trans (by omega)
  have wla2 : (8 * (n : Int)) = (la : Int) := by omega
  have wlt2 : (8 * (m : Int)) = (lt : Int) := by omega
  have lla : la < 18446744073709551616 := by omega
  have llt : lt < 18446744073709551616 := by omega
  have HLA := Lib.hid (And.intro hla hlt); clear hla hlt
  have d0 : H16 ((w.alloc (.cells (aN 16 h) 35)).alloc (.cells (aN 16 fun _ => 0) 35)) w.heap.size h := H16.alloc _ (H16.newAt rfl)
  have d1 : H16 ((w.alloc (.cells (aN 16 h) 35)).alloc (.cells (aN 16 fun _ => 0) 35)) (w.heap.size + 1) fun _ => 0 := H16.newAt (w := w.alloc (.cells (aN 16 h) 35)) (by rw [World.size_alloc])
  have hB : Below w.heap.size w ((w.alloc (.cells (aN 16 h) 35)).alloc (.cells (aN 16 fun _ => 0) 35)) := ((Below.refl _ _).alloc (Nat.le_refl _) _).alloc (by simp) _
  have HB := Lib.hid hB; clear hB
  have D0 := Lib.hid d0; clear d0
  have D1 := Lib.hid d1; clear d1
  have hle1 : n ≤ 1000000 := by omega
  have hle2 : m ≤ 1000000 := by omega
  go_enter Try.func34, Try.ntmps34
  go_wp2_with fail
  rw [zero16]
  generalize (w.alloc (.cells (aN 16 h) 35)).alloc (.cells (aN 16 fun _ => 0) 35) = w1 at *
  refine (gfull_any A a n ca HN.out.1 hle1 w1 ((H1.out.below HB.out).more HB.out.size)).mono ?_
  rintro e w2 ⟨v2, rfl, ho2, hb2⟩
  rw [← HFA.out.1] at ho2
  have HO2 := Lib.hid ho2; clear ho2
  have s12 : w1.heap.size ≤ w2.heap.size := hb2.size
  have HB2 : Hid (Below w1.heap.size w1 w2) := Lib.hid hb2
  clear hb2
  go_wp2_with fail
  refine (gfull_any B t m ct HN.out.2 hle2 w2 ((((H2.out.below HB.out).more HB.out.size).below HB2.out).more HB2.out.size)).mono ?_
  rintro e w3 ⟨v3, rfl, ho3, hb3⟩
  rw [← HFA.out.2] at ho3
  obtain ⟨A3, c3, rfl, _, hr3⟩ := Rd.of_own ho3
  have HR3 := Lib.hid hr3; clear hr3 ho3
  have HO3 := Lib.hid (own_below HO2.out hb3); clear HO2
  have HB3 : Hid (Below w1.heap.size w1 w3) := Lib.hid (HB2.out.trans (hb3.mono s12))
  have s13 : w1.heap.size ≤ w3.heap.size := Nat.le_trans s12 hb3.size
  clear hb3 HB2
  go_wp2_with (at_builtin; go_loud (refine wpList_append_all rfl (.tmp 18) (.tmp 20) _ rfl w1.heap.size 5 i0 (.int .u8 0) 1 Try.underlying22 HI0.out.1 HI0.out.2.1 HI0.out.2.2.1 HI0.out.2.2.2 rfl v2 fa (vn (fullN a)) rfl HO3.out A3 ft c3 (vn (fullN t)) rfl (by rw [vn_len, fullN_len, HN.out.2, ← HFA.out.2]) HR3.out (nums_one _) (by unfold maxLen; omega) (by omega) (by omega) ?_; intro v4 w4 ho4 hb4 hg4))
  have HB4 : Hid (Below w1.heap.size w1 w4) := Lib.hid (HB3.out.trans hb4.out)
  have s14 : w1.heap.size ≤ w4.heap.size := HB4.out.size
  clear HB3 HO3 HR3 hb4 hg4 s12 s13
  refine (rof_any la 8 w4 lla (by decide) (by decide)).mono ?_
  rintro e w5 ⟨v5, rfl, ho5, hb5⟩
  obtain ⟨A5, c5, rfl, _, _⟩ := Rd.of_own ho5
  have HO5 := Lib.hid ho5; clear ho5
  have HO4 := Lib.hid (own_below ho4.out hb5); clear ho4
  have HB5 : Hid (Below w1.heap.size w1 w5) := Lib.hid (HB4.out.trans (hb5.mono s14))
  have s45 : w4.heap.size ≤ w5.heap.size := hb5.size
  clear hb5 HB4
  go_wp2_with fail
  refine (rof_any lt 8 w5 llt (by decide) (by decide)).mono ?_
  rintro e w6 ⟨v6, rfl, ho6, hb6⟩
  obtain ⟨A6, c6, rfl, _, _⟩ := Rd.of_own ho6
  have HO6 := Lib.hid ho6; clear ho6
  have hn6 : some w4.heap.size ≠ none := by simp
  have h64 : ∀ b, (Value.slice A6 8 c6).ownBlock = some b → v4.ownBlock ≠ some b := fun b e6 e4 => by
    have := HO6.out.lt b e6
    have := HO4.out.lt b e4
    omega
  have HR5 : Hid (Rd w6 w6.heap.size A5 (vn (beN la))) := Lib.hid (by
    have o5 := own_below HO5.out hb6
    rw [vb_be] at o5
    obtain ⟨A5', c5', e5, _, r5⟩ := Rd.of_own o5
    cases e5
    exact r5)
  have HO4b := Lib.hid (own_below HO4.out hb6); clear HO4 HO5
  have HB6 : Hid (Below w1.heap.size w1 w6) := Lib.hid (HB5.out.trans (hb6.mono (Nat.le_trans s14 s45)))
  have s16 : w1.heap.size ≤ w6.heap.size := HB6.out.size
  have H64 := Lib.hid h64; clear h64 hb6 HB5 hn6
  go_upto_region 6 with (at_builtin; go_loud (refine wpList_append_all rfl (.tmp 38) (.tmp 39) _ rfl w1.heap.size 5 i0 (.int .u8 0) 1 Try.underlying22 HI0.out.1 HI0.out.2.1 HI0.out.2.2.1 HI0.out.2.2.2 rfl v4 (fa + ft) (vn (fullN a) ++ vn (fullN t)) rfl HO4b.out A5 8 c5 (vn (beN la)) rfl (by rw [vn_len, beN_len]) HR5.out (nums_one _) (by unfold maxLen; omega) (by omega) (by omega) ?_; intro v7 w7 ho7 hb7 hg7))
  have HB7 : Hid (Below w1.heap.size w1 w7) := Lib.hid (HB6.out.trans hb7.out)
  have s17 : w1.heap.size ≤ w7.heap.size := HB7.out.size
  have HR6 : Hid (Rd w7 w7.heap.size A6 (vn (beN lt))) := Lib.hid (by
    have o6 := World.ownsRow.kept HO6.out hg7.out (by
      rcases ho : (Value.slice A6 8 c6).ownBlock with _ | b
      · exact .inl rfl
      · exact .inr (fun e => H64.out b ho e.symm))
    rw [vb_be] at o6
    obtain ⟨A6', c6', e6, _, r6⟩ := Rd.of_own o6
    cases e6
    exact r6)
  clear HO6 HO4b HR5 HB6 hb7 hg7 H64
  go_wp2_with (at_builtin; go_loud (refine wpList_append_all rfl (.tmp 41) (.tmp 42) _ rfl w1.heap.size 5 i0 (.int .u8 0) 1 Try.underlying22 HI0.out.1 HI0.out.2.1 HI0.out.2.2.1 HI0.out.2.2.2 rfl v7 (fa + ft + 8) ((vn (fullN a) ++ vn (fullN t)) ++ vn (beN la)) rfl ho7.out A6 8 c6 (vn (beN lt)) rfl (by rw [vn_len, beN_len]) HR6.out (nums_one _) (by unfold maxLen; omega) (by omega) (by omega) ?_; intro v8 w8 ho8 hb8 hg8))
  obtain ⟨A8, c8, rfl, _, r8⟩ := Rd.of_own ho8.out
  have eAll : ((vn (fullN a) ++ vn (fullN t)) ++ vn (beN la)) ++ vn (beN lt) = vn (gAll a t) := by
    unfold gAll; rw [HN.out.1, HN.out.2, ← HLA.out.1, ← HLA.out.2]; simp [vn]
  rw [eAll] at r8
  obtain ⟨L, hL⟩ : ∃ L, L = fa + ft + 8 + 8 := ⟨_, rfl⟩
  rw [← hL]
  obtain ⟨N, hN⟩ : ∃ N, N = gN n m := ⟨_, rfl⟩
  have hlen : (gAll a t).length = 16 * N := by rw [gAll_len, HN.out.1, HN.out.2, hN]
  have hLN : L = 16 * N := by rw [hL, HFA.out.1, HFA.out.2, hN]; unfold gN lackN; omega
  have hLb : L ≤ 200100 := by rw [hL]; omega
  have hN1 : 1 ≤ N := by rw [hN]; unfold gN; omega
  obtain ⟨ad, rfl, hab, hac⟩ := r8 (by rw [vn_len, hlen]; omega)
  have hres : gS (hof h) a t = gfrom (hof h) 0 (gAll a t) N := by
    rw [hN, ← HN.out.1, ← HN.out.2, gAll_sum _ _ _ (by rw [HN.out.1]; omega) (by rw [HN.out.2]; omega)]
  have HRES := Lib.hid hres; clear hres
  have HALT := Lib.hid (gAll_lt a t HT.out.1 HT.out.2)
  have HC : Hid (∀ j kk, j < N → kk < 16 → w8.cell? (ad.add (16 * j + kk)) = some (.int .u8 (gblk (gAll a t) j kk : Int))) := Lib.hid fun j kk hj hk => by
    refine hac (16 * j + kk) _ ?_
    have hl : 16 * j + kk < (gAll a t).length := by rw [hlen]; omega
    simp [vn, gblk, hl]
  have HAB := Lib.hid hab; clear hab hac
  have HB8 : Hid (Below w1.heap.size w1 w8) := Lib.hid (HB7.out.trans hb8.out)
  have E3 : H16 w8 w.heap.size h := D0.out.below HB8.out D0.out.lt
  have E6 : H16 w8 (w.heap.size + 1) fun _ => 0 := D1.out.below HB8.out D1.out.lt
  have hBw : Below w.heap.size w w8 := HB.out.trans (HB8.out.mono HB.out.size)
  have HE3 := Lib.hid E3; clear E3
  have HE6 := Lib.hid E6; clear E6
  have HBW := Lib.hid hBw; clear hBw
  have HHN := Lib.hid hN; clear hN
  have HLL := Lib.hid hL; clear hL
  have HLN := Lib.hid hLN; clear hLN
  have HLEN := Lib.hid hlen; clear hlen eAll r8 ho8 hb8 hg8 HB8 HB7 HR6 ho7 s17 s16 s45 s14 HN HT HFA HLA wla wlt wla2 wlt2 lla llt H1 H2 D0 D1 HB HI0
  obtain ⟨all, hall⟩ : ∃ all, all = gAll a t := ⟨_, rfl⟩
  rw [← hall] at HRES HALT HC
  clear hall
  obtain ⟨K, hK⟩ : ∃ K, K = hof h := ⟨_, rfl⟩
  have hKl : K < 2 ^ 128 := by rw [hK]; exact hof_lt h HH.out
  have HKL := Lib.hid hKl; clear hKl
  rw [← hK] at HRES
  have HK := Lib.hid hK; clear hK
  rw [zero16]
  obtain ⟨b12, hb12⟩ : ∃ b12, b12 = w8.heap.size := ⟨_, rfl⟩
  have F12 : H16 (w8.alloc (.cells (aN 16 fun _ => 0) 35)) b12 fun _ => 0 := H16.newAt hb12
  have FB : Below w8.heap.size w8 (w8.alloc (.cells (aN 16 fun _ => 0) 35)) := (Below.refl _ _).alloc (Nat.le_refl _) _
  generalize w8.alloc (.cells (aN 16 fun _ => 0) 35) = w9 at *
  rw [← hb12]
  have h3l : w.heap.size < b12 := by rw [hb12]; exact HE3.out.lt
  have h6l : w.heap.size + 1 < b12 := by rw [hb12]; exact HE6.out.lt
  have HB12 := Lib.hid hb12; clear hb12
  go_loopw [13] (fun i wr => ∃ j : Nat, j ≤ N ∧ i = .int .i64 (16 * j : Nat) ∧ Hid (H16 wr b12 (hby (gfrom K 0 all j))) ∧ Hid (Below w8.heap.size w8 wr)) (fun i _ => 16 * N - (intOf i).toNat)
  case atStart => exact ⟨0, by omega, rfl, Lib.hid (F12.congr fun i _ => by rw [gfrom_zero]; simp [hby]), Lib.hid FB⟩
  case round =>
    clear F12 FB
    obtain ⟨j, hj, rfl, H12, HBr⟩ := hrel
    obtain ⟨q, hq⟩ : ∃ q, q = 16 * j := ⟨_, rfl⟩
    rw [← hq]
    by_cases hlt : j < N
    · have hqL : q < L := by have := HLN.out; omega
      have hqL16 : q + 16 ≤ L := by have := HLN.out; omega
      have HQ := Lib.hid hq; clear hq
      obtain ⟨b14, hb14⟩ : ∃ b14, b14 = wr.heap.size := ⟨_, rfl⟩
      have h1214 : b12 < b14 := by rw [hb14]; exact H12.out.lt
      have G14 : H16 (wr.alloc (.cells (aN 16 fun _ => 0) 35)) b14 fun _ => 0 := H16.newAt hb14
      have G12 := H16.alloc (.cells (aN 16 fun _ => 0) 35) H12.out
      have GB : Below w8.heap.size w8 (wr.alloc (.cells (aN 16 fun _ => 0) 35)) := HBr.out.alloc HBr.out.size _
      have hle8 : w8.heap.size ≤ b12 := by have := HB12.out; omega
      have HG14 := Lib.hid G14; clear G14
      have HG12 := Lib.hid G12; clear G12
      have HGB := Lib.hid GB; clear GB
      have HB14 := Lib.hid hb14
      go_wp2_with fail
      rw [zero16]
      generalize wr.alloc (.cells (aN 16 fun _ => 0) 35) = w10 at *
      rw [← hb14]
      clear hb14 HB14 H12 HBr
      clear wr
      go_loopw [15] (fun i2 wr2 => ∃ kk : Nat, kk ≤ 16 ∧ i2 = .int .i64 (kk : Int) ∧ Hid (H16 wr2 b14 (blkK (gblk all j) kk)) ∧ Hid (H16 wr2 b12 (hby (gfrom K 0 all j))) ∧ Hid (Below w8.heap.size w8 wr2)) (fun i _ => 16 - (intOf i).toNat)
      case atStart => exact ⟨0, by omega, rfl, Lib.hid (HG14.out.congr fun i _ => by simp [blkK]), HG12, HGB⟩
      case round =>
        clear HG14 HG12 HGB
        obtain ⟨kk, hkk, rfl, H14, H12, HBr⟩ := hrel
        by_cases hk16 : kk < 16
        · have hki : (kk : Int) < 16 := by omega
          have cA : wr.cell? (ad.add (q + kk)) = some (.int .u8 (gblk all j kk : Int)) := by
            rw [HBr.out.cell (by rw [add_block]; exact HAB.out), HQ.out]
            exact HC.out j kk hlt hk16
          have cB := H14.out.cell kk hk16
          have cF := H14.out.free kk
          have hwr : IntKind.i64.wrap ((q : Int) + (kk : Int)) = (q : Int) + (kk : Int) := IntWalk.i64_in _ (by omega)
          have hidx : (q : Int) + (kk : Int) < (L : Int) := by omega
          have hidx0 : (0 : Int) ≤ (q : Int) + (kk : Int) := by omega
          have hidn : ((q : Int) + (kk : Int)).toNat = q + kk := by omega
          go_wp2_with fail
          go_roundw
          case rel =>
            refine ⟨kk + 1, by omega, by go_num, Lib.hid ?_, Lib.hid (H12.out.other _ (by simp; omega) _), Lib.hid (HBr.out.setCell (by simp; omega) _)⟩
            exact H14.out.set kk _ hk16 (by simp [blkK]) fun i hi hne => by
              unfold blkK
              by_cases h1 : i < kk
              · rw [if_pos h1, if_pos (by omega)]
              · rw [if_neg h1, if_neg (by omega)]
          case measure => simp [intOf]; omega
        · obtain rfl : kk = 16 := by omega
          have h14' : H16 wr b14 (gblk all j) := H14.out.congr fun i hi => by simp [blkK, hi]
          have h3' : H16 wr w.heap.size h := HE3.out.below HBr.out HE3.out.lt
          obtain ⟨S, hS⟩ : ∃ S, S = gfrom K 0 all j := ⟨_, rfl⟩
          have hSl : S < 2 ^ 128 := by rw [hS]; exact gfrom_lt _ _ HKL.out (by decide) _ _
          have h12' : H16 wr b12 (hby S) := by rw [hS]; exact H12.out
          have hgB : B16 (gblk all j) := gblk_lt all HALT.out j
          have hsB : B16 (hby S) := fun i _ => hby_lt S i
          have hxB : B16 (fun i => hby S i ^^^ gblk all j i) := fun i hi => Nat.xor_lt_two_pow (n := 8) (hsB i hi) (hgB i hi)
          have heq : hm (hof fun i => hby S i ^^^ gblk all j i) (hof h) = gfrom K 0 all (j + 1) := by
            rw [gfrom_succ, ← hS, HK.out, hof_xor _ _ hsB hgB, hby_hof S hSl]
          have HEQ := Lib.hid heq; clear heq
          have HS := Lib.hid hS; clear hS H12 H14
          go_upto_region 16 with fail
          refine wp_region_noPanic ?_
          refine wp_region_held_drew (S := (fun w' => w'.rangeAt b14 0 (vl 16 (gblk all j)) ∧ w'.rangeAt w.heap.size 0 (vl 16 h) ∧ w'.there b12 0 16 ∧ Below w8.heap.size w8 w')) (by kernel_rfl) ?_ (fun hHeld => ?_)
          · exact ⟨row16_range h14', row16_range h3', h12'.there, HBr.out.drew⟩
          refine wpAnyH_take (i := 1) rfl (by kernel_rfl) (by kernel_rfl) (by kernel_rfl) (fun _ _ _ h => h) (yieldsIf_load_mid (by rfl) 35 (.tmp 14) rfl (b14) (0) rfl (vl 16 (gblk all j)) (.array 16 5) (fun _ h => h.1) Try.underlying35 rfl (by rw [vl_len]; exact blk_size)) hHeld ?_
          try simp only [Act.put, zq1, zq2, zq3, zq4, zq5, zq6]
          refine wpAnyH_take (i := 3) rfl (by kernel_rfl) (by kernel_rfl) (by kernel_rfl) (fun _ _ _ h => h) (yieldsIf_load_mid (by rfl) 35 (.tmp 3) rfl (w.heap.size) (0) rfl (vl 16 h) (.array 16 5) (fun _ h => h.2.1) Try.underlying35 rfl (by rw [vl_len]; exact blk_size)) hHeld ?_
          try simp only [Act.put, zq1, zq2, zq3, zq4, zq5, zq6]
          refine wpAnyH_ready (rs := [0]) (by kernel_rfl) (by simp) ?_
          refine AllReadyH.cons rfl (fun K hK => ?_) (AllReadyH.nil)
          try simp only [zq1, zq2, zq3]
          rw [if_pos (by rfl)]
          have hrange := (row16_range h12')
          have hinfo : (Try.prog.info? 35).map (·.size) = some (vl 16 (hby S)).length := (by rw [vl_len]; exact blk_size)
          refine wp_load_mid 35 (.tmp 12) ?hop (b12) (0) ?hx (vl 16 (hby S)) (.array 16 5) ?hr ?hu rfl ?hi ?_
          case hop => rfl
          case hx => rfl
          case hr => exact hrange
          case hu => exact Try.underlying35
          case hi => exact hinfo
          clear hrange hinfo
          try simp only [Act.put, zq1, zq2, zq3, zq4, zq5, zq6]
          refine hK.out _ _ ?_ (fun hHeld => ?_)
          · exact hHeld
          clear hK K
          try simp only [Act.put, zq1, zq2, zq3, zq4, zq5, zq6]
          refine wpAnyH_ready (rs := [2]) (by kernel_rfl) (by simp) ?_
          refine AllReadyH.cons rfl (fun K hK => ?_) (AllReadyH.nil)
          try simp only [zq1, zq2, zq3]
          go_simp
          refine (gadd_any (hby S) (gblk all j) _ hsB hgB).mono ?_
          rintro e wa ⟨rfl, hbwa⟩
          refine hK.out _ _ ?_ (fun hHeld => ?_)
          · exact mul_keep hbwa hHeld hHeld.2.2.2.size
          clear hK K
          try simp only [Act.put, zq1, zq2, zq3, zq4, zq5, zq6]
          refine wpAnyH_ready (rs := [4]) (by kernel_rfl) (by simp) ?_
          refine AllReadyH.cons rfl (fun K hK => ?_) (AllReadyH.nil)
          try simp only [zq1, zq2, zq3]
          go_simp
          refine (gmul_any (fun i => hby S i ^^^ gblk all j i) h _ hxB HH.out).mono ?_
          rintro e wd ⟨rfl, hbwd⟩
          rw [aN_vl 16 (hby (hm (hof fun i => hby S i ^^^ gblk all j i) (hof h)))]
          refine hK.out _ _ ?_ (fun hHeld => ?_)
          · exact mul_keep hbwd hHeld hHeld.2.2.2.size
          clear hK K
          try simp only [Act.put, zq1, zq2, zq3, zq4, zq5, zq6]
          refine wpAnyH_ready (rs := [5]) (by kernel_rfl) (by simp) ?_
          refine AllReadyH.cons rfl (fun K hK => ?_) (AllReadyH.nil)
          try simp only [zq1, zq2, zq3]
          rw [if_pos (by rfl)]
          refine wp_store_mid 35 (.tmp 12) (.tmp 66) rfl (b12) (0) (vl 16 (hby (hm (hof fun i => hby S i ^^^ gblk all j i) (hof h)))).toArray rfl rfl hHeld.2.2.1 (by rw [List.size_toArray, vl_len]; exact blk_size) (all_oneCell_toArray (vl_one _ _)) ?_
          simp only [Act.put, zq1, zq2, zq3, zq4, zq5, zq6, List.toList_toArray]
          refine hK.out _ _ ?_ (fun hHeld => ?_)
          · exact mul_store _ (by omega) (by omega) hle8 hHeld
          clear hK K
          try simp only [Act.put, zq1, zq2, zq3, zq4, zq5, zq6]
          refine wpAnyH_done (by kernel_rfl) ?_ _
          refine NoPanic.normal ?_
          have H12' : Hid (H16 (wd.setCells b12 0 (vl 16 (hby (hm (hof fun i => hby S i ^^^ gblk all j i) (hof h))))) b12 (hby (gfrom K 0 all (j + 1)))) := Lib.hid (by
            have := H16.store ((((h12' : H16 wr.drew _ _).call hbwa)).call hbwd) (hby (hm (hof fun i => hby S i ^^^ gblk all j i) (hof h)))
            rw [HEQ.out] at this ⊢
            exact this)
          have HB' := Lib.hid hHeld.2.2.2
          clear hHeld h12' h14' h3' HBr hbwa hbwd
          generalize wd.setCells b12 0 (vl 16 (hby (hm (hof fun i => hby S i ^^^ gblk all j i) (hof h)))) = wz at *
          have hwq : IntKind.i64.wrap ((q : Int) + 16) = (q : Int) + 16 := IntWalk.i64_in _ (by omega)
          go_wp2_with fail
          go_roundw
          case rel => exact ⟨j + 1, by omega, val_int (by have := HQ.out; omega), H12', HB'⟩
          case measure => have := HQ.out; simp [intOf]; omega

    · obtain rfl : j = N := by omega
      have hqL : ¬ q < L := by have := HLN.out; omega
      have hqLi : ¬ (q : Int) < (L : Int) := by omega
      have hqe : q = L := by have := HLN.out; omega
      have d12 : wr.heap[b12]? = some (.cells (aN 16 (hby (gS K a t))) 35 (0, 0)) := by rw [HRES.out]; exact H12.out
      have d6 : wr.heap[w.heap.size + 1]? = some (.cells (aN 16 fun _ => 0) 35 (0, 0)) := HE6.out.below HBr.out HE6.out.lt
      go_wp2_with (first
        | (refine wpList_load_row rfl 35 (.tmp 12) rfl b12 rfl 35 (aN 16 (hby (gS K a t))) (0, 0) (.array 16 5) d12 Try.underlying35 rfl (by rw [aN_size]; exact blk_size) ?_)
        | (refine wpList_store_row rfl 35 (.tmp 6) (.tmp 67) rfl (w.heap.size + 1) (aN 16 (hby (gS K a t))) rfl rfl 35 _ d6 (by rw [aN_size]; exact blk_size) (by simp only [aN_size]) (aN_one _ _) ?_))
      refine bodyPost_ret (blk_ret (p := 6) (by kernel_rfl) _ _ (w.heap.size + 1) (hby (gS K a t)) rfl ?_) rfl ⟨by rw [HK.out], ?_⟩
      · exact setRow_heap _ _ _ _ _ _ d6
      · exact below_row (HBW.out.trans (HBr.out.mono HBW.out.size)) _ (by omega) _
end Go.Proofs.Ytkfmgjipocmkjaa
