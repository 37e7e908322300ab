/-
  Numbers and texts written one behind the other are read as they were; cut anywhere they end too early: PackBack, for every input.
-/
import Derived.Test.YtbepibkbghmkkaaArg
import Derived.Test.YtbepibkbghmkkaaPkL
import Derived.Test.YtbepibkbghmkkaaPkM
import Derived.Test.YtbepibkbghmkkaaZq
import Derived.Deep.RegionHeld3
namespace Go.Proofs.Ytbepibkbghmkkaa
open Go Go.RowKit Go.ChangeShapes Go.WideShapes Go.ChangeAt Go.Deep
set_option linter.unusedVariables false
set_option linter.unusedSimpArgs false

theorem info_intB : (Try.prog.info? 3).map (fun i => (i.zero, i.size, i.bytes)) = some (some (.int .i64 0), 1, 8) := by kernel_rfl
/-- Where each thing ends. -/
def bends (it : Nat → List Nat) (k : Nat) : List Value := (List.range k).map fun i => .int .i64 ((bb it (i + 1)).length : Int)
theorem bends_len (it : Nat → List Nat) (k : Nat) : (bends it k).length = k := by simp [bends]
theorem bends_succ (it : Nat → List Nat) (k : Nat) : bends it (k + 1) = bends it k ++ [.int .i64 ((bb it (k + 1)).length : Int)] := by simp [bends, List.range_succ]
theorem bends_get (it : Nat → List Nat) (k i : Nat) (h : i < k) : (bends it k)[i]? = some (.int .i64 ((bb it (i + 1)).length : Int)) := by
  unfold bends
  rw [List.getElem?_map, List.getElem?_range h]; rfl
theorem apart_row {a b : Option Nat} (h : ∀ q, a = some q → b ≠ some q) : b = none ∨ b ≠ a := by
  cases b with
  | none => exact .inl rfl
  | some q => exact .inr fun e => h q e.symm rfl
theorem Rd.prefP {w : World} {BB : Nat} {A : Option Addr} {l : List Nat} (h : Rd w BB A (vn l)) (k : Nat) : Rd w BB A (vn (l.take k)) := by
  intro h0
  have hlen : 0 < (vn l).length := by
    simp only [vn_len, List.length_take] at h0 ⊢
    omega
  obtain ⟨ad, rfl, hb, hc⟩ := h hlen
  refine ⟨ad, rfl, hb, fun j u hj => hc j u ?_⟩
  simp only [vn, List.map_take, List.getElem?_take] at hj ⊢
  split at hj
  · exact hj
  · cases hj
def iti (I : Nat → Bool) (N : Nat → Nat) (T : Nat → List UInt8) (i : Nat) : List Nat := if I i then leb (T i).length ++ (T i).map UInt8.toNat else leb (N i)

theorem iti_le {I : Nat → Bool} {N : Nat → Nat} {T : Nat → List UInt8} {i : Nat} (h : N i < 18446744073709551616) (ht : (T i).length ≤ 200) : (iti I N T i).length ≤ 210 := by
  unfold iti
  split
  · rw [List.length_append, List.length_map]
    have := leb_ten (T i).length (by omega)
    omega
  · have := leb_ten (N i) h
    omega
theorem iti_lt {I : Nat → Bool} {N : Nat → Nat} {T : Nat → List UInt8} {i : Nat} : ∀ x ∈ iti I N T i, x < 256 := by
  unfold iti
  split
  · intro x hx
    rcases List.mem_append.1 hx with h | h
    · exact leb_lt _ x h
    · exact vb_ltP _ x h
  · exact leb_lt _
set_option maxRecDepth 100000 in
set_option maxHeartbeats 20000000 in
theorem mback_any (L : Option Addr) (m mc : Nat) (N : Nat → Nat) (I : Nat → Bool) (B : Nat → Option Addr) (T : Nat → List UInt8) (C : Nat → Nat) (cut : Int) (w : World) (hm : m ≤ 140737488351232)
    (hL : ∀ i, i < m → N i < 18446744073709551616 ∧ Rd w w.heap.size (B i) (vb (T i)) ∧ (T i).length ≤ C i ∧ ∃ ad, L = some ad ∧ ad.block < w.heap.size ∧ w.cell? (ad.add (i * 3)) = some (.int .u64 (N i : Int)) ∧ w.cell? (ad.add (i * 3 + 1)) = some (.bool (I i)) ∧ w.cell? (ad.add (i * 3 + 2)) = some (.slice (B i) (T i).length (C i))) (hcut : -9223372036854775808 ≤ cut ∧ cut ≤ 9223372036854775807) :
    Calls Try.prog 7 #[.slice L m mc, .int .i64 cut] w fun e w' => e = .returned (.bool true) ∧ Below w.heap.size w w' := by
  by_cases hs : m ≤ 60
  · have i1 : ¬ (60 : Int) < (m : Int) := by omega
    obtain ⟨j0, hi, hz0, hz1, hz2⟩ := info_parts info_b
    have HJ := Lib.hid (And.intro hi (And.intro hz0 (And.intro hz1 hz2))); clear hi hz0 hz1 hz2
    obtain ⟨j1, hi, hz0, hz1, hz2⟩ := info_parts info_intB
    have HJI := Lib.hid (And.intro hi (And.intro hz0 (And.intro hz1 hz2))); clear hi hz0 hz1 hz2
    obtain ⟨it, hit⟩ : ∃ it, it = iti I N T := ⟨_, rfl⟩
    have HIT := Lib.hid hit; clear hit
    have HLL := Lib.hid hL; clear hL
    go_enter Try.func7, Try.ntmps7
    go_wp2_with fail
    go_loopw [5, 6, 27] (fun v1 v2 i wr => ∃ k : Nat, k ≤ m ∧ i = .int .i64 (k : Int) ∧ Hid (∀ i, i < k → (T i).length ≤ 200) ∧ Hid (wr.ownsRow w.heap.size 5 1 v1 (bb it k).length (vn (bb it k))) ∧ Hid (wr.ownsRow w.heap.size 3 1 v2 k (bends it k)) ∧ Hid (Below w.heap.size w wr) ∧ Hid (∀ q, v1.ownBlock = some q → v2.ownBlock ≠ some q)) (fun _ _ i _ => m - (intOf i).toNat)
    case atStart => exact ⟨0, by omega, rfl, Lib.hid (fun i h => by omega), Lib.hid (World.ownsRow_nil _ _ _ _), Lib.hid (World.ownsRow_nil _ _ _ _), Lib.hid (Below.refl _ _), Lib.hid (fun q h => by cases h)⟩
    case round =>
      rename_i wr
      obtain ⟨k, hk, rfl, HT2, HO1, HO2, HB, HD⟩ := hrel
      have hbk : Hid (∀ i, i < k → (it i).length ≤ 210) := Lib.hid (by intro i hi; rw [HIT.out]; exact iti_le (HLL.out i (by omega)).1 (HT2.out i hi))
      have hbl := bb_le it k hbk.out
      by_cases hkm : k < m
      · have hki : (k : Int) < (m : Int) := by omega
        obtain ⟨hN, hR, hC, ad, rfl, had, c0, c1, c2⟩ := HLL.out k hkm
        replace c0 := (HB.out.cell (p := ad.add (k * 3)) (by rw [add_block]; exact had)).trans c0
        replace c1 : wr.cell? ⟨(ad.add (k * 3)).block, (ad.add (k * 3)).off + 1, none⟩ = some (.bool (I k)) := by
          have e : (⟨(ad.add (k * 3)).block, (ad.add (k * 3)).off + 1, none⟩ : Addr) = ad.add (k * 3 + 1) := by rw [← add_add]; rfl
          rw [e]
          exact (HB.out.cell (p := ad.add (k * 3 + 1)) (by rw [add_block]; exact had)).trans c1
        replace c2 : wr.cell? ⟨(ad.add (k * 3)).block, (ad.add (k * 3)).off + 2, none⟩ = some (.slice (B k) (T k).length (C k)) := by
          have e : (⟨(ad.add (k * 3)).block, (ad.add (k * 3)).off + 2, none⟩ : Addr) = ad.add (k * 3 + 2) := by rw [← add_add]; rfl
          rw [e]
          exact (HB.out.cell (p := ad.add (k * 3 + 2)) (by rw [add_block]; exact had)).trans c2
        obtain ⟨n, hn⟩ : ∃ n, n = (T k).length := ⟨_, rfl⟩
        have hwr : IntKind.i64.wrap ((k : Int) + 1) = (k : Int) + 1 := IntWalk.i64_in _ (by omega)
        have hRD := Lib.hid (hR.go HB.out); clear hR
        rw [← hn] at c2 hC
        have hHN := Lib.hid hn; clear hn
        by_cases hl : n ≤ 200
        · have hnl : ¬ (200 : Int) < (n : Int) := by omega
          cases hI : I k with
          | true =>
            rw [hI] at c1
            have e1 : it k = leb n ++ (T k).map UInt8.toNat := by
              rw [HIT.out, hHN.out]; unfold iti; rw [if_pos hI]
            have HE := Lib.hid e1; clear e1
            have hl10 := leb_ten n (by omega)
            have hlp := leb_pos n
            go_wp2_with fail
            refine (cptext_any (B k) ((T k).map UInt8.toNat) n (C k) (by rw [List.length_map]; exact hHN.out.symm) (vb_ltP _) (by omega) hC wr (by rw [← vb_vnP]; exact hRD.out)).mono ?_
            rintro e w2 ⟨x, rfl, hox, hb⟩
            obtain ⟨ll, hll⟩ : ∃ ll, ll = ((leb n).length + n) := ⟨_, rfl⟩
            have hll2 : 0 < ll ∧ ll ≤ 210 := by omega
            rw [← hll] at hox
            obtain ⟨xd, cx, rfl, hx1, hx2⟩ : ∃ xd cx, x = .slice (some ⟨xd, 0, none⟩) ll cx ∧ wr.heap.size ≤ xd ∧ xd < w2.heap.size := hox.form (by omega)
            obtain ⟨_, _, ex, _, hrx⟩ := Rd.of_own hox
            cases ex
            have hel : (vn (leb n ++ (T k).map UInt8.toNat)).length = ll * 1 := by rw [hll, vn_len, List.length_append, List.length_map, ← hHN.out, Nat.mul_one]
            have hEL := Lib.hid hel; clear hel
            have hLLE := Lib.hid hll; clear hll
            obtain ⟨_, exd, _, hxc⟩ := hrx (by rw [hEL.out]; omega)
            cases exd
            have HXC := Lib.hid hxc; clear hxc hrx
            have HO1' := Lib.hid (own_below HO1.out hb)
            have HO2' := Lib.hid (own_below HO2.out hb)
            have hw2 := hb.size
            have hww := HB.out.size
            replace HB := Lib.hid (HB.out.trans (hb.mono hww)); clear hb
            obtain ⟨bl, hblE⟩ : ∃ bl, bl = (bb it k).length := ⟨_, rfl⟩
            have hHB := Lib.hid hblE
            rw [← hblE] at hbl HO1'
            clear hblE
            have hi := HJ.out.1
            have hz0 := HJ.out.2.1
            have hz1 := HJ.out.2.2.1
            have hz2 := HJ.out.2.2.2
            have hi1 := HJI.out.1
            have hz01 := HJI.out.2.1
            have hz11 := HJI.out.2.2.1
            have hz21 := HJI.out.2.2.2
            go_wp2_with (first | (at_builtin; refine wpList_append_lies _ rfl (.tmp 43) (.tmp 49) 24 rfl w.heap.size 5 j0 (.int .u8 0) 1 1 Try.underlying24 hi hz0 hz1 hz2 rfl (by omega) u5 bl (vn (bb it k)) rfl HO1'.out ⟨xd, 0, none⟩ ll cx (vn (leb n ++ (T k).map UInt8.toNat)) rfl hEL.out HXC.out (vn_oneP _) (by omega) (by unfold maxLen; omega) (by omega) (by omega) w2.heap.size rfl ?_; intro g9 c9 w7 hown9 hgrow9 hat9 hlt9; have hq9 := HO2'.out.kept hgrow9 (apart_row HD.out); have hs9 := hgrow9.size) | (at_builtin; refine wpList_append_lies _ rfl (.tmp 59) (.tmp 62) 47 rfl w.heap.size 3 j1 (.int .i64 0) 1 8 Try.underlying47 hi1 hz01 hz11 hz21 rfl (by omega) u6 k (bends it k) rfl (hq9.alloc _) ⟨w7.heap.size, 0, none⟩ 1 1 [.int .i64 ((bl : Int) + (ll : Int))] rfl rfl (World.news_of_block (cs := #[.int .i64 ((bl : Int) + (ll : Int))]) (t := 3) (fr := (0, 0)) (heap_alloc_new _ _)) (by simp [Value.oneCell']) (by omega) (by unfold maxLen; omega) (by omega) (by simp; omega) (w7.heap.size + 1) (by simp) ?_; intro g10 c10 w8 hown10 hgrow10 hat10 hlt10))
            go_roundw
            case rel =>
              have hg96 : u6.ownBlock ≠ some g9 := by
                intro e
                rcases hat9 with h | h
                · exact HD.out g9 h e
                · have := (HO2'.out.lt g9 e).2
                  omega
              have hbl2 : bl + ll = (bb it (k + 1)).length := by
                rw [bb_lenS, HE.out, hHB.out, hLLE.out]
                all_goals simp [← hHN.out]
              have hvn : vn (bb it (k + 1)) = vn (bb it k) ++ vn (leb n ++ (T k).map UInt8.toNat) := by
                show vn (bb it k ++ it k) = _
                rw [HE.out]
                exact vn_appP _ _
              have hal : Below w.heap.size w7 (w7.alloc (.cells #[.int .i64 ((bl : Int) + (ll : Int))] 3)) := (Below.refl _ _).alloc (by omega) _
              refine ⟨k + 1, by omega, by go_num, Lib.hid ?_, Lib.hid ?_, Lib.hid ?_, Lib.hid ?_, Lib.hid ?_⟩
              · intro i hi
                by_cases h : i = k
                · subst h; rw [← hHN.out]; exact hl
                · exact HT2.out i (by omega)
              · rw [← hbl2, hvn]
                refine (hown9.alloc _).kept hgrow10 (.inr ?_)
                exact fun e => hg96 e.symm
              · rw [bends_succ, ← hbl2]
                exact hown10
              · exact ((HB.out.grown hgrow9 (by omega) (fun q e => (HO1'.out.lt q e).1)).trans hal).grown hgrow10 (by simp; omega) (fun q e => (hq9.lt q e).1)
              · intro q e e2
                injection e with e
                injection e2 with e2
                have e3 : g10 = g9 := e2.trans e.symm
                rcases hat10 with h | h
                · exact hg96 (by rw [h, e3])
                · omega
            case measure => simp [intOf]; omega

          | false =>
            rw [hI] at c1
            have e1 : it k = leb (N k) := by
              rw [HIT.out]; unfold iti; rw [if_neg (by rw [hI]; decide)]
            have HE := Lib.hid e1; clear e1
            have hl10 := leb_ten (N k) hN
            have hlp := leb_pos (N k)
            go_wp2_with fail
            refine (cpnum_any (N k) hN wr).mono ?_
            rintro e w2 ⟨x, rfl, hox, hb⟩
            obtain ⟨ll, hll⟩ : ∃ ll, ll = (leb (N k)).length := ⟨_, rfl⟩
            have hll2 : 0 < ll ∧ ll ≤ 210 := by omega
            rw [← hll] at hox
            obtain ⟨xd, cx, rfl, hx1, hx2⟩ : ∃ xd cx, x = .slice (some ⟨xd, 0, none⟩) ll cx ∧ wr.heap.size ≤ xd ∧ xd < w2.heap.size := hox.form (by omega)
            obtain ⟨_, _, ex, _, hrx⟩ := Rd.of_own hox
            cases ex
            have hel : (vn (leb (N k))).length = ll * 1 := by rw [hll, vn_len, Nat.mul_one]
            have hEL := Lib.hid hel; clear hel
            have hLLE := Lib.hid hll; clear hll
            obtain ⟨_, exd, _, hxc⟩ := hrx (by rw [hEL.out]; omega)
            cases exd
            have HXC := Lib.hid hxc; clear hxc hrx
            have HO1' := Lib.hid (own_below HO1.out hb)
            have HO2' := Lib.hid (own_below HO2.out hb)
            have hw2 := hb.size
            have hww := HB.out.size
            replace HB := Lib.hid (HB.out.trans (hb.mono hww)); clear hb
            obtain ⟨bl, hblE⟩ : ∃ bl, bl = (bb it k).length := ⟨_, rfl⟩
            have hHB := Lib.hid hblE
            rw [← hblE] at hbl HO1'
            clear hblE
            have hi := HJ.out.1
            have hz0 := HJ.out.2.1
            have hz1 := HJ.out.2.2.1
            have hz2 := HJ.out.2.2.2
            have hi1 := HJI.out.1
            have hz01 := HJI.out.2.1
            have hz11 := HJI.out.2.2.1
            have hz21 := HJI.out.2.2.2
            go_wp2_with (first | (at_builtin; refine wpList_append_lies _ rfl (.tmp 51) (.tmp 57) 24 rfl w.heap.size 5 j0 (.int .u8 0) 1 1 Try.underlying24 hi hz0 hz1 hz2 rfl (by omega) u5 bl (vn (bb it k)) rfl HO1'.out ⟨xd, 0, none⟩ ll cx (vn (leb (N k))) rfl hEL.out HXC.out (vn_oneP _) (by omega) (by unfold maxLen; omega) (by omega) (by omega) w2.heap.size rfl ?_; intro g9 c9 w7 hown9 hgrow9 hat9 hlt9; have hq9 := HO2'.out.kept hgrow9 (apart_row HD.out); have hs9 := hgrow9.size) | (at_builtin; refine wpList_append_lies _ rfl (.tmp 59) (.tmp 62) 47 rfl w.heap.size 3 j1 (.int .i64 0) 1 8 Try.underlying47 hi1 hz01 hz11 hz21 rfl (by omega) u6 k (bends it k) rfl (hq9.alloc _) ⟨w7.heap.size, 0, none⟩ 1 1 [.int .i64 ((bl : Int) + (ll : Int))] rfl rfl (World.news_of_block (cs := #[.int .i64 ((bl : Int) + (ll : Int))]) (t := 3) (fr := (0, 0)) (heap_alloc_new _ _)) (by simp [Value.oneCell']) (by omega) (by unfold maxLen; omega) (by omega) (by simp; omega) (w7.heap.size + 1) (by simp) ?_; intro g10 c10 w8 hown10 hgrow10 hat10 hlt10))
            go_roundw
            case rel =>
              have hg96 : u6.ownBlock ≠ some g9 := by
                intro e
                rcases hat9 with h | h
                · exact HD.out g9 h e
                · have := (HO2'.out.lt g9 e).2
                  omega
              have hbl2 : bl + ll = (bb it (k + 1)).length := by
                rw [bb_lenS, HE.out, hHB.out, hLLE.out]
                all_goals simp [← hHN.out]
              have hvn : vn (bb it (k + 1)) = vn (bb it k) ++ vn (leb (N k)) := by
                show vn (bb it k ++ it k) = _
                rw [HE.out]
                exact vn_appP _ _
              have hal : Below w.heap.size w7 (w7.alloc (.cells #[.int .i64 ((bl : Int) + (ll : Int))] 3)) := (Below.refl _ _).alloc (by omega) _
              refine ⟨k + 1, by omega, by go_num, Lib.hid ?_, Lib.hid ?_, Lib.hid ?_, Lib.hid ?_, Lib.hid ?_⟩
              · intro i hi
                by_cases h : i = k
                · subst h; rw [← hHN.out]; exact hl
                · exact HT2.out i (by omega)
              · rw [← hbl2, hvn]
                refine (hown9.alloc _).kept hgrow10 (.inr ?_)
                exact fun e => hg96 e.symm
              · rw [bends_succ, ← hbl2]
                exact hown10
              · exact ((HB.out.grown hgrow9 (by omega) (fun q e => (HO1'.out.lt q e).1)).trans hal).grown hgrow10 (by simp; omega) (fun q e => (hq9.lt q e).1)
              · intro q e e2
                injection e with e
                injection e2 with e2
                have e3 : g10 = g9 := e2.trans e.symm
                rcases hat10 with h | h
                · exact hg96 (by rw [h, e3])
                · omega
            case measure => simp [intOf]; omega

        · have hnl : (200 : Int) < (n : Int) := by omega
          go_wp2_with fail
          refine (known07_any _).mono ?_
          rintro e wz ⟨rfl, hz⟩
          go_wp2_with fail
          go_ret
          exact ⟨rfl, HB.out.trans (hz.mono HB.out.size)⟩
      · obtain rfl : k = m := by omega
        have hlt6 : Hid (∀ x ∈ bb it k, x < 256) := Lib.hid (bb_lt it k fun i hi => by rw [HIT.out]; exact iti_lt)
        obtain ⟨FL, hFL⟩ : ∃ FL, FL = bb it k := ⟨_, rfl⟩
        rw [← hFL] at hlt6 HO1 hbl
        have hHF := Lib.hid hFL; clear hFL
        obtain ⟨ln, hln⟩ : ∃ ln, ln = FL.length := ⟨_, rfl⟩
        rw [← hln] at HO1 hbl
        have hHLN := Lib.hid hln; clear hln
        obtain ⟨A, c, rfl, _, hra⟩ := Rd.of_own HO1.out
        have hcap := own_capP HO1.out
        have HRA := Lib.hid hra; clear hra
        by_cases hc0 : 0 < cut
        · obtain ⟨nn, hnn⟩ : ∃ nn : Nat, (nn : Int) = cut.tmod ((ln : Int) + 1) := ⟨(cut.tmod ((ln : Int) + 1)).toNat, by rw [Int.toNat_of_nonneg (Int.tmod_nonneg _ (by omega))]⟩
          have hnl : nn ≤ ln := by
            have := Int.tmod_lt_of_pos cut (show (0 : Int) < (ln : Int) + 1 by omega)
            omega
          have hw1 : IntKind.i64.wrap ((ln : Int) + 1) = (ln : Int) + 1 := IntWalk.i64_in _ (by omega)
          have hne : ¬ ((ln : Int) + 1 = 0) := by omega
          have hnn' := hnn.symm
          have hw2 : IntKind.i64.wrap (nn : Int) = (nn : Int) := IntWalk.i64_in _ (by omega)
          clear hnn
          go_wp2_with fail
          obtain ⟨SL, hSL⟩ : ∃ SL, SL = FL.take nn := ⟨_, rfl⟩
          have hSLlen : SL.length = nn := by rw [hSL, List.length_take, ← hHLN.out]; omega
          have hSLlt : ∀ x ∈ SL, x < 256 := by rw [hSL]; exact fun x hx => hlt6.out x (List.mem_of_mem_take hx)
          have hHSL := Lib.hid (And.intro hSL (And.intro hSLlen hSLlt)); clear hSL hSLlen hSLlt
          have qs : ∀ w : World, (Instr.slice 24 (.slice A ln c) none (some (.int .i64 (nn : Int))) none).run Try.prog w = .ok (.slice A nn c) w := fun w => run_head (P := Try.prog) 24 5 j0 Try.underlying24 HJ.out.1 A ln c nn (by omega) w
          go_region_held3 (fun _ => True) (trivial)
            ((first
              | (go_at_call 16; refine (cpnew_any A SL nn c hHSL.out.2.1 hHSL.out.2.2 (by omega) (by omega) _ (by rw [hHSL.out.1]; exact (HRA.out.go (by first | exact hbw | exact hbw.drew)).prefP _)).mono ?_; rintro e w2 ⟨p2, g2, rfl, hp2, hg2, hcr2, hb2⟩; have hbw2 : Below w1.heap.size w1 w2 := (by first | exact hb2 | exact (Below.refl _ _).drew.trans (hb2.mono (Nat.le_refl _))))
              | (go_at_call 16; refine (cpnew_any A FL ln c hHLN.out.symm hlt6.out (by omega) hcap _ (HRA.out.go (by first | exact Below.refl _ _ | exact (Below.refl _ _).drew))).mono ?_; rintro e w1 ⟨p, g, rfl, hp, hg, hcr, hb⟩; have hbw : Below wr.heap.size wr w1 := (by first | exact hb | exact (Below.refl _ _).drew.trans (hb.mono (Nat.le_refl _))))))
          have hq1 : wr.heap.size ≤ p := by simpa using hp
          have hq2 : wr.heap.size ≤ g := by simpa using hg
          have hq3 : w1.heap.size ≤ p2 := by simpa using hp2
          have hq4 : w1.heap.size ≤ g2 := by simpa using hg2
          have hq5 := hcr.lp
          have hq6 := hcr.lg
          have hq7 := hcr2.lp
          have hq8 := hcr2.lg
          have hsA : w.heap.size ≤ wr.heap.size := HB.out.size
          have hsA1 : wr.heap.size ≤ w1.heap.size := hbw.size
          have HE6 : Hid (∀ q, u6.ownBlock = some q → q < wr.heap.size) := Lib.hid fun q e => (HO2.out.lt q e).2
          have HC := Lib.hid (hcr.call hbw2)
          have HC2 := Lib.hid hcr2
          replace HO2 := Lib.hid (own_below (own_below HO2.out hbw) hbw2)
          replace HB := Lib.hid ((HB.out.trans (hbw.mono HB.out.size)).trans (hbw2.mono (Nat.le_trans HB.out.size hbw.size)))
          have hsB := HB.out.size
          clear hcr hcr2 hb hb2 hbw hbw2 hp hg hp2 hg2 HO1 HD hbk qs
          go_wp2_with fail
          go_loopw [88] (fun i wx => ∃ (wv : World) (j a f : Nat), wv = wx ∧ j ≤ k ∧ i = .int .i64 (j : Int) ∧ Hid (CR wx p g FL (bb it j).length 0) ∧ Hid (CR wx p2 g2 SL a f) ∧ Hid (SI it nn j a f) ∧ Hid (wx.ownsRow w.heap.size 3 1 u6 k (bends it k)) ∧ Hid (Below w.heap.size w wx) ∧ w2.heap.size ≤ wx.heap.size) (fun i _ => k - (intOf i).toNat)
          case atStart => exact ⟨_, 0, 0, 0, rfl, by omega, rfl, HC, HC2, Lib.hid (SI.start _ _), HO2, HB, Nat.le_refl _⟩
          case round =>
            clear HC HC2 HO2 HB
            obtain ⟨wv, j, a, f, rfl, hj, rfl, HC, HC2, HSI, HO2, HB, hsz⟩ := hrel
            by_cases hjk : j < k
            · have hji : (j : Int) < (k : Int) := by omega
              obtain ⟨hN, hR, hC, ad, rfl, had, c0, c1, c2⟩ := HLL.out j hjk
              have HRW := Lib.hid (And.intro c0 c2)
              replace c0 := (HB.out.cell (p := ad.add (j * 3)) (by rw [add_block]; exact had)).trans c0
              replace c1 : wv.cell? ⟨(ad.add (j * 3)).block, (ad.add (j * 3)).off + 1, none⟩ = some (.bool (I j)) := by
                have e : (⟨(ad.add (j * 3)).block, (ad.add (j * 3)).off + 1, none⟩ : Addr) = ad.add (j * 3 + 1) := by rw [← add_add]; rfl
                rw [e]
                exact (HB.out.cell (p := ad.add (j * 3 + 1)) (by rw [add_block]; exact had)).trans c1
              replace c2 : wv.cell? ⟨(ad.add (j * 3)).block, (ad.add (j * 3)).off + 2, none⟩ = some (.slice (B j) (T j).length (C j)) := by
                have e : (⟨(ad.add (j * 3)).block, (ad.add (j * 3)).off + 2, none⟩ : Addr) = ad.add (j * 3 + 2) := by rw [← add_add]; rfl
                rw [e]
                exact (HB.out.cell (p := ad.add (j * 3 + 2)) (by rw [add_block]; exact had)).trans c2
              obtain ⟨n, hn⟩ : ∃ n, n = (T j).length := ⟨_, rfl⟩
              have hn2 : n ≤ 200 := by rw [hn]; exact HT2.out j hjk
              have hwr : IntKind.i64.wrap ((j : Int) + 1) = (j : Int) + 1 := IntWalk.i64_in _ (by omega)
              have HRD := Lib.hid hR; clear hR
              rw [← hn] at c2 hC
              have hHN := Lib.hid hn; clear hn
              obtain ⟨ge, ce, rfl, _, _⟩ := HO2.out.form (by omega)
              have hce := (HO2.out.cellAt j (by omega)).trans (bends_get it k j hjk)
              obtain ⟨el, hel⟩ : ∃ el, el = (bb it (j + 1)).length := ⟨_, rfl⟩
              rw [← hel] at hce
              have hHEL := Lib.hid hel; clear hel
              by_cases hw : el ≤ nn
              · have hwi : (el : Int) ≤ (nn : Int) := by omega
                cases hI : I j with
                | true =>
                  rw [hI] at c1
                  have e1 : it j = leb ((T j).map UInt8.toNat).length ++ (T j).map UInt8.toNat := by
                    rw [HIT.out, List.length_map]; unfold iti; rw [if_pos hI]
                  have hwt := whole_text hjk e1 (by rw [List.length_map, ← hHN.out]; exact hn2)
                  have hsi := HSI.out.text hjk e1 (by rw [List.length_map, ← hHN.out]; exact hn2)
                  rw [← hHF.out, ← hHEL.out] at hwt
                  rw [← hHF.out, ← hHSL.out.1, ← hHEL.out] at hsi
                  have HSI2 := Lib.hid hsi; clear hsi e1
                  have HWT := Lib.hid hwt; clear hwt
                  go_wp2_with fail
                  have hct := cprtext_any wv p g FL (bb it j).length 0 hlt6.out (by rw [← hHLN.out]; omega) HC.out 200 (by omega)
                  rw [HWT.out] at hct
                  refine hct.mono ?_
                  clear hct
                  rintro e y1 ⟨v1, rfl, hov, hcr, hgr⟩
                  have hbs := HB.out.size
                  have hs9 := hgr.size
                  replace HC : Hid (CR y1 p g FL el 0) := Lib.hid hcr; clear hcr
                  replace HC2 : Hid (CR y1 p2 g2 SL a f) := Lib.hid (HC2.out.keep hgr.size (hgr.block p2 (by omega) (fun e => by cases e; omega)) (hgr.block g2 (by omega) (fun e => by cases e; omega)))
                  replace HO2 := Lib.hid (HO2.out.kept hgr (.inr (fun e => by have := HE6.out p e; omega)))
                  replace HB := Lib.hid (HB.out.trans (grown_low hgr hbs (by omega)))
                  clear hgr hbs
                  have HOV : Hid (y1.ownsRow wv.heap.size 5 1 v1 n (vb (T j))) := Lib.hid (by
                    have h : y1.ownsRow wv.heap.size 5 1 v1 ((T j).map UInt8.toNat).length (vn ((T j).map UInt8.toNat)) := hov
                    rw [List.length_map, ← hHN.out, ← vb_vnP] at h
                    exact h)
                  clear hov
                  go_wp2_with fail
                  refine (cprtext_any y1 p2 g2 SL a f hHSL.out.2.2 (by rw [hHSL.out.2.1]; omega) HC2.out 200 (by omega)).mono ?_
                  rintro e y2 ⟨v2, rfl, hov2, hcr, hgr⟩
                  have hbs := HB.out.size
                  have hs8 := hgr.size
                  replace HC : Hid (CR y2 p g FL el 0) := Lib.hid (HC.out.keep hgr.size (hgr.block p (by omega) (fun e => by cases e; omega)) (hgr.block g (by omega) (fun e => by cases e; omega)))
                  replace HC2 := Lib.hid hcr; clear hcr
                  replace HO2 := Lib.hid (HO2.out.kept hgr (.inr (fun e => by have := HE6.out p2 e; omega)))
                  replace HB := Lib.hid (HB.out.trans (grown_low hgr hbs (by omega)))
                  clear hbs
                  replace HOV := Lib.hid (own_grownP HOV.out hgr (by omega))
                  clear hgr
                  generalize rdText SL a f 200 = rr at *
                  obtain ⟨rv, a2, f2⟩ := rr
                  simp only at HC2 HSI2 hov2
                  replace c2 : y2.cell? ⟨(ad.add (j * 3)).block, (ad.add (j * 3)).off + 2, none⟩ = some (.slice (B j) n (C j)) := by
                    have e : (⟨(ad.add (j * 3)).block, (ad.add (j * 3)).off + 2, none⟩ : Addr) = ad.add (j * 3 + 2) := by rw [← add_add]; rfl
                    rw [e, hHN.out]
                    exact (HB.out.cell (p := ad.add (j * 3 + 2)) (by rw [add_block]; exact had)).trans HRW.out.2
                  clear c0 c1 hce
                  obtain ⟨A1, c3, rfl, _, r1⟩ := Rd.of_own HOV.out
                  have RA : Hid (∀ w' : World, Below y2.heap.size y2 w' → (convert 24 9 (.slice A1 n c3)).run Try.prog w' = .ok (.string ⟨(T j).toArray⟩) w') := Lib.hid fun w' hb => run_str (P := Try.prog) 24 9 5 Try.underlying24 Try.underlying5 Try.underlying9 (n := n) hHN.out.symm c3 (r1.below hb)
                  have RB : Hid (∀ w' : World, Below y2.heap.size y2 w' → (convert 24 9 (.slice (B j) n (C j))).run Try.prog w' = .ok (.string ⟨(T j).toArray⟩) w') := Lib.hid fun w' hb => run_str (P := Try.prog) 24 9 5 Try.underlying24 Try.underlying5 Try.underlying9 (n := n) hHN.out.symm (C j) (HRD.out.below (HB.out.trans (hb.mono HB.out.size)))
                  have CELL : Hid (∀ w' : World, Below y2.heap.size y2 w' → w'.cell? ⟨(ad.add (j * 3)).block, (ad.add (j * 3)).off + 2, none⟩ = some (.slice (B j) n (C j))) := Lib.hid fun w' hb => (hb.cell (p := ⟨(ad.add (j * 3)).block, (ad.add (j * 3)).off + 2, none⟩) (by have := HB.out.size; show (ad.add (j * 3)).block < y2.heap.size; rw [add_block]; omega)).trans c2
                  clear c2
                  clear r1
                  obtain rfl := HSI2.out.1 hw
                  have HOW : Hid (y2.ownsRow y1.heap.size 5 1 v2 n (vb (T j))) := Lib.hid (by
                    have h : y2.ownsRow y1.heap.size 5 1 v2 ((T j).map UInt8.toNat).length (vn ((T j).map UInt8.toNat)) := hov2
                    rw [List.length_map, ← hHN.out, ← vb_vnP] at h
                    exact h)
                  clear hov2
                  obtain ⟨A2, c4, rfl, _, r2⟩ := Rd.of_own HOW.out
                  have RC : Hid (∀ w' : World, Below y2.heap.size y2 w' → (convert 24 9 (.slice A2 n c4)).run Try.prog w' = .ok (.string ⟨(T j).toArray⟩) w') := Lib.hid fun w' hb => run_str (P := Try.prog) 24 9 5 Try.underlying24 Try.underlying5 Try.underlying9 (n := n) hHN.out.symm c4 (r2.below hb)
                  clear r2
                  go_upto_region 27 with fail
                  refine wp_region_noPanic ?_
                  refine wp_region_held_drew (S := (fun w' => Below y2.heap.size y2 w')) (by kernel_rfl) ?_ (fun hHeld => ?_)
                  · exact (Below.refl y2.heap.size y2).drew
                  have hs2 : Below y2.heap.size y2 y2.drew := (Below.refl y2.heap.size y2).drew
                  generalize y2.drew = ws1 at *
                  refine wpAnyH_take (i := 0) (v := ?_) rfl (by kernel_rfl) (by kernel_rfl) (by kernel_rfl) (fun _ _ _ h => h) (Or.inl ⟨by rfl, ?_⟩) hHeld ?_
                  rotate_left
                  · intro w' hSw
                    (try dsimp only at hSw)
                    go_simp
                    try with_reducible rfl
                  try simp only [Act.put, zq1, zq2, zq3, zq4, zq5, zq6]
                  refine wpAnyH_take (i := 1) (v := ?_) rfl (by kernel_rfl) (by kernel_rfl) (by kernel_rfl) (fun _ _ _ h => h) (Or.inl ⟨by rfl, ?_⟩) hHeld ?_
                  rotate_left
                  · intro w' hSw
                    (try dsimp only at hSw)
                    have rr := RA.out w' hSw
                    go_simp
                    try with_reducible rfl
                  try simp only [Act.put, zq1, zq2, zq3, zq4, zq5, zq6]
                  refine wpAnyH_take (i := 2) (v := ?_) rfl (by kernel_rfl) (by kernel_rfl) (by kernel_rfl) (fun _ _ _ h => h) (Or.inl ⟨by rfl, ?_⟩) hHeld ?_
                  rotate_left
                  · intro w' hSw
                    (try dsimp only at hSw)
                    go_simp
                    try with_reducible rfl
                  try simp only [Act.put, zq1, zq2, zq3, zq4, zq5, zq6]
                  refine wpAnyH_take (i := 3) (v := ?_) rfl (by kernel_rfl) (by kernel_rfl) (by kernel_rfl) (fun _ _ _ h => h) (Or.inl ⟨by rfl, ?_⟩) hHeld ?_
                  rotate_left
                  · intro w' hSw
                    (try dsimp only at hSw)
                    go_simp
                    try with_reducible rfl
                  try simp only [Act.put, zq1, zq2, zq3, zq4, zq5, zq6]
                  refine wpAnyH_take (i := 4) (v := ?_) rfl (by kernel_rfl) (by kernel_rfl) (by kernel_rfl) (fun _ _ _ h => h) (Or.inl ⟨by rfl, ?_⟩) hHeld ?_
                  rotate_left
                  · intro w' hSw
                    (try dsimp only at hSw)
                    go_simp
                    try with_reducible rfl
                  try simp only [Act.put, zq1, zq2, zq3, zq4, zq5, zq6]
                  refine wpAnyH_take (i := 5) (v := ?_) rfl (by kernel_rfl) (by kernel_rfl) (by kernel_rfl) (fun _ _ _ h => h) (Or.inl ⟨by rfl, ?_⟩) hHeld ?_
                  rotate_left
                  · intro w' hSw
                    (try dsimp only at hSw)
                    go_simp
                    try with_reducible rfl
                  try simp only [Act.put, zq1, zq2, zq3, zq4, zq5, zq6]
                  refine wpAnyH_take (i := 6) (v := ?_) rfl (by kernel_rfl) (by kernel_rfl) (by kernel_rfl) (fun _ _ _ h => h) (Or.inl ⟨by rfl, ?_⟩) hHeld ?_
                  rotate_left
                  · intro w' hSw
                    (try dsimp only at hSw)
                    have rr := CELL.out w' hSw
                    go_simp
                    try with_reducible rfl
                  try simp only [Act.put, zq1, zq2, zq3, zq4, zq5, zq6]
                  refine wpAnyH_take (i := 7) (v := ?_) rfl (by kernel_rfl) (by kernel_rfl) (by kernel_rfl) (fun _ _ _ h => h) (Or.inl ⟨by rfl, ?_⟩) hHeld ?_
                  rotate_left
                  · intro w' hSw
                    (try dsimp only at hSw)
                    have rr := RB.out w' hSw
                    go_simp
                    try with_reducible rfl
                  try simp only [Act.put, zq1, zq2, zq3, zq4, zq5, zq6]
                  refine wpAnyH_take (i := 8) (v := ?_) rfl (by kernel_rfl) (by kernel_rfl) (by kernel_rfl) (fun _ _ _ h => h) (Or.inl ⟨by rfl, ?_⟩) hHeld ?_
                  rotate_left
                  · intro w' hSw
                    (try dsimp only at hSw)
                    go_simp
                    try with_reducible rfl
                  try simp only [Act.put, zq1, zq2, zq3, zq4, zq5, zq6]
                  refine wpAnyH_take (i := 9) (v := ?_) rfl (by kernel_rfl) (by kernel_rfl) (by kernel_rfl) (fun _ _ _ h => h) (Or.inl ⟨by rfl, ?_⟩) hHeld ?_
                  rotate_left
                  · intro w' hSw
                    (try dsimp only at hSw)
                    go_simp
                    try with_reducible rfl
                  try simp only [Act.put, zq1, zq2, zq3, zq4, zq5, zq6]
                  refine wpAnyH_take (i := 10) (v := ?_) rfl (by kernel_rfl) (by kernel_rfl) (by kernel_rfl) (fun _ _ _ h => h) (Or.inl ⟨by rfl, ?_⟩) hHeld ?_
                  rotate_left
                  · intro w' hSw
                    (try dsimp only at hSw)
                    go_simp
                    try with_reducible rfl
                  try simp only [Act.put, zq1, zq2, zq3, zq4, zq5, zq6]
                  refine wpAnyH_take (i := 11) (v := ?_) rfl (by kernel_rfl) (by kernel_rfl) (by kernel_rfl) (fun _ _ _ h => h) (Or.inl ⟨by rfl, ?_⟩) hHeld ?_
                  rotate_left
                  · intro w' hSw
                    (try dsimp only at hSw)
                    go_simp
                    try with_reducible rfl
                  try simp only [Act.put, zq1, zq2, zq3, zq4, zq5, zq6]
                  refine wpAnyH_take (i := 12) (v := ?_) rfl (by kernel_rfl) (by kernel_rfl) (by kernel_rfl) (fun _ _ _ h => h) (Or.inl ⟨by rfl, ?_⟩) hHeld ?_
                  rotate_left
                  · intro w' hSw
                    (try dsimp only at hSw)
                    go_simp
                    try with_reducible rfl
                  try simp only [Act.put, zq1, zq2, zq3, zq4, zq5, zq6]
                  refine wpAnyH_take (i := 13) (v := ?_) rfl (by kernel_rfl) (by kernel_rfl) (by kernel_rfl) (fun _ _ _ h => h) (Or.inl ⟨by rfl, ?_⟩) hHeld ?_
                  rotate_left
                  · intro w' hSw
                    (try dsimp only at hSw)
                    have rr := RC.out w' hSw
                    go_simp
                    try with_reducible rfl
                  try simp only [Act.put, zq1, zq2, zq3, zq4, zq5, zq6]
                  refine wpAnyH_take (i := 14) (v := ?_) rfl (by kernel_rfl) (by kernel_rfl) (by kernel_rfl) (fun _ _ _ h => h) (Or.inl ⟨by rfl, ?_⟩) hHeld ?_
                  rotate_left
                  · intro w' hSw
                    (try dsimp only at hSw)
                    go_simp
                    try with_reducible rfl
                  try simp only [Act.put, zq1, zq2, zq3, zq4, zq5, zq6]
                  refine wpAnyH_take (i := 15) (v := ?_) rfl (by kernel_rfl) (by kernel_rfl) (by kernel_rfl) (fun _ _ _ h => h) (Or.inl ⟨by rfl, ?_⟩) hHeld ?_
                  rotate_left
                  · intro w' hSw
                    (try dsimp only at hSw)
                    have rr := RA.out w' hSw
                    go_simp
                    try with_reducible rfl
                  try simp only [Act.put, zq1, zq2, zq3, zq4, zq5, zq6]
                  refine wpAnyH_take (i := 16) (v := ?_) rfl (by kernel_rfl) (by kernel_rfl) (by kernel_rfl) (fun _ _ _ h => h) (Or.inl ⟨by rfl, ?_⟩) hHeld ?_
                  rotate_left
                  · intro w' hSw
                    (try dsimp only at hSw)
                    go_simp
                    try with_reducible rfl
                  try simp only [Act.put, zq1, zq2, zq3, zq4, zq5, zq6]
                  refine wpAnyH_take (i := 17) (v := ?_) rfl (by kernel_rfl) (by kernel_rfl) (by kernel_rfl) (fun _ _ _ h => h) (Or.inl ⟨by rfl, ?_⟩) hHeld ?_
                  rotate_left
                  · intro w' hSw
                    (try dsimp only at hSw)
                    go_simp
                    try with_reducible rfl
                  try simp only [Act.put, zq1, zq2, zq3, zq4, zq5, zq6]
                  refine wpAnyH_take (i := 18) (v := ?_) rfl (by kernel_rfl) (by kernel_rfl) (by kernel_rfl) (fun _ _ _ h => h) (Or.inl ⟨by rfl, ?_⟩) hHeld ?_
                  rotate_left
                  · intro w' hSw
                    (try dsimp only at hSw)
                    go_simp
                    try with_reducible rfl
                  try simp only [Act.put, zq1, zq2, zq3, zq4, zq5, zq6]
                  refine wpAnyH_done (by kernel_rfl) ?_ _
                  refine NoPanic.normal ?_
                  replace HC := Lib.hid (HC.out.call hs2)
                  replace HC2 := Lib.hid (HC2.out.call hs2)
                  replace HO2 := Lib.hid (own_below HO2.out hs2)
                  replace HB := Lib.hid (HB.out.trans (hs2.mono HB.out.size))
                  have hsx := hs2.size
                  go_wp2_with fail
                  refine (cprdone_bel ws1 p2 g2 SL a2 f2 (by rw [hHSL.out.2.1]; omega) HC2.out).mono ?_
                  generalize rdDone SL a2 f2 = dd at *
                  rintro e y3 ⟨rfl, hb⟩
                  have hbs := HB.out.size
                  have hs7 := hb.size
                  replace HC := Lib.hid (HC.out.call hb)
                  replace HC2 := Lib.hid (HC2.out.call hb)
                  replace HO2 := Lib.hid (own_below HO2.out hb)
                  replace HB := Lib.hid (HB.out.trans (hb.mono hbs))
                  clear hb hbs
                  go_wp2_with fail
                  go_roundw
                  case rel => exact ⟨_, j + 1, a2, f2, rfl, by omega, by go_num, Lib.hid (by rw [← hHEL.out]; exact HC.out), HC2, Lib.hid HSI2.out.2, HO2, HB, by omega⟩
                  case measure => simp [intOf]; omega
                | false =>
                  rw [hI] at c1
                  have e1 : it j = leb (N j) := by
                    rw [HIT.out]; unfold iti; rw [if_neg (by rw [hI]; decide)]
                  have hwt := whole_num hjk e1 hN
                  have hsi := HSI.out.num hjk e1 hN
                  rw [← hHF.out, ← hHEL.out] at hwt
                  rw [← hHF.out, ← hHSL.out.1, ← hHEL.out] at hsi
                  have HSI2 := Lib.hid hsi; clear hsi e1
                  have HWT := Lib.hid hwt; clear hwt
                  go_wp2_with fail
                  have hct := cprnum_any wv p g FL (bb it j).length 0 hlt6.out (by rw [← hHLN.out]; omega) HC.out
                  rw [HWT.out] at hct
                  refine hct.mono ?_
                  clear hct
                  rintro e y1 ⟨rfl, hcr, hgr⟩
                  have hbs := HB.out.size
                  have hs9 := hgr.size
                  replace HC : Hid (CR y1 p g FL el 0) := Lib.hid hcr; clear hcr
                  replace HC2 : Hid (CR y1 p2 g2 SL a f) := Lib.hid (HC2.out.keep hgr.size (hgr.block p2 (by omega) (fun e => by cases e; omega)) (hgr.block g2 (by omega) (fun e => by cases e; omega)))
                  replace HO2 := Lib.hid (HO2.out.kept hgr (.inr (fun e => by have := HE6.out p e; omega)))
                  replace HB := Lib.hid (HB.out.trans (grown_low hgr hbs (by omega)))
                  clear hgr hbs
                  go_wp2_with fail
                  refine (cprnum_any y1 p2 g2 SL a f hHSL.out.2.2 (by rw [hHSL.out.2.1]; omega) HC2.out).mono ?_
                  rintro e y2 ⟨rfl, hcr, hgr⟩
                  have hbs := HB.out.size
                  have hs8 := hgr.size
                  replace HC : Hid (CR y2 p g FL el 0) := Lib.hid (HC.out.keep hgr.size (hgr.block p (by omega) (fun e => by cases e; omega)) (hgr.block g (by omega) (fun e => by cases e; omega)))
                  replace HC2 := Lib.hid hcr; clear hcr
                  replace HO2 := Lib.hid (HO2.out.kept hgr (.inr (fun e => by have := HE6.out p2 e; omega)))
                  replace HB := Lib.hid (HB.out.trans (grown_low hgr hbs (by omega)))
                  clear hbs
                  clear hgr
                  generalize rdNum SL a f = rr at *
                  obtain ⟨rv, a2, f2⟩ := rr
                  simp only at HC2 HSI2
                  replace c0 := (HB.out.cell (p := ad.add (j * 3)) (by rw [add_block]; exact had)).trans HRW.out.1
                  clear c1 c2 hce
                  obtain rfl := HSI2.out.1 hw
                  go_wp2_with fail
                  refine (cprdone_bel y2 p2 g2 SL a2 f2 (by rw [hHSL.out.2.1]; omega) HC2.out).mono ?_
                  generalize rdDone SL a2 f2 = dd at *
                  rintro e y3 ⟨rfl, hb⟩
                  have hbs := HB.out.size
                  have hs7 := hb.size
                  replace HC := Lib.hid (HC.out.call hb)
                  replace HC2 := Lib.hid (HC2.out.call hb)
                  replace HO2 := Lib.hid (own_below HO2.out hb)
                  replace HB := Lib.hid (HB.out.trans (hb.mono hbs))
                  clear hb hbs
                  go_wp2_with fail
                  go_roundw
                  case rel => exact ⟨_, j + 1, a2, f2, rfl, by omega, by go_num, Lib.hid (by rw [← hHEL.out]; exact HC.out), HC2, Lib.hid HSI2.out.2, HO2, HB, by omega⟩
                  case measure => simp [intOf]; omega
              · have hwi : ¬ (el : Int) ≤ (nn : Int) := by omega
                cases hI : I j with
                | true =>
                  rw [hI] at c1
                  have e1 : it j = leb ((T j).map UInt8.toNat).length ++ (T j).map UInt8.toNat := by
                    rw [HIT.out, List.length_map]; unfold iti; rw [if_pos hI]
                  have hwt := whole_text hjk e1 (by rw [List.length_map, ← hHN.out]; exact hn2)
                  have hsi := HSI.out.text hjk e1 (by rw [List.length_map, ← hHN.out]; exact hn2)
                  rw [← hHF.out, ← hHEL.out] at hwt
                  rw [← hHF.out, ← hHSL.out.1, ← hHEL.out] at hsi
                  have HSI2 := Lib.hid hsi; clear hsi e1
                  have HWT := Lib.hid hwt; clear hwt
                  go_wp2_with fail
                  have hct := cprtext_any wv p g FL (bb it j).length 0 hlt6.out (by rw [← hHLN.out]; omega) HC.out 200 (by omega)
                  rw [HWT.out] at hct
                  refine hct.mono ?_
                  clear hct
                  rintro e y1 ⟨v1, rfl, hov, hcr, hgr⟩
                  have hbs := HB.out.size
                  have hs9 := hgr.size
                  replace HC : Hid (CR y1 p g FL el 0) := Lib.hid hcr; clear hcr
                  replace HC2 : Hid (CR y1 p2 g2 SL a f) := Lib.hid (HC2.out.keep hgr.size (hgr.block p2 (by omega) (fun e => by cases e; omega)) (hgr.block g2 (by omega) (fun e => by cases e; omega)))
                  replace HO2 := Lib.hid (HO2.out.kept hgr (.inr (fun e => by have := HE6.out p e; omega)))
                  replace HB := Lib.hid (HB.out.trans (grown_low hgr hbs (by omega)))
                  clear hgr hbs
                  have HOV : Hid (y1.ownsRow wv.heap.size 5 1 v1 n (vb (T j))) := Lib.hid (by
                    have h : y1.ownsRow wv.heap.size 5 1 v1 ((T j).map UInt8.toNat).length (vn ((T j).map UInt8.toNat)) := hov
                    rw [List.length_map, ← hHN.out, ← vb_vnP] at h
                    exact h)
                  clear hov
                  go_wp2_with fail
                  refine (cprtext_any y1 p2 g2 SL a f hHSL.out.2.2 (by rw [hHSL.out.2.1]; omega) HC2.out 200 (by omega)).mono ?_
                  rintro e y2 ⟨v2, rfl, hov2, hcr, hgr⟩
                  have hbs := HB.out.size
                  have hs8 := hgr.size
                  replace HC : Hid (CR y2 p g FL el 0) := Lib.hid (HC.out.keep hgr.size (hgr.block p (by omega) (fun e => by cases e; omega)) (hgr.block g (by omega) (fun e => by cases e; omega)))
                  replace HC2 := Lib.hid hcr; clear hcr
                  replace HO2 := Lib.hid (HO2.out.kept hgr (.inr (fun e => by have := HE6.out p2 e; omega)))
                  replace HB := Lib.hid (HB.out.trans (grown_low hgr hbs (by omega)))
                  clear hbs
                  replace HOV := Lib.hid (own_grownP HOV.out hgr (by omega))
                  clear hgr
                  generalize rdText SL a f 200 = rr at *
                  obtain ⟨rv, a2, f2⟩ := rr
                  simp only at HC2 HSI2 hov2
                  replace c2 : y2.cell? ⟨(ad.add (j * 3)).block, (ad.add (j * 3)).off + 2, none⟩ = some (.slice (B j) n (C j)) := by
                    have e : (⟨(ad.add (j * 3)).block, (ad.add (j * 3)).off + 2, none⟩ : Addr) = ad.add (j * 3 + 2) := by rw [← add_add]; rfl
                    rw [e, hHN.out]
                    exact (HB.out.cell (p := ad.add (j * 3 + 2)) (by rw [add_block]; exact had)).trans HRW.out.2
                  clear c0 c1 hce
                  obtain ⟨A1, c3, rfl, _, r1⟩ := Rd.of_own HOV.out
                  have RA : Hid (∀ w' : World, Below y2.heap.size y2 w' → (convert 24 9 (.slice A1 n c3)).run Try.prog w' = .ok (.string ⟨(T j).toArray⟩) w') := Lib.hid fun w' hb => run_str (P := Try.prog) 24 9 5 Try.underlying24 Try.underlying5 Try.underlying9 (n := n) hHN.out.symm c3 (r1.below hb)
                  have RB : Hid (∀ w' : World, Below y2.heap.size y2 w' → (convert 24 9 (.slice (B j) n (C j))).run Try.prog w' = .ok (.string ⟨(T j).toArray⟩) w') := Lib.hid fun w' hb => run_str (P := Try.prog) 24 9 5 Try.underlying24 Try.underlying5 Try.underlying9 (n := n) hHN.out.symm (C j) (HRD.out.below (HB.out.trans (hb.mono HB.out.size)))
                  have CELL : Hid (∀ w' : World, Below y2.heap.size y2 w' → w'.cell? ⟨(ad.add (j * 3)).block, (ad.add (j * 3)).off + 2, none⟩ = some (.slice (B j) n (C j))) := Lib.hid fun w' hb => (hb.cell (p := ⟨(ad.add (j * 3)).block, (ad.add (j * 3)).off + 2, none⟩) (by have := HB.out.size; show (ad.add (j * 3)).block < y2.heap.size; rw [add_block]; omega)).trans c2
                  clear c2
                  clear r1
                  clear hov2
                  go_upto_region 27 with fail
                  refine wp_region_noPanic ?_
                  refine wp_region_held_drew (S := (fun w' => Below y2.heap.size y2 w')) (by kernel_rfl) ?_ (fun hHeld => ?_)
                  · exact (Below.refl y2.heap.size y2).drew
                  have hs2 : Below y2.heap.size y2 y2.drew := (Below.refl y2.heap.size y2).drew
                  generalize y2.drew = ws1 at *
                  refine wpAnyH_take (i := 0) (v := ?_) rfl (by kernel_rfl) (by kernel_rfl) (by kernel_rfl) (fun _ _ _ h => h) (Or.inl ⟨by rfl, ?_⟩) hHeld ?_
                  rotate_left
                  · intro w' hSw
                    (try dsimp only at hSw)
                    go_simp
                    try with_reducible rfl
                  try simp only [Act.put, zq1, zq2, zq3, zq4, zq5, zq6]
                  refine wpAnyH_take (i := 1) (v := ?_) rfl (by kernel_rfl) (by kernel_rfl) (by kernel_rfl) (fun _ _ _ h => h) (Or.inl ⟨by rfl, ?_⟩) hHeld ?_
                  rotate_left
                  · intro w' hSw
                    (try dsimp only at hSw)
                    have rr := RA.out w' hSw
                    go_simp
                    try with_reducible rfl
                  try simp only [Act.put, zq1, zq2, zq3, zq4, zq5, zq6]
                  refine wpAnyH_take (i := 2) (v := ?_) rfl (by kernel_rfl) (by kernel_rfl) (by kernel_rfl) (fun _ _ _ h => h) (Or.inl ⟨by rfl, ?_⟩) hHeld ?_
                  rotate_left
                  · intro w' hSw
                    (try dsimp only at hSw)
                    go_simp
                    try with_reducible rfl
                  try simp only [Act.put, zq1, zq2, zq3, zq4, zq5, zq6]
                  refine wpAnyH_take (i := 3) (v := ?_) rfl (by kernel_rfl) (by kernel_rfl) (by kernel_rfl) (fun _ _ _ h => h) (Or.inl ⟨by rfl, ?_⟩) hHeld ?_
                  rotate_left
                  · intro w' hSw
                    (try dsimp only at hSw)
                    go_simp
                    try with_reducible rfl
                  try simp only [Act.put, zq1, zq2, zq3, zq4, zq5, zq6]
                  refine wpAnyH_take (i := 4) (v := ?_) rfl (by kernel_rfl) (by kernel_rfl) (by kernel_rfl) (fun _ _ _ h => h) (Or.inl ⟨by rfl, ?_⟩) hHeld ?_
                  rotate_left
                  · intro w' hSw
                    (try dsimp only at hSw)
                    go_simp
                    try with_reducible rfl
                  try simp only [Act.put, zq1, zq2, zq3, zq4, zq5, zq6]
                  refine wpAnyH_take (i := 5) (v := ?_) rfl (by kernel_rfl) (by kernel_rfl) (by kernel_rfl) (fun _ _ _ h => h) (Or.inl ⟨by rfl, ?_⟩) hHeld ?_
                  rotate_left
                  · intro w' hSw
                    (try dsimp only at hSw)
                    go_simp
                    try with_reducible rfl
                  try simp only [Act.put, zq1, zq2, zq3, zq4, zq5, zq6]
                  refine wpAnyH_take (i := 6) (v := ?_) rfl (by kernel_rfl) (by kernel_rfl) (by kernel_rfl) (fun _ _ _ h => h) (Or.inl ⟨by rfl, ?_⟩) hHeld ?_
                  rotate_left
                  · intro w' hSw
                    (try dsimp only at hSw)
                    have rr := CELL.out w' hSw
                    go_simp
                    try with_reducible rfl
                  try simp only [Act.put, zq1, zq2, zq3, zq4, zq5, zq6]
                  refine wpAnyH_take (i := 7) (v := ?_) rfl (by kernel_rfl) (by kernel_rfl) (by kernel_rfl) (fun _ _ _ h => h) (Or.inl ⟨by rfl, ?_⟩) hHeld ?_
                  rotate_left
                  · intro w' hSw
                    (try dsimp only at hSw)
                    have rr := RB.out w' hSw
                    go_simp
                    try with_reducible rfl
                  try simp only [Act.put, zq1, zq2, zq3, zq4, zq5, zq6]
                  refine wpAnyH_take (i := 8) (v := ?_) rfl (by kernel_rfl) (by kernel_rfl) (by kernel_rfl) (fun _ _ _ h => h) (Or.inl ⟨by rfl, ?_⟩) hHeld ?_
                  rotate_left
                  · intro w' hSw
                    (try dsimp only at hSw)
                    go_simp
                    try with_reducible rfl
                  try simp only [Act.put, zq1, zq2, zq3, zq4, zq5, zq6]
                  refine wpAnyH_take (i := 9) (v := ?_) rfl (by kernel_rfl) (by kernel_rfl) (by kernel_rfl) (fun _ _ _ h => h) (Or.inl ⟨by rfl, ?_⟩) hHeld ?_
                  rotate_left
                  · intro w' hSw
                    (try dsimp only at hSw)
                    go_simp
                    try with_reducible rfl
                  try simp only [Act.put, zq1, zq2, zq3, zq4, zq5, zq6]
                  refine wpAnyH_take (i := 10) (v := ?_) rfl (by kernel_rfl) (by kernel_rfl) (by kernel_rfl) (fun _ _ _ h => h) (Or.inl ⟨by rfl, ?_⟩) hHeld ?_
                  rotate_left
                  · intro w' hSw
                    (try dsimp only at hSw)
                    go_simp
                    try with_reducible rfl
                  try simp only [Act.put, zq1, zq2, zq3, zq4, zq5, zq6]
                  refine wpAnyH_take (i := 11) (v := ?_) rfl (by kernel_rfl) (by kernel_rfl) (by kernel_rfl) (fun _ _ _ h => h) (Or.inl ⟨by rfl, ?_⟩) hHeld ?_
                  rotate_left
                  · intro w' hSw
                    (try dsimp only at hSw)
                    go_simp
                    try with_reducible rfl
                  try simp only [Act.put, zq1, zq2, zq3, zq4, zq5, zq6]
                  refine wpAnyH_take (i := 12) (v := undef) rfl (by kernel_rfl) (by kernel_rfl) (by kernel_rfl) (fun _ _ _ h => h) (Or.inr ⟨by rfl, rfl⟩) hHeld ?_
                  try simp only [Act.put, zq1, zq2, zq3, zq4, zq5, zq6]
                  refine wpAnyH_take (i := 13) (v := undef) rfl (by kernel_rfl) (by kernel_rfl) (by kernel_rfl) (fun _ _ _ h => h) (Or.inr ⟨by rfl, rfl⟩) hHeld ?_
                  try simp only [Act.put, zq1, zq2, zq3, zq4, zq5, zq6]
                  refine wpAnyH_take (i := 14) (v := undef) rfl (by kernel_rfl) (by kernel_rfl) (by kernel_rfl) (fun _ _ _ h => h) (Or.inr ⟨by rfl, rfl⟩) hHeld ?_
                  try simp only [Act.put, zq1, zq2, zq3, zq4, zq5, zq6]
                  refine wpAnyH_take (i := 15) (v := undef) rfl (by kernel_rfl) (by kernel_rfl) (by kernel_rfl) (fun _ _ _ h => h) (Or.inr ⟨by rfl, rfl⟩) hHeld ?_
                  try simp only [Act.put, zq1, zq2, zq3, zq4, zq5, zq6]
                  refine wpAnyH_take (i := 16) (v := undef) rfl (by kernel_rfl) (by kernel_rfl) (by kernel_rfl) (fun _ _ _ h => h) (Or.inr ⟨by rfl, rfl⟩) hHeld ?_
                  try simp only [Act.put, zq1, zq2, zq3, zq4, zq5, zq6]
                  refine wpAnyH_take (i := 17) (v := ?_) rfl (by kernel_rfl) (by kernel_rfl) (by kernel_rfl) (fun _ _ _ h => h) (Or.inl ⟨by rfl, ?_⟩) hHeld ?_
                  rotate_left
                  · intro w' hSw
                    (try dsimp only at hSw)
                    go_simp
                    try with_reducible rfl
                  try simp only [Act.put, zq1, zq2, zq3, zq4, zq5, zq6]
                  refine wpAnyH_take (i := 18) (v := ?_) rfl (by kernel_rfl) (by kernel_rfl) (by kernel_rfl) (fun _ _ _ h => h) (Or.inl ⟨by rfl, ?_⟩) hHeld ?_
                  rotate_left
                  · intro w' hSw
                    (try dsimp only at hSw)
                    go_simp
                    try with_reducible rfl
                  try simp only [Act.put, zq1, zq2, zq3, zq4, zq5, zq6]
                  refine wpAnyH_done (by kernel_rfl) ?_ _
                  refine NoPanic.normal ?_
                  replace HC := Lib.hid (HC.out.call hs2)
                  replace HC2 := Lib.hid (HC2.out.call hs2)
                  replace HO2 := Lib.hid (own_below HO2.out hs2)
                  replace HB := Lib.hid (HB.out.trans (hs2.mono HB.out.size))
                  have hsx := hs2.size
                  go_wp2_with fail
                  refine (cprdone_bel ws1 p2 g2 SL a2 f2 (by rw [hHSL.out.2.1]; omega) HC2.out).mono ?_
                  have hdd : rdDone SL a2 f2 = 4 := by
                    have h4 := HSI2.out.2.fault (by rw [← hHEL.out]; exact hw)
                    unfold rdDone
                    rw [if_neg (by rw [h4]; omega), h4]
                  rw [hdd]
                  clear hdd
                  rintro e y3 ⟨rfl, hb⟩
                  have hbs := HB.out.size
                  have hs7 := hb.size
                  replace HC := Lib.hid (HC.out.call hb)
                  replace HC2 := Lib.hid (HC2.out.call hb)
                  replace HO2 := Lib.hid (own_below HO2.out hb)
                  replace HB := Lib.hid (HB.out.trans (hb.mono hbs))
                  clear hb hbs
                  go_wp2_with fail
                  go_roundw
                  case rel => exact ⟨_, j + 1, a2, f2, rfl, by omega, by go_num, Lib.hid (by rw [← hHEL.out]; exact HC.out), HC2, Lib.hid HSI2.out.2, HO2, HB, by omega⟩
                  case measure => simp [intOf]; omega
                | false =>
                  rw [hI] at c1
                  have e1 : it j = leb (N j) := by
                    rw [HIT.out]; unfold iti; rw [if_neg (by rw [hI]; decide)]
                  have hwt := whole_num hjk e1 hN
                  have hsi := HSI.out.num hjk e1 hN
                  rw [← hHF.out, ← hHEL.out] at hwt
                  rw [← hHF.out, ← hHSL.out.1, ← hHEL.out] at hsi
                  have HSI2 := Lib.hid hsi; clear hsi e1
                  have HWT := Lib.hid hwt; clear hwt
                  go_wp2_with fail
                  have hct := cprnum_any wv p g FL (bb it j).length 0 hlt6.out (by rw [← hHLN.out]; omega) HC.out
                  rw [HWT.out] at hct
                  refine hct.mono ?_
                  clear hct
                  rintro e y1 ⟨rfl, hcr, hgr⟩
                  have hbs := HB.out.size
                  have hs9 := hgr.size
                  replace HC : Hid (CR y1 p g FL el 0) := Lib.hid hcr; clear hcr
                  replace HC2 : Hid (CR y1 p2 g2 SL a f) := Lib.hid (HC2.out.keep hgr.size (hgr.block p2 (by omega) (fun e => by cases e; omega)) (hgr.block g2 (by omega) (fun e => by cases e; omega)))
                  replace HO2 := Lib.hid (HO2.out.kept hgr (.inr (fun e => by have := HE6.out p e; omega)))
                  replace HB := Lib.hid (HB.out.trans (grown_low hgr hbs (by omega)))
                  clear hgr hbs
                  go_wp2_with fail
                  refine (cprnum_any y1 p2 g2 SL a f hHSL.out.2.2 (by rw [hHSL.out.2.1]; omega) HC2.out).mono ?_
                  rintro e y2 ⟨rfl, hcr, hgr⟩
                  have hbs := HB.out.size
                  have hs8 := hgr.size
                  replace HC : Hid (CR y2 p g FL el 0) := Lib.hid (HC.out.keep hgr.size (hgr.block p (by omega) (fun e => by cases e; omega)) (hgr.block g (by omega) (fun e => by cases e; omega)))
                  replace HC2 := Lib.hid hcr; clear hcr
                  replace HO2 := Lib.hid (HO2.out.kept hgr (.inr (fun e => by have := HE6.out p2 e; omega)))
                  replace HB := Lib.hid (HB.out.trans (grown_low hgr hbs (by omega)))
                  clear hbs
                  clear hgr
                  generalize rdNum SL a f = rr at *
                  obtain ⟨rv, a2, f2⟩ := rr
                  simp only at HC2 HSI2
                  replace c0 := (HB.out.cell (p := ad.add (j * 3)) (by rw [add_block]; exact had)).trans HRW.out.1
                  clear c1 c2 hce
                  skip
                  go_wp2_with fail
                  refine (cprdone_bel y2 p2 g2 SL a2 f2 (by rw [hHSL.out.2.1]; omega) HC2.out).mono ?_
                  have hdd : rdDone SL a2 f2 = 4 := by
                    have h4 := HSI2.out.2.fault (by rw [← hHEL.out]; exact hw)
                    unfold rdDone
                    rw [if_neg (by rw [h4]; omega), h4]
                  rw [hdd]
                  clear hdd
                  rintro e y3 ⟨rfl, hb⟩
                  have hbs := HB.out.size
                  have hs7 := hb.size
                  replace HC := Lib.hid (HC.out.call hb)
                  replace HC2 := Lib.hid (HC2.out.call hb)
                  replace HO2 := Lib.hid (own_below HO2.out hb)
                  replace HB := Lib.hid (HB.out.trans (hb.mono hbs))
                  clear hb hbs
                  go_wp2_with fail
                  go_roundw
                  case rel => exact ⟨_, j + 1, a2, f2, rfl, by omega, by go_num, Lib.hid (by rw [← hHEL.out]; exact HC.out), HC2, Lib.hid HSI2.out.2, HO2, HB, by omega⟩
                  case measure => simp [intOf]; omega
            · obtain rfl : j = k := by omega
              have hfin : rdDone FL (bb it j).length 0 = 0 := by
                unfold rdDone
                rw [if_neg (by rw [hHF.out]; omega)]
              have hfl : (bb it j).length = ln := by rw [hHLN.out, hHF.out]
              go_wp2_with fail
              refine (cprdone_bel _ p g FL (bb it j).length 0 (by rw [← hHLN.out]; omega) HC.out).mono ?_
              rw [hfin, hfl]
              rintro e x1 ⟨rfl, hb⟩
              replace HB := Lib.hid (HB.out.trans (hb.mono HB.out.size)); clear hb hfin hfl
              go_wp2_with fail
              refine (known07_any _).mono ?_
              rintro e wz ⟨rfl, hz⟩
              go_wp2_with fail
              go_ret
              exact ⟨rfl, HB.out.trans (hz.mono HB.out.size)⟩
        · have hnl : ln ≤ ln := by omega
          go_wp2_with fail
          obtain ⟨SL, hSL⟩ : ∃ SL, SL = FL.take ln := ⟨_, rfl⟩
          have hSLlen : SL.length = ln := by rw [hSL, List.length_take, ← hHLN.out]; omega
          have hSLlt : ∀ x ∈ SL, x < 256 := by rw [hSL]; exact fun x hx => hlt6.out x (List.mem_of_mem_take hx)
          have hHSL := Lib.hid (And.intro hSL (And.intro hSLlen hSLlt)); clear hSL hSLlen hSLlt
          have qs : ∀ w : World, (Instr.slice 24 (.slice A ln c) none (some (.int .i64 (ln : Int))) none).run Try.prog w = .ok (.slice A ln c) w := fun w => run_head (P := Try.prog) 24 5 j0 Try.underlying24 HJ.out.1 A ln c ln (by omega) w
          go_region_held3 (fun _ => True) (trivial)
            ((first
              | (go_at_call 16; refine (cpnew_any A SL ln c hHSL.out.2.1 hHSL.out.2.2 (by omega) (by omega) _ (by rw [hHSL.out.1]; exact (HRA.out.go (by first | exact hbw | exact hbw.drew)).prefP _)).mono ?_; rintro e w2 ⟨p2, g2, rfl, hp2, hg2, hcr2, hb2⟩; have hbw2 : Below w1.heap.size w1 w2 := (by first | exact hb2 | exact (Below.refl _ _).drew.trans (hb2.mono (Nat.le_refl _))))
              | (go_at_call 16; refine (cpnew_any A FL ln c hHLN.out.symm hlt6.out (by omega) hcap _ (HRA.out.go (by first | exact Below.refl _ _ | exact (Below.refl _ _).drew))).mono ?_; rintro e w1 ⟨p, g, rfl, hp, hg, hcr, hb⟩; have hbw : Below wr.heap.size wr w1 := (by first | exact hb | exact (Below.refl _ _).drew.trans (hb.mono (Nat.le_refl _))))))
          have hq1 : wr.heap.size ≤ p := by simpa using hp
          have hq2 : wr.heap.size ≤ g := by simpa using hg
          have hq3 : w1.heap.size ≤ p2 := by simpa using hp2
          have hq4 : w1.heap.size ≤ g2 := by simpa using hg2
          have hq5 := hcr.lp
          have hq6 := hcr.lg
          have hq7 := hcr2.lp
          have hq8 := hcr2.lg
          have hsA : w.heap.size ≤ wr.heap.size := HB.out.size
          have hsA1 : wr.heap.size ≤ w1.heap.size := hbw.size
          have HE6 : Hid (∀ q, u6.ownBlock = some q → q < wr.heap.size) := Lib.hid fun q e => (HO2.out.lt q e).2
          have HC := Lib.hid (hcr.call hbw2)
          have HC2 := Lib.hid hcr2
          replace HO2 := Lib.hid (own_below (own_below HO2.out hbw) hbw2)
          replace HB := Lib.hid ((HB.out.trans (hbw.mono HB.out.size)).trans (hbw2.mono (Nat.le_trans HB.out.size hbw.size)))
          have hsB := HB.out.size
          clear hcr hcr2 hb hb2 hbw hbw2 hp hg hp2 hg2 HO1 HD hbk qs
          go_wp2_with fail
          go_loopw [88] (fun i wx => ∃ (wv : World) (j a f : Nat), wv = wx ∧ j ≤ k ∧ i = .int .i64 (j : Int) ∧ Hid (CR wx p g FL (bb it j).length 0) ∧ Hid (CR wx p2 g2 SL a f) ∧ Hid (SI it ln j a f) ∧ Hid (wx.ownsRow w.heap.size 3 1 u6 k (bends it k)) ∧ Hid (Below w.heap.size w wx) ∧ w2.heap.size ≤ wx.heap.size) (fun i _ => k - (intOf i).toNat)
          case atStart => exact ⟨_, 0, 0, 0, rfl, by omega, rfl, HC, HC2, Lib.hid (SI.start _ _), HO2, HB, Nat.le_refl _⟩
          case round =>
            clear HC HC2 HO2 HB
            obtain ⟨wv, j, a, f, rfl, hj, rfl, HC, HC2, HSI, HO2, HB, hsz⟩ := hrel
            by_cases hjk : j < k
            · have hji : (j : Int) < (k : Int) := by omega
              obtain ⟨hN, hR, hC, ad, rfl, had, c0, c1, c2⟩ := HLL.out j hjk
              have HRW := Lib.hid (And.intro c0 c2)
              replace c0 := (HB.out.cell (p := ad.add (j * 3)) (by rw [add_block]; exact had)).trans c0
              replace c1 : wv.cell? ⟨(ad.add (j * 3)).block, (ad.add (j * 3)).off + 1, none⟩ = some (.bool (I j)) := by
                have e : (⟨(ad.add (j * 3)).block, (ad.add (j * 3)).off + 1, none⟩ : Addr) = ad.add (j * 3 + 1) := by rw [← add_add]; rfl
                rw [e]
                exact (HB.out.cell (p := ad.add (j * 3 + 1)) (by rw [add_block]; exact had)).trans c1
              replace c2 : wv.cell? ⟨(ad.add (j * 3)).block, (ad.add (j * 3)).off + 2, none⟩ = some (.slice (B j) (T j).length (C j)) := by
                have e : (⟨(ad.add (j * 3)).block, (ad.add (j * 3)).off + 2, none⟩ : Addr) = ad.add (j * 3 + 2) := by rw [← add_add]; rfl
                rw [e]
                exact (HB.out.cell (p := ad.add (j * 3 + 2)) (by rw [add_block]; exact had)).trans c2
              obtain ⟨n, hn⟩ : ∃ n, n = (T j).length := ⟨_, rfl⟩
              have hn2 : n ≤ 200 := by rw [hn]; exact HT2.out j hjk
              have hwr : IntKind.i64.wrap ((j : Int) + 1) = (j : Int) + 1 := IntWalk.i64_in _ (by omega)
              have HRD := Lib.hid hR; clear hR
              rw [← hn] at c2 hC
              have hHN := Lib.hid hn; clear hn
              obtain ⟨ge, ce, rfl, _, _⟩ := HO2.out.form (by omega)
              have hce := (HO2.out.cellAt j (by omega)).trans (bends_get it k j hjk)
              obtain ⟨el, hel⟩ : ∃ el, el = (bb it (j + 1)).length := ⟨_, rfl⟩
              rw [← hel] at hce
              have hHEL := Lib.hid hel; clear hel
              by_cases hw : el ≤ ln
              · have hwi : (el : Int) ≤ (ln : Int) := by omega
                cases hI : I j with
                | true =>
                  rw [hI] at c1
                  have e1 : it j = leb ((T j).map UInt8.toNat).length ++ (T j).map UInt8.toNat := by
                    rw [HIT.out, List.length_map]; unfold iti; rw [if_pos hI]
                  have hwt := whole_text hjk e1 (by rw [List.length_map, ← hHN.out]; exact hn2)
                  have hsi := HSI.out.text hjk e1 (by rw [List.length_map, ← hHN.out]; exact hn2)
                  rw [← hHF.out, ← hHEL.out] at hwt
                  rw [← hHF.out, ← hHSL.out.1, ← hHEL.out] at hsi
                  have HSI2 := Lib.hid hsi; clear hsi e1
                  have HWT := Lib.hid hwt; clear hwt
                  go_wp2_with fail
                  have hct := cprtext_any wv p g FL (bb it j).length 0 hlt6.out (by rw [← hHLN.out]; omega) HC.out 200 (by omega)
                  rw [HWT.out] at hct
                  refine hct.mono ?_
                  clear hct
                  rintro e y1 ⟨v1, rfl, hov, hcr, hgr⟩
                  have hbs := HB.out.size
                  have hs9 := hgr.size
                  replace HC : Hid (CR y1 p g FL el 0) := Lib.hid hcr; clear hcr
                  replace HC2 : Hid (CR y1 p2 g2 SL a f) := Lib.hid (HC2.out.keep hgr.size (hgr.block p2 (by omega) (fun e => by cases e; omega)) (hgr.block g2 (by omega) (fun e => by cases e; omega)))
                  replace HO2 := Lib.hid (HO2.out.kept hgr (.inr (fun e => by have := HE6.out p e; omega)))
                  replace HB := Lib.hid (HB.out.trans (grown_low hgr hbs (by omega)))
                  clear hgr hbs
                  have HOV : Hid (y1.ownsRow wv.heap.size 5 1 v1 n (vb (T j))) := Lib.hid (by
                    have h : y1.ownsRow wv.heap.size 5 1 v1 ((T j).map UInt8.toNat).length (vn ((T j).map UInt8.toNat)) := hov
                    rw [List.length_map, ← hHN.out, ← vb_vnP] at h
                    exact h)
                  clear hov
                  go_wp2_with fail
                  refine (cprtext_any y1 p2 g2 SL a f hHSL.out.2.2 (by rw [hHSL.out.2.1]; omega) HC2.out 200 (by omega)).mono ?_
                  rintro e y2 ⟨v2, rfl, hov2, hcr, hgr⟩
                  have hbs := HB.out.size
                  have hs8 := hgr.size
                  replace HC : Hid (CR y2 p g FL el 0) := Lib.hid (HC.out.keep hgr.size (hgr.block p (by omega) (fun e => by cases e; omega)) (hgr.block g (by omega) (fun e => by cases e; omega)))
                  replace HC2 := Lib.hid hcr; clear hcr
                  replace HO2 := Lib.hid (HO2.out.kept hgr (.inr (fun e => by have := HE6.out p2 e; omega)))
                  replace HB := Lib.hid (HB.out.trans (grown_low hgr hbs (by omega)))
                  clear hbs
                  replace HOV := Lib.hid (own_grownP HOV.out hgr (by omega))
                  clear hgr
                  generalize rdText SL a f 200 = rr at *
                  obtain ⟨rv, a2, f2⟩ := rr
                  simp only at HC2 HSI2 hov2
                  replace c2 : y2.cell? ⟨(ad.add (j * 3)).block, (ad.add (j * 3)).off + 2, none⟩ = some (.slice (B j) n (C j)) := by
                    have e : (⟨(ad.add (j * 3)).block, (ad.add (j * 3)).off + 2, none⟩ : Addr) = ad.add (j * 3 + 2) := by rw [← add_add]; rfl
                    rw [e, hHN.out]
                    exact (HB.out.cell (p := ad.add (j * 3 + 2)) (by rw [add_block]; exact had)).trans HRW.out.2
                  clear c0 c1 hce
                  obtain ⟨A1, c3, rfl, _, r1⟩ := Rd.of_own HOV.out
                  have RA : Hid (∀ w' : World, Below y2.heap.size y2 w' → (convert 24 9 (.slice A1 n c3)).run Try.prog w' = .ok (.string ⟨(T j).toArray⟩) w') := Lib.hid fun w' hb => run_str (P := Try.prog) 24 9 5 Try.underlying24 Try.underlying5 Try.underlying9 (n := n) hHN.out.symm c3 (r1.below hb)
                  have RB : Hid (∀ w' : World, Below y2.heap.size y2 w' → (convert 24 9 (.slice (B j) n (C j))).run Try.prog w' = .ok (.string ⟨(T j).toArray⟩) w') := Lib.hid fun w' hb => run_str (P := Try.prog) 24 9 5 Try.underlying24 Try.underlying5 Try.underlying9 (n := n) hHN.out.symm (C j) (HRD.out.below (HB.out.trans (hb.mono HB.out.size)))
                  have CELL : Hid (∀ w' : World, Below y2.heap.size y2 w' → w'.cell? ⟨(ad.add (j * 3)).block, (ad.add (j * 3)).off + 2, none⟩ = some (.slice (B j) n (C j))) := Lib.hid fun w' hb => (hb.cell (p := ⟨(ad.add (j * 3)).block, (ad.add (j * 3)).off + 2, none⟩) (by have := HB.out.size; show (ad.add (j * 3)).block < y2.heap.size; rw [add_block]; omega)).trans c2
                  clear c2
                  clear r1
                  obtain rfl := HSI2.out.1 hw
                  have HOW : Hid (y2.ownsRow y1.heap.size 5 1 v2 n (vb (T j))) := Lib.hid (by
                    have h : y2.ownsRow y1.heap.size 5 1 v2 ((T j).map UInt8.toNat).length (vn ((T j).map UInt8.toNat)) := hov2
                    rw [List.length_map, ← hHN.out, ← vb_vnP] at h
                    exact h)
                  clear hov2
                  obtain ⟨A2, c4, rfl, _, r2⟩ := Rd.of_own HOW.out
                  have RC : Hid (∀ w' : World, Below y2.heap.size y2 w' → (convert 24 9 (.slice A2 n c4)).run Try.prog w' = .ok (.string ⟨(T j).toArray⟩) w') := Lib.hid fun w' hb => run_str (P := Try.prog) 24 9 5 Try.underlying24 Try.underlying5 Try.underlying9 (n := n) hHN.out.symm c4 (r2.below hb)
                  clear r2
                  go_upto_region 27 with fail
                  refine wp_region_noPanic ?_
                  refine wp_region_held_drew (S := (fun w' => Below y2.heap.size y2 w')) (by kernel_rfl) ?_ (fun hHeld => ?_)
                  · exact (Below.refl y2.heap.size y2).drew
                  have hs2 : Below y2.heap.size y2 y2.drew := (Below.refl y2.heap.size y2).drew
                  generalize y2.drew = ws1 at *
                  refine wpAnyH_take (i := 0) (v := ?_) rfl (by kernel_rfl) (by kernel_rfl) (by kernel_rfl) (fun _ _ _ h => h) (Or.inl ⟨by rfl, ?_⟩) hHeld ?_
                  rotate_left
                  · intro w' hSw
                    (try dsimp only at hSw)
                    go_simp
                    try with_reducible rfl
                  try simp only [Act.put, zq1, zq2, zq3, zq4, zq5, zq6]
                  refine wpAnyH_take (i := 1) (v := ?_) rfl (by kernel_rfl) (by kernel_rfl) (by kernel_rfl) (fun _ _ _ h => h) (Or.inl ⟨by rfl, ?_⟩) hHeld ?_
                  rotate_left
                  · intro w' hSw
                    (try dsimp only at hSw)
                    have rr := RA.out w' hSw
                    go_simp
                    try with_reducible rfl
                  try simp only [Act.put, zq1, zq2, zq3, zq4, zq5, zq6]
                  refine wpAnyH_take (i := 2) (v := ?_) rfl (by kernel_rfl) (by kernel_rfl) (by kernel_rfl) (fun _ _ _ h => h) (Or.inl ⟨by rfl, ?_⟩) hHeld ?_
                  rotate_left
                  · intro w' hSw
                    (try dsimp only at hSw)
                    go_simp
                    try with_reducible rfl
                  try simp only [Act.put, zq1, zq2, zq3, zq4, zq5, zq6]
                  refine wpAnyH_take (i := 3) (v := ?_) rfl (by kernel_rfl) (by kernel_rfl) (by kernel_rfl) (fun _ _ _ h => h) (Or.inl ⟨by rfl, ?_⟩) hHeld ?_
                  rotate_left
                  · intro w' hSw
                    (try dsimp only at hSw)
                    go_simp
                    try with_reducible rfl
                  try simp only [Act.put, zq1, zq2, zq3, zq4, zq5, zq6]
                  refine wpAnyH_take (i := 4) (v := ?_) rfl (by kernel_rfl) (by kernel_rfl) (by kernel_rfl) (fun _ _ _ h => h) (Or.inl ⟨by rfl, ?_⟩) hHeld ?_
                  rotate_left
                  · intro w' hSw
                    (try dsimp only at hSw)
                    go_simp
                    try with_reducible rfl
                  try simp only [Act.put, zq1, zq2, zq3, zq4, zq5, zq6]
                  refine wpAnyH_take (i := 5) (v := ?_) rfl (by kernel_rfl) (by kernel_rfl) (by kernel_rfl) (fun _ _ _ h => h) (Or.inl ⟨by rfl, ?_⟩) hHeld ?_
                  rotate_left
                  · intro w' hSw
                    (try dsimp only at hSw)
                    go_simp
                    try with_reducible rfl
                  try simp only [Act.put, zq1, zq2, zq3, zq4, zq5, zq6]
                  refine wpAnyH_take (i := 6) (v := ?_) rfl (by kernel_rfl) (by kernel_rfl) (by kernel_rfl) (fun _ _ _ h => h) (Or.inl ⟨by rfl, ?_⟩) hHeld ?_
                  rotate_left
                  · intro w' hSw
                    (try dsimp only at hSw)
                    have rr := CELL.out w' hSw
                    go_simp
                    try with_reducible rfl
                  try simp only [Act.put, zq1, zq2, zq3, zq4, zq5, zq6]
                  refine wpAnyH_take (i := 7) (v := ?_) rfl (by kernel_rfl) (by kernel_rfl) (by kernel_rfl) (fun _ _ _ h => h) (Or.inl ⟨by rfl, ?_⟩) hHeld ?_
                  rotate_left
                  · intro w' hSw
                    (try dsimp only at hSw)
                    have rr := RB.out w' hSw
                    go_simp
                    try with_reducible rfl
                  try simp only [Act.put, zq1, zq2, zq3, zq4, zq5, zq6]
                  refine wpAnyH_take (i := 8) (v := ?_) rfl (by kernel_rfl) (by kernel_rfl) (by kernel_rfl) (fun _ _ _ h => h) (Or.inl ⟨by rfl, ?_⟩) hHeld ?_
                  rotate_left
                  · intro w' hSw
                    (try dsimp only at hSw)
                    go_simp
                    try with_reducible rfl
                  try simp only [Act.put, zq1, zq2, zq3, zq4, zq5, zq6]
                  refine wpAnyH_take (i := 9) (v := ?_) rfl (by kernel_rfl) (by kernel_rfl) (by kernel_rfl) (fun _ _ _ h => h) (Or.inl ⟨by rfl, ?_⟩) hHeld ?_
                  rotate_left
                  · intro w' hSw
                    (try dsimp only at hSw)
                    go_simp
                    try with_reducible rfl
                  try simp only [Act.put, zq1, zq2, zq3, zq4, zq5, zq6]
                  refine wpAnyH_take (i := 10) (v := ?_) rfl (by kernel_rfl) (by kernel_rfl) (by kernel_rfl) (fun _ _ _ h => h) (Or.inl ⟨by rfl, ?_⟩) hHeld ?_
                  rotate_left
                  · intro w' hSw
                    (try dsimp only at hSw)
                    go_simp
                    try with_reducible rfl
                  try simp only [Act.put, zq1, zq2, zq3, zq4, zq5, zq6]
                  refine wpAnyH_take (i := 11) (v := ?_) rfl (by kernel_rfl) (by kernel_rfl) (by kernel_rfl) (fun _ _ _ h => h) (Or.inl ⟨by rfl, ?_⟩) hHeld ?_
                  rotate_left
                  · intro w' hSw
                    (try dsimp only at hSw)
                    go_simp
                    try with_reducible rfl
                  try simp only [Act.put, zq1, zq2, zq3, zq4, zq5, zq6]
                  refine wpAnyH_take (i := 12) (v := ?_) rfl (by kernel_rfl) (by kernel_rfl) (by kernel_rfl) (fun _ _ _ h => h) (Or.inl ⟨by rfl, ?_⟩) hHeld ?_
                  rotate_left
                  · intro w' hSw
                    (try dsimp only at hSw)
                    go_simp
                    try with_reducible rfl
                  try simp only [Act.put, zq1, zq2, zq3, zq4, zq5, zq6]
                  refine wpAnyH_take (i := 13) (v := ?_) rfl (by kernel_rfl) (by kernel_rfl) (by kernel_rfl) (fun _ _ _ h => h) (Or.inl ⟨by rfl, ?_⟩) hHeld ?_
                  rotate_left
                  · intro w' hSw
                    (try dsimp only at hSw)
                    have rr := RC.out w' hSw
                    go_simp
                    try with_reducible rfl
                  try simp only [Act.put, zq1, zq2, zq3, zq4, zq5, zq6]
                  refine wpAnyH_take (i := 14) (v := ?_) rfl (by kernel_rfl) (by kernel_rfl) (by kernel_rfl) (fun _ _ _ h => h) (Or.inl ⟨by rfl, ?_⟩) hHeld ?_
                  rotate_left
                  · intro w' hSw
                    (try dsimp only at hSw)
                    go_simp
                    try with_reducible rfl
                  try simp only [Act.put, zq1, zq2, zq3, zq4, zq5, zq6]
                  refine wpAnyH_take (i := 15) (v := ?_) rfl (by kernel_rfl) (by kernel_rfl) (by kernel_rfl) (fun _ _ _ h => h) (Or.inl ⟨by rfl, ?_⟩) hHeld ?_
                  rotate_left
                  · intro w' hSw
                    (try dsimp only at hSw)
                    have rr := RA.out w' hSw
                    go_simp
                    try with_reducible rfl
                  try simp only [Act.put, zq1, zq2, zq3, zq4, zq5, zq6]
                  refine wpAnyH_take (i := 16) (v := ?_) rfl (by kernel_rfl) (by kernel_rfl) (by kernel_rfl) (fun _ _ _ h => h) (Or.inl ⟨by rfl, ?_⟩) hHeld ?_
                  rotate_left
                  · intro w' hSw
                    (try dsimp only at hSw)
                    go_simp
                    try with_reducible rfl
                  try simp only [Act.put, zq1, zq2, zq3, zq4, zq5, zq6]
                  refine wpAnyH_take (i := 17) (v := ?_) rfl (by kernel_rfl) (by kernel_rfl) (by kernel_rfl) (fun _ _ _ h => h) (Or.inl ⟨by rfl, ?_⟩) hHeld ?_
                  rotate_left
                  · intro w' hSw
                    (try dsimp only at hSw)
                    go_simp
                    try with_reducible rfl
                  try simp only [Act.put, zq1, zq2, zq3, zq4, zq5, zq6]
                  refine wpAnyH_take (i := 18) (v := ?_) rfl (by kernel_rfl) (by kernel_rfl) (by kernel_rfl) (fun _ _ _ h => h) (Or.inl ⟨by rfl, ?_⟩) hHeld ?_
                  rotate_left
                  · intro w' hSw
                    (try dsimp only at hSw)
                    go_simp
                    try with_reducible rfl
                  try simp only [Act.put, zq1, zq2, zq3, zq4, zq5, zq6]
                  refine wpAnyH_done (by kernel_rfl) ?_ _
                  refine NoPanic.normal ?_
                  replace HC := Lib.hid (HC.out.call hs2)
                  replace HC2 := Lib.hid (HC2.out.call hs2)
                  replace HO2 := Lib.hid (own_below HO2.out hs2)
                  replace HB := Lib.hid (HB.out.trans (hs2.mono HB.out.size))
                  have hsx := hs2.size
                  go_wp2_with fail
                  refine (cprdone_bel ws1 p2 g2 SL a2 f2 (by rw [hHSL.out.2.1]; omega) HC2.out).mono ?_
                  generalize rdDone SL a2 f2 = dd at *
                  rintro e y3 ⟨rfl, hb⟩
                  have hbs := HB.out.size
                  have hs7 := hb.size
                  replace HC := Lib.hid (HC.out.call hb)
                  replace HC2 := Lib.hid (HC2.out.call hb)
                  replace HO2 := Lib.hid (own_below HO2.out hb)
                  replace HB := Lib.hid (HB.out.trans (hb.mono hbs))
                  clear hb hbs
                  go_wp2_with fail
                  go_roundw
                  case rel => exact ⟨_, j + 1, a2, f2, rfl, by omega, by go_num, Lib.hid (by rw [← hHEL.out]; exact HC.out), HC2, Lib.hid HSI2.out.2, HO2, HB, by omega⟩
                  case measure => simp [intOf]; omega
                | false =>
                  rw [hI] at c1
                  have e1 : it j = leb (N j) := by
                    rw [HIT.out]; unfold iti; rw [if_neg (by rw [hI]; decide)]
                  have hwt := whole_num hjk e1 hN
                  have hsi := HSI.out.num hjk e1 hN
                  rw [← hHF.out, ← hHEL.out] at hwt
                  rw [← hHF.out, ← hHSL.out.1, ← hHEL.out] at hsi
                  have HSI2 := Lib.hid hsi; clear hsi e1
                  have HWT := Lib.hid hwt; clear hwt
                  go_wp2_with fail
                  have hct := cprnum_any wv p g FL (bb it j).length 0 hlt6.out (by rw [← hHLN.out]; omega) HC.out
                  rw [HWT.out] at hct
                  refine hct.mono ?_
                  clear hct
                  rintro e y1 ⟨rfl, hcr, hgr⟩
                  have hbs := HB.out.size
                  have hs9 := hgr.size
                  replace HC : Hid (CR y1 p g FL el 0) := Lib.hid hcr; clear hcr
                  replace HC2 : Hid (CR y1 p2 g2 SL a f) := Lib.hid (HC2.out.keep hgr.size (hgr.block p2 (by omega) (fun e => by cases e; omega)) (hgr.block g2 (by omega) (fun e => by cases e; omega)))
                  replace HO2 := Lib.hid (HO2.out.kept hgr (.inr (fun e => by have := HE6.out p e; omega)))
                  replace HB := Lib.hid (HB.out.trans (grown_low hgr hbs (by omega)))
                  clear hgr hbs
                  go_wp2_with fail
                  refine (cprnum_any y1 p2 g2 SL a f hHSL.out.2.2 (by rw [hHSL.out.2.1]; omega) HC2.out).mono ?_
                  rintro e y2 ⟨rfl, hcr, hgr⟩
                  have hbs := HB.out.size
                  have hs8 := hgr.size
                  replace HC : Hid (CR y2 p g FL el 0) := Lib.hid (HC.out.keep hgr.size (hgr.block p (by omega) (fun e => by cases e; omega)) (hgr.block g (by omega) (fun e => by cases e; omega)))
                  replace HC2 := Lib.hid hcr; clear hcr
                  replace HO2 := Lib.hid (HO2.out.kept hgr (.inr (fun e => by have := HE6.out p2 e; omega)))
                  replace HB := Lib.hid (HB.out.trans (grown_low hgr hbs (by omega)))
                  clear hbs
                  clear hgr
                  generalize rdNum SL a f = rr at *
                  obtain ⟨rv, a2, f2⟩ := rr
                  simp only at HC2 HSI2
                  replace c0 := (HB.out.cell (p := ad.add (j * 3)) (by rw [add_block]; exact had)).trans HRW.out.1
                  clear c1 c2 hce
                  obtain rfl := HSI2.out.1 hw
                  go_wp2_with fail
                  refine (cprdone_bel y2 p2 g2 SL a2 f2 (by rw [hHSL.out.2.1]; omega) HC2.out).mono ?_
                  generalize rdDone SL a2 f2 = dd at *
                  rintro e y3 ⟨rfl, hb⟩
                  have hbs := HB.out.size
                  have hs7 := hb.size
                  replace HC := Lib.hid (HC.out.call hb)
                  replace HC2 := Lib.hid (HC2.out.call hb)
                  replace HO2 := Lib.hid (own_below HO2.out hb)
                  replace HB := Lib.hid (HB.out.trans (hb.mono hbs))
                  clear hb hbs
                  go_wp2_with fail
                  go_roundw
                  case rel => exact ⟨_, j + 1, a2, f2, rfl, by omega, by go_num, Lib.hid (by rw [← hHEL.out]; exact HC.out), HC2, Lib.hid HSI2.out.2, HO2, HB, by omega⟩
                  case measure => simp [intOf]; omega
              · have hwi : ¬ (el : Int) ≤ (ln : Int) := by omega
                cases hI : I j with
                | true =>
                  rw [hI] at c1
                  have e1 : it j = leb ((T j).map UInt8.toNat).length ++ (T j).map UInt8.toNat := by
                    rw [HIT.out, List.length_map]; unfold iti; rw [if_pos hI]
                  have hwt := whole_text hjk e1 (by rw [List.length_map, ← hHN.out]; exact hn2)
                  have hsi := HSI.out.text hjk e1 (by rw [List.length_map, ← hHN.out]; exact hn2)
                  rw [← hHF.out, ← hHEL.out] at hwt
                  rw [← hHF.out, ← hHSL.out.1, ← hHEL.out] at hsi
                  have HSI2 := Lib.hid hsi; clear hsi e1
                  have HWT := Lib.hid hwt; clear hwt
                  go_wp2_with fail
                  have hct := cprtext_any wv p g FL (bb it j).length 0 hlt6.out (by rw [← hHLN.out]; omega) HC.out 200 (by omega)
                  rw [HWT.out] at hct
                  refine hct.mono ?_
                  clear hct
                  rintro e y1 ⟨v1, rfl, hov, hcr, hgr⟩
                  have hbs := HB.out.size
                  have hs9 := hgr.size
                  replace HC : Hid (CR y1 p g FL el 0) := Lib.hid hcr; clear hcr
                  replace HC2 : Hid (CR y1 p2 g2 SL a f) := Lib.hid (HC2.out.keep hgr.size (hgr.block p2 (by omega) (fun e => by cases e; omega)) (hgr.block g2 (by omega) (fun e => by cases e; omega)))
                  replace HO2 := Lib.hid (HO2.out.kept hgr (.inr (fun e => by have := HE6.out p e; omega)))
                  replace HB := Lib.hid (HB.out.trans (grown_low hgr hbs (by omega)))
                  clear hgr hbs
                  have HOV : Hid (y1.ownsRow wv.heap.size 5 1 v1 n (vb (T j))) := Lib.hid (by
                    have h : y1.ownsRow wv.heap.size 5 1 v1 ((T j).map UInt8.toNat).length (vn ((T j).map UInt8.toNat)) := hov
                    rw [List.length_map, ← hHN.out, ← vb_vnP] at h
                    exact h)
                  clear hov
                  go_wp2_with fail
                  refine (cprtext_any y1 p2 g2 SL a f hHSL.out.2.2 (by rw [hHSL.out.2.1]; omega) HC2.out 200 (by omega)).mono ?_
                  rintro e y2 ⟨v2, rfl, hov2, hcr, hgr⟩
                  have hbs := HB.out.size
                  have hs8 := hgr.size
                  replace HC : Hid (CR y2 p g FL el 0) := Lib.hid (HC.out.keep hgr.size (hgr.block p (by omega) (fun e => by cases e; omega)) (hgr.block g (by omega) (fun e => by cases e; omega)))
                  replace HC2 := Lib.hid hcr; clear hcr
                  replace HO2 := Lib.hid (HO2.out.kept hgr (.inr (fun e => by have := HE6.out p2 e; omega)))
                  replace HB := Lib.hid (HB.out.trans (grown_low hgr hbs (by omega)))
                  clear hbs
                  replace HOV := Lib.hid (own_grownP HOV.out hgr (by omega))
                  clear hgr
                  generalize rdText SL a f 200 = rr at *
                  obtain ⟨rv, a2, f2⟩ := rr
                  simp only at HC2 HSI2 hov2
                  replace c2 : y2.cell? ⟨(ad.add (j * 3)).block, (ad.add (j * 3)).off + 2, none⟩ = some (.slice (B j) n (C j)) := by
                    have e : (⟨(ad.add (j * 3)).block, (ad.add (j * 3)).off + 2, none⟩ : Addr) = ad.add (j * 3 + 2) := by rw [← add_add]; rfl
                    rw [e, hHN.out]
                    exact (HB.out.cell (p := ad.add (j * 3 + 2)) (by rw [add_block]; exact had)).trans HRW.out.2
                  clear c0 c1 hce
                  obtain ⟨A1, c3, rfl, _, r1⟩ := Rd.of_own HOV.out
                  have RA : Hid (∀ w' : World, Below y2.heap.size y2 w' → (convert 24 9 (.slice A1 n c3)).run Try.prog w' = .ok (.string ⟨(T j).toArray⟩) w') := Lib.hid fun w' hb => run_str (P := Try.prog) 24 9 5 Try.underlying24 Try.underlying5 Try.underlying9 (n := n) hHN.out.symm c3 (r1.below hb)
                  have RB : Hid (∀ w' : World, Below y2.heap.size y2 w' → (convert 24 9 (.slice (B j) n (C j))).run Try.prog w' = .ok (.string ⟨(T j).toArray⟩) w') := Lib.hid fun w' hb => run_str (P := Try.prog) 24 9 5 Try.underlying24 Try.underlying5 Try.underlying9 (n := n) hHN.out.symm (C j) (HRD.out.below (HB.out.trans (hb.mono HB.out.size)))
                  have CELL : Hid (∀ w' : World, Below y2.heap.size y2 w' → w'.cell? ⟨(ad.add (j * 3)).block, (ad.add (j * 3)).off + 2, none⟩ = some (.slice (B j) n (C j))) := Lib.hid fun w' hb => (hb.cell (p := ⟨(ad.add (j * 3)).block, (ad.add (j * 3)).off + 2, none⟩) (by have := HB.out.size; show (ad.add (j * 3)).block < y2.heap.size; rw [add_block]; omega)).trans c2
                  clear c2
                  clear r1
                  clear hov2
                  go_upto_region 27 with fail
                  refine wp_region_noPanic ?_
                  refine wp_region_held_drew (S := (fun w' => Below y2.heap.size y2 w')) (by kernel_rfl) ?_ (fun hHeld => ?_)
                  · exact (Below.refl y2.heap.size y2).drew
                  have hs2 : Below y2.heap.size y2 y2.drew := (Below.refl y2.heap.size y2).drew
                  generalize y2.drew = ws1 at *
                  refine wpAnyH_take (i := 0) (v := ?_) rfl (by kernel_rfl) (by kernel_rfl) (by kernel_rfl) (fun _ _ _ h => h) (Or.inl ⟨by rfl, ?_⟩) hHeld ?_
                  rotate_left
                  · intro w' hSw
                    (try dsimp only at hSw)
                    go_simp
                    try with_reducible rfl
                  try simp only [Act.put, zq1, zq2, zq3, zq4, zq5, zq6]
                  refine wpAnyH_take (i := 1) (v := ?_) rfl (by kernel_rfl) (by kernel_rfl) (by kernel_rfl) (fun _ _ _ h => h) (Or.inl ⟨by rfl, ?_⟩) hHeld ?_
                  rotate_left
                  · intro w' hSw
                    (try dsimp only at hSw)
                    have rr := RA.out w' hSw
                    go_simp
                    try with_reducible rfl
                  try simp only [Act.put, zq1, zq2, zq3, zq4, zq5, zq6]
                  refine wpAnyH_take (i := 2) (v := ?_) rfl (by kernel_rfl) (by kernel_rfl) (by kernel_rfl) (fun _ _ _ h => h) (Or.inl ⟨by rfl, ?_⟩) hHeld ?_
                  rotate_left
                  · intro w' hSw
                    (try dsimp only at hSw)
                    go_simp
                    try with_reducible rfl
                  try simp only [Act.put, zq1, zq2, zq3, zq4, zq5, zq6]
                  refine wpAnyH_take (i := 3) (v := ?_) rfl (by kernel_rfl) (by kernel_rfl) (by kernel_rfl) (fun _ _ _ h => h) (Or.inl ⟨by rfl, ?_⟩) hHeld ?_
                  rotate_left
                  · intro w' hSw
                    (try dsimp only at hSw)
                    go_simp
                    try with_reducible rfl
                  try simp only [Act.put, zq1, zq2, zq3, zq4, zq5, zq6]
                  refine wpAnyH_take (i := 4) (v := ?_) rfl (by kernel_rfl) (by kernel_rfl) (by kernel_rfl) (fun _ _ _ h => h) (Or.inl ⟨by rfl, ?_⟩) hHeld ?_
                  rotate_left
                  · intro w' hSw
                    (try dsimp only at hSw)
                    go_simp
                    try with_reducible rfl
                  try simp only [Act.put, zq1, zq2, zq3, zq4, zq5, zq6]
                  refine wpAnyH_take (i := 5) (v := ?_) rfl (by kernel_rfl) (by kernel_rfl) (by kernel_rfl) (fun _ _ _ h => h) (Or.inl ⟨by rfl, ?_⟩) hHeld ?_
                  rotate_left
                  · intro w' hSw
                    (try dsimp only at hSw)
                    go_simp
                    try with_reducible rfl
                  try simp only [Act.put, zq1, zq2, zq3, zq4, zq5, zq6]
                  refine wpAnyH_take (i := 6) (v := ?_) rfl (by kernel_rfl) (by kernel_rfl) (by kernel_rfl) (fun _ _ _ h => h) (Or.inl ⟨by rfl, ?_⟩) hHeld ?_
                  rotate_left
                  · intro w' hSw
                    (try dsimp only at hSw)
                    have rr := CELL.out w' hSw
                    go_simp
                    try with_reducible rfl
                  try simp only [Act.put, zq1, zq2, zq3, zq4, zq5, zq6]
                  refine wpAnyH_take (i := 7) (v := ?_) rfl (by kernel_rfl) (by kernel_rfl) (by kernel_rfl) (fun _ _ _ h => h) (Or.inl ⟨by rfl, ?_⟩) hHeld ?_
                  rotate_left
                  · intro w' hSw
                    (try dsimp only at hSw)
                    have rr := RB.out w' hSw
                    go_simp
                    try with_reducible rfl
                  try simp only [Act.put, zq1, zq2, zq3, zq4, zq5, zq6]
                  refine wpAnyH_take (i := 8) (v := ?_) rfl (by kernel_rfl) (by kernel_rfl) (by kernel_rfl) (fun _ _ _ h => h) (Or.inl ⟨by rfl, ?_⟩) hHeld ?_
                  rotate_left
                  · intro w' hSw
                    (try dsimp only at hSw)
                    go_simp
                    try with_reducible rfl
                  try simp only [Act.put, zq1, zq2, zq3, zq4, zq5, zq6]
                  refine wpAnyH_take (i := 9) (v := ?_) rfl (by kernel_rfl) (by kernel_rfl) (by kernel_rfl) (fun _ _ _ h => h) (Or.inl ⟨by rfl, ?_⟩) hHeld ?_
                  rotate_left
                  · intro w' hSw
                    (try dsimp only at hSw)
                    go_simp
                    try with_reducible rfl
                  try simp only [Act.put, zq1, zq2, zq3, zq4, zq5, zq6]
                  refine wpAnyH_take (i := 10) (v := ?_) rfl (by kernel_rfl) (by kernel_rfl) (by kernel_rfl) (fun _ _ _ h => h) (Or.inl ⟨by rfl, ?_⟩) hHeld ?_
                  rotate_left
                  · intro w' hSw
                    (try dsimp only at hSw)
                    go_simp
                    try with_reducible rfl
                  try simp only [Act.put, zq1, zq2, zq3, zq4, zq5, zq6]
                  refine wpAnyH_take (i := 11) (v := ?_) rfl (by kernel_rfl) (by kernel_rfl) (by kernel_rfl) (fun _ _ _ h => h) (Or.inl ⟨by rfl, ?_⟩) hHeld ?_
                  rotate_left
                  · intro w' hSw
                    (try dsimp only at hSw)
                    go_simp
                    try with_reducible rfl
                  try simp only [Act.put, zq1, zq2, zq3, zq4, zq5, zq6]
                  refine wpAnyH_take (i := 12) (v := undef) rfl (by kernel_rfl) (by kernel_rfl) (by kernel_rfl) (fun _ _ _ h => h) (Or.inr ⟨by rfl, rfl⟩) hHeld ?_
                  try simp only [Act.put, zq1, zq2, zq3, zq4, zq5, zq6]
                  refine wpAnyH_take (i := 13) (v := undef) rfl (by kernel_rfl) (by kernel_rfl) (by kernel_rfl) (fun _ _ _ h => h) (Or.inr ⟨by rfl, rfl⟩) hHeld ?_
                  try simp only [Act.put, zq1, zq2, zq3, zq4, zq5, zq6]
                  refine wpAnyH_take (i := 14) (v := undef) rfl (by kernel_rfl) (by kernel_rfl) (by kernel_rfl) (fun _ _ _ h => h) (Or.inr ⟨by rfl, rfl⟩) hHeld ?_
                  try simp only [Act.put, zq1, zq2, zq3, zq4, zq5, zq6]
                  refine wpAnyH_take (i := 15) (v := undef) rfl (by kernel_rfl) (by kernel_rfl) (by kernel_rfl) (fun _ _ _ h => h) (Or.inr ⟨by rfl, rfl⟩) hHeld ?_
                  try simp only [Act.put, zq1, zq2, zq3, zq4, zq5, zq6]
                  refine wpAnyH_take (i := 16) (v := undef) rfl (by kernel_rfl) (by kernel_rfl) (by kernel_rfl) (fun _ _ _ h => h) (Or.inr ⟨by rfl, rfl⟩) hHeld ?_
                  try simp only [Act.put, zq1, zq2, zq3, zq4, zq5, zq6]
                  refine wpAnyH_take (i := 17) (v := ?_) rfl (by kernel_rfl) (by kernel_rfl) (by kernel_rfl) (fun _ _ _ h => h) (Or.inl ⟨by rfl, ?_⟩) hHeld ?_
                  rotate_left
                  · intro w' hSw
                    (try dsimp only at hSw)
                    go_simp
                    try with_reducible rfl
                  try simp only [Act.put, zq1, zq2, zq3, zq4, zq5, zq6]
                  refine wpAnyH_take (i := 18) (v := ?_) rfl (by kernel_rfl) (by kernel_rfl) (by kernel_rfl) (fun _ _ _ h => h) (Or.inl ⟨by rfl, ?_⟩) hHeld ?_
                  rotate_left
                  · intro w' hSw
                    (try dsimp only at hSw)
                    go_simp
                    try with_reducible rfl
                  try simp only [Act.put, zq1, zq2, zq3, zq4, zq5, zq6]
                  refine wpAnyH_done (by kernel_rfl) ?_ _
                  refine NoPanic.normal ?_
                  replace HC := Lib.hid (HC.out.call hs2)
                  replace HC2 := Lib.hid (HC2.out.call hs2)
                  replace HO2 := Lib.hid (own_below HO2.out hs2)
                  replace HB := Lib.hid (HB.out.trans (hs2.mono HB.out.size))
                  have hsx := hs2.size
                  go_wp2_with fail
                  refine (cprdone_bel ws1 p2 g2 SL a2 f2 (by rw [hHSL.out.2.1]; omega) HC2.out).mono ?_
                  have hdd : rdDone SL a2 f2 = 4 := by
                    have h4 := HSI2.out.2.fault (by rw [← hHEL.out]; exact hw)
                    unfold rdDone
                    rw [if_neg (by rw [h4]; omega), h4]
                  rw [hdd]
                  clear hdd
                  rintro e y3 ⟨rfl, hb⟩
                  have hbs := HB.out.size
                  have hs7 := hb.size
                  replace HC := Lib.hid (HC.out.call hb)
                  replace HC2 := Lib.hid (HC2.out.call hb)
                  replace HO2 := Lib.hid (own_below HO2.out hb)
                  replace HB := Lib.hid (HB.out.trans (hb.mono hbs))
                  clear hb hbs
                  go_wp2_with fail
                  go_roundw
                  case rel => exact ⟨_, j + 1, a2, f2, rfl, by omega, by go_num, Lib.hid (by rw [← hHEL.out]; exact HC.out), HC2, Lib.hid HSI2.out.2, HO2, HB, by omega⟩
                  case measure => simp [intOf]; omega
                | false =>
                  rw [hI] at c1
                  have e1 : it j = leb (N j) := by
                    rw [HIT.out]; unfold iti; rw [if_neg (by rw [hI]; decide)]
                  have hwt := whole_num hjk e1 hN
                  have hsi := HSI.out.num hjk e1 hN
                  rw [← hHF.out, ← hHEL.out] at hwt
                  rw [← hHF.out, ← hHSL.out.1, ← hHEL.out] at hsi
                  have HSI2 := Lib.hid hsi; clear hsi e1
                  have HWT := Lib.hid hwt; clear hwt
                  go_wp2_with fail
                  have hct := cprnum_any wv p g FL (bb it j).length 0 hlt6.out (by rw [← hHLN.out]; omega) HC.out
                  rw [HWT.out] at hct
                  refine hct.mono ?_
                  clear hct
                  rintro e y1 ⟨rfl, hcr, hgr⟩
                  have hbs := HB.out.size
                  have hs9 := hgr.size
                  replace HC : Hid (CR y1 p g FL el 0) := Lib.hid hcr; clear hcr
                  replace HC2 : Hid (CR y1 p2 g2 SL a f) := Lib.hid (HC2.out.keep hgr.size (hgr.block p2 (by omega) (fun e => by cases e; omega)) (hgr.block g2 (by omega) (fun e => by cases e; omega)))
                  replace HO2 := Lib.hid (HO2.out.kept hgr (.inr (fun e => by have := HE6.out p e; omega)))
                  replace HB := Lib.hid (HB.out.trans (grown_low hgr hbs (by omega)))
                  clear hgr hbs
                  go_wp2_with fail
                  refine (cprnum_any y1 p2 g2 SL a f hHSL.out.2.2 (by rw [hHSL.out.2.1]; omega) HC2.out).mono ?_
                  rintro e y2 ⟨rfl, hcr, hgr⟩
                  have hbs := HB.out.size
                  have hs8 := hgr.size
                  replace HC : Hid (CR y2 p g FL el 0) := Lib.hid (HC.out.keep hgr.size (hgr.block p (by omega) (fun e => by cases e; omega)) (hgr.block g (by omega) (fun e => by cases e; omega)))
                  replace HC2 := Lib.hid hcr; clear hcr
                  replace HO2 := Lib.hid (HO2.out.kept hgr (.inr (fun e => by have := HE6.out p2 e; omega)))
                  replace HB := Lib.hid (HB.out.trans (grown_low hgr hbs (by omega)))
                  clear hbs
                  clear hgr
                  generalize rdNum SL a f = rr at *
                  obtain ⟨rv, a2, f2⟩ := rr
                  simp only at HC2 HSI2
                  replace c0 := (HB.out.cell (p := ad.add (j * 3)) (by rw [add_block]; exact had)).trans HRW.out.1
                  clear c1 c2 hce
                  skip
                  go_wp2_with fail
                  refine (cprdone_bel y2 p2 g2 SL a2 f2 (by rw [hHSL.out.2.1]; omega) HC2.out).mono ?_
                  have hdd : rdDone SL a2 f2 = 4 := by
                    have h4 := HSI2.out.2.fault (by rw [← hHEL.out]; exact hw)
                    unfold rdDone
                    rw [if_neg (by rw [h4]; omega), h4]
                  rw [hdd]
                  clear hdd
                  rintro e y3 ⟨rfl, hb⟩
                  have hbs := HB.out.size
                  have hs7 := hb.size
                  replace HC := Lib.hid (HC.out.call hb)
                  replace HC2 := Lib.hid (HC2.out.call hb)
                  replace HO2 := Lib.hid (own_below HO2.out hb)
                  replace HB := Lib.hid (HB.out.trans (hb.mono hbs))
                  clear hb hbs
                  go_wp2_with fail
                  go_roundw
                  case rel => exact ⟨_, j + 1, a2, f2, rfl, by omega, by go_num, Lib.hid (by rw [← hHEL.out]; exact HC.out), HC2, Lib.hid HSI2.out.2, HO2, HB, by omega⟩
                  case measure => simp [intOf]; omega
            · obtain rfl : j = k := by omega
              have hfin : rdDone FL (bb it j).length 0 = 0 := by
                unfold rdDone
                rw [if_neg (by rw [hHF.out]; omega)]
              have hfl : (bb it j).length = ln := by rw [hHLN.out, hHF.out]
              go_wp2_with fail
              refine (cprdone_bel _ p g FL (bb it j).length 0 (by rw [← hHLN.out]; omega) HC.out).mono ?_
              rw [hfin, hfl]
              rintro e x1 ⟨rfl, hb⟩
              replace HB := Lib.hid (HB.out.trans (hb.mono HB.out.size)); clear hb hfin hfl
              go_wp2_with fail
              refine (known07_any _).mono ?_
              rintro e wz ⟨rfl, hz⟩
              go_wp2_with fail
              go_ret
              exact ⟨rfl, HB.out.trans (hz.mono HB.out.size)⟩
  · have i1 : (60 : Int) < (m : Int) := by omega
    go_enter Try.func7, Try.ntmps7
    go_wp2_with fail
    refine (known07_any _).mono ?_
    rintro e wz ⟨rfl, hz⟩
    go_wp2_with fail
    go_ret
    exact ⟨rfl, hz⟩
set_option maxRecDepth 100000 in
theorem mback_lifted (os : Os) (started : os.Started) (H : Type) (enc : TypeId × Value → H) :
    ReturnsInHanded {} Try.checked os 7 .any (Rows.packBackSpec.pre6 enc Try.prog Try.f7 Rows.packBackRow.domain false) (Rows.packBackSpec.post enc Try.prog Try.f7 false true false false) := by
  refine returnsInHanded_of_change_sized (C := Try.checked) Try.own started (by kernel_rfl) Try.func7
    (ChangeSpec.witness6 (enc := enc) (C := Try.checked) false ⟨#[], #[.slice none 0 0, .int .i64 0], []⟩ 8 (by kernel_rfl) (by kernel_rfl) (by kernel_rfl) (by kernel_rfl)) ?_
  intro W base args ds gs before hval0 hW _ hsz0 _
  have hsz : (DataW.weightsEach Try.prog (Try.f7.params.toList ++ Rows.packBackSpec.plain.varTypes Try.prog) (ds ++ gs)).all (· ≤ reachBytes) = true := hsz0
  have hval : ∀ (j : Nat) t v, Try.f7.params[j]? = some t → args[j]? = some v → Value.okWide Try.prog W .any base t v := hval0
  have hW' := hW
  obtain ⟨p, q, hA0, hV, rfl, _, _⟩ := hW
  have hA : DataW.TrodAll enc Try.prog W 0 (fun _ => true) true Try.f7.params.toList args.toList ds p := hA0
  rw [Try.params7] at hA hval hsz
  have hlt := hW'.lt
  clear hA0 hval0 hsz0
  obtain ⟨v0, vs0, d0, ds0, p0, q0, hv0, rfl, rfl, h0, r0⟩ := trodAll_cons hA
  obtain ⟨v1, vs1, d1, ds1, p1, q1, hv1, rfl, rfl, h1, r1⟩ := trodAll_cons r0
  subst hv1
  obtain ⟨rfl, rfl, rfl⟩ := trodAll_nil r1
  obtain rfl : args = #[v0, v1] := by cases args; simp_all
  obtain ⟨rfl, rfl⟩ := trodVars_none hV
  obtain ⟨A0, len0, cap0, rfl, le0, hs0⟩ := open_structs Try.underlying46 Try.underlying49 (by kernel_rfl) (by kernel_rfl) (hval 0 46 v0 rfl rfl) h0 (fun es sp he => by subst he; exact sized_slice hsz (j := 0) (t := 46) (e := 49) rfl rfl Try.underlying46) (of_decide_eq_true (by kernel_rfl))
  obtain ⟨N0, I0, B0, T0, C0, hk0⟩ := structs_item Try.underlying22 Try.underlying4 Try.underlying24 Try.underlying5 Try.cellsU8 hs0
  obtain ⟨a1, rfl, rfl, rfl, w1⟩ := open_int Try.underlying3 (hval 1 3 v1 rfl rfl) h1
  have b1 : -9223372036854775808 ≤ a1 ∧ a1 ≤ 9223372036854775807 := by simpa [Lit.wf, IntKind.min, IntKind.max, IntKind.signed, IntKind.bits] using w1
  refine (mback_any A0 len0 cap0 N0 I0 B0 T0 C0 a1 W (by unfold reachBytes at le0; omega) hk0 b1).mono fun e W' ⟨he, hb⟩ => ⟨_, he, ?_⟩
  exact law_post 4 Try.underlying4 (by kernel_rfl) rfl Try.laidOut (by kernel_rfl) hW' ⟨rfl, rfl, rfl⟩ hb

theorem mback_holds : Rows.PackBackSaid :=
  OpenClaim.holds_of_wide 7 Try.f7 rfl rfl rfl rfl rfl rfl rfl ⟨rfl, rfl, rfl, rfl, rfl⟩ rfl rfl rfl rfl rfl (by kernel_rfl) Try.func7 (by kernel_rfl)
    (of_decide_eq_true (by kernel_rfl)) (by unfold Func.isWrapper; first | (rw [if_pos (by decide +kernel)]; kernel_rfl) | (rw [if_neg (by decide +kernel)]; exact ⟨rfl, rfl⟩))
    (fun os started H enc _ => mback_lifted os started H enc)
end Go.Proofs.Ytbepibkbghmkkaa
