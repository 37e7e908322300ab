/-
  Every script of calls on any registers beside any device, which fails and loses power: each answer, and what they stand at, are the document's: RegsPlays, for every input.
-/
import Derived.Test.YtpepbffhhfgdpaaFoldE
import Derived.Test.YtpepbffhhfgdpaaFoldA
import Derived.Deep.DeepCutAuto
import Derived.Deep.CutBlock
namespace Go.Proofs.Ytpepbffhhfgdpaa
open Go Go.RowKit Go.ChangeShapes Go.WideShapes Go.ChangeAt Go.Deep
set_option linter.unusedVariables false
set_option linter.unusedSimpArgs false


set_option maxRecDepth 100000 in
set_option maxHeartbeats 40000000 in
theorem oplays_any (lim : Nat) (A0 : Option Addr) (ls : List (List UInt8)) (cap0 : Nat) (A : Option Addr) (len cap : Nat) (O : Nat → OpR) (w : World) (hlim : lim < 18446744073709551616) (hle : ls.length ≤ 140737488351360) (hlc : ls.length ≤ cap0) (hlb : ∀ i, i < ls.length → (ls.getD i []).length ≤ 140737488351232) (hrd : RdS w (fun b => b < w.heap.size) A0 ls)
    (hlen : len ≤ 140737488351360) (hO : ∀ i, i < len → (O i).Ok w ∧ ∃ ad, A = some ad ∧ (O i).At w ad i) :
    Calls Try.prog 3 #[.int .u64 (lim : Int), .slice A0 ls.length cap0, .slice A len cap] w fun e w' => e = .returned (.bool true) ∧ Below w.heap.size w w' := by
  obtain ⟨n, hn⟩ : ∃ n, n = ls.length := ⟨_, rfl⟩
  rw [← hn] at hle hlc
  rw [← hn]
  have hhv := heavy9_any A0 ls n cap0 A len cap O w hn.symm hle hrd hlen hO
  have HO := Lib.hid hO; clear hO
  have HH := Lib.hid hhv; clear hhv
  have HRD := Lib.hid hrd; clear hrd
  have HLBB := Lib.hid hlb
  have HLB := Lib.hid hlb; clear hlb
  have HN := Lib.hid hn; clear hn
  go_enter Try.func3, Try.ntmps3
  go_wp2_with fail
  refine HH.out.mono ?_
  rintro e w1 hq
  obtain ⟨b, rfl, hbl, hb1⟩ := hq
  have HB1 := Lib.hid hb1; clear hb1 HH
  cases b
  · obtain ⟨hn1, hl4⟩ := hbl rfl
    clear hbl
    have hnew := cdnew_any w1 8 (by decide) (by decide)
    rw [show ((8 : Nat) : Int) = 8 from rfl] at hnew
    have HNW := Lib.hid hnew; clear hnew
    go_wp2_with fail
    refine HNW.out.mono ?_
    rintro e w2 ⟨d, rfl, hcd, hb2⟩
    have HC2 := Lib.hid (And.intro hcd (HB1.out.trans (hb2.mono HB1.out.size)))
    have HZ1 := Lib.hid (And.intro HB1.out.size hb2.size); clear hcd hb2 HNW
    obtain ⟨B0, hB0⟩ : ∃ B0, B0 = w2.heap.size := ⟨_, rfl⟩
    have HB0 := Lib.hid hB0; clear hB0
    go_wp2_with fail
    go_loopw [9, 43] (fun V i wr => ∃ (j : Nat) (U : Value) (xs : List Value), j ≤ n ∧ i = .int .i64 (j : Int) ∧ U = V ∧ NI wr B0 ls j U xs ∧ Below B0 w2 wr ∧ B0 ≤ wr.heap.size) (fun _ i _ => n - (intOf i).toNat)
    case atStart => exact ⟨0, _, _, Nat.zero_le _, rfl, rfl, NI.start w2 B0 ls, Below.refl _ _, by rw [HB0.out]; exact Nat.le_refl _⟩
    case round =>
      rename World => wr
      obtain ⟨j, V, xs, hj, rfl, rfl, hni, hbw, hbs⟩ := hrel
      by_cases hlt : j < n
      · have hji : (j : Int) < (n : Int) := by omega
        have HNI := Lib.hid (And.intro hni (And.intro hbw hbs)); clear hni hbw hbs
        have hbww : Below w.heap.size w wr := HC2.out.2.trans (HNI.out.2.1.mono (by rw [HB0.out]; exact HC2.out.2.size))
        obtain ⟨ad, B, c, hA0, _, hadl, hc0, hlc2, hl2, hrB, _⟩ := HRD.out.at_ (show j < ls.length by have := HN.out; omega)
        have HA0 := Lib.hid hA0
        have hcA : wr.cell? (ad.add j) = some (.slice B (ls.getD j []).length c) := (hbww.cell (by rw [add_block]; exact hadl)).trans hc0
        obtain ⟨l, hl⟩ : ∃ l, l = ls.getD j [] := ⟨_, rfl⟩
        rw [← hl] at hcA hlc2 hl2 hrB
        obtain ⟨ln, hln⟩ : ∃ ln, ln = l.length := ⟨_, rfl⟩
        rw [← hln] at hcA hlc2 hl2
        have hcopy := copyv_any B (vb l) ln c (by simp [vb]; omega) (vb_onec _) wr (by omega) (hrB.go hbww)
        have HCP := Lib.hid hcopy; clear hcopy
        have HLS := Lib.hid (And.intro hl hln)
        have HBW := Lib.hid hbww
        clear hbww hrB hl hln hc0 hadl
        obtain ⟨j0, hi0, hz0, hz1, hz2⟩ := info_parts info_sl
        go_wp2_with fail
        refine HCP.out.mono ?_
        rintro e w5 ⟨v5, rfl, ho5, hb5⟩
        obtain ⟨A5, c5, rfl, _, _⟩ := Rd.of_own ho5
        have hni5 := HNI.out.1.keep (w' := w5) (fun b _ hs => hb5.block b hs)
        have hs5 := Nat.le_trans HNI.out.2.2 hb5.size
        go_wp2_with (at_builtin; refine wpList_append_lies _ rfl (.tmp 46) (.tmp 52) 23 rfl B0 31 j0 (.slice none 0 0) 1 24 Try.underlying23 hi0 hz0 hz1 hz2 rfl (by omega) V j xs rfl (hni5.own.alloc _) ⟨w5.heap.size, 0, none⟩ 1 1 [.slice A5 ln c5] rfl rfl (World.news_of_block (t := 31) (fr := (0, 0)) (heap_alloc_new _ _)) (by simp [Value.oneCell']) (by omega) (by unfold maxLen; omega) (by omega) (by rw [World.size_alloc]; omega) (w5.heap.size + 1) (by rw [World.size_alloc]) ?_; intro g2 cap2 w6 hown6 hgrow6 hat6 hlt6)
        have hbA : Below w5.heap.size w5 (w5.alloc (.cells #[.slice A5 ln c5] 31)) := (Below.refl _ _).alloc (Nat.le_refl _) _
        have hni6 := (hni5.keep (w' := w5.alloc (.cells #[.slice A5 ln c5] 31)) (fun b _ hs => hbA.block b hs)).step HLS.out.1 HLS.out.2 (own_same (own_lowG ho5 HNI.out.2.2) (fun b hb => hbA.block b (ho5.lt b hb).2)) hgrow6 hown6
        have hb6 : Below B0 w2 w6 := ((HNI.out.2.1.trans (hb5.mono HNI.out.2.2)).trans (hbA.mono hs5)).grown hgrow6 (by have := hbA.size; omega) (fun k hk => (hni5.own.lt k hk).1)
        have hs6 : B0 ≤ w6.heap.size := by have := hgrow6.size; have := hbA.size; omega
        have HF := Lib.hid (And.intro hni6 (And.intro hb6 hs6)); clear hni6 hb6 hs6 hbA hown6 hgrow6 hat6 ho5 hb5 hni5 hs5 HNI
        go_wp2_with fail
        (try clear hA0)
        (try rw [← HA0.out])
        go_roundw
        case rel => exact ⟨j + 1, _, _, by omega, by go_num, rfl, HF.out⟩
        case measure => simp [intOf]; omega
      · have hji : ¬ (j : Int) < (n : Int) := by omega
        have hjn : j = n := by omega
        subst hjn
        have e1 := HN.out
        have hown := hni.own
        obtain ⟨A1, c1, hV⟩ : ∃ A1 c1, V = .slice A1 j c1 := by
          rcases hown.2 with ⟨e2, h0⟩ | ⟨g, c, cur, e2, _⟩
          · exact ⟨none, 0, by rw [e2, h0]⟩
          · exact ⟨_, c, e2⟩
        subst hV
        have hxl : xs.length = j := by have := hown.1; omega
        have hxb : ∀ (i : Nat) (v : Value), xs[i]? = some v → ∀ b, v.ownBlock = some b → B0 ≤ b ∧ b < wr.heap.size := fun i v hv b hb => by
          have hi : i < j := by have := (List.getElem?_eq_some_iff.1 hv).1; omega
          obtain ⟨u, h1, h2⟩ := hni.el i hi
          rw [hv] at h1
          cases h1
          exact h2.lt b hb
        have hni' : NI wr B0 ls ls.length (.slice A1 ls.length c1) xs := by rw [← e1]; exact hni
        obtain ⟨hc1, hrds⟩ := hni'.rds HLBB.out
        have hbw2 : Below w2.heap.size w2 wr := by rw [← HB0.out]; exact hbw
        have hgn := cgnew_any wr d 8 _ _ (HC2.out.1.call hbw2) lim hlim A1 ls j c1 e1.symm (by omega) (by omega) (hrds.moreL fun b _ h => h) HLB.out
        have HGN := Lib.hid hgn
        have HNI := Lib.hid (And.intro hni.toWI (And.intro (HC2.out.1.call hbw2) (And.intro (HC2.out.2.trans (hbw2.mono HC2.out.2.size)) hbs)))
        have HXB := Lib.hid (And.intro hxb hxl)
        clear hni hni' hbw hbw2 hbs hgn hrds hc1 hown hxb hxl e1
        go_wp2_with fail
        refine HGN.out.mono ?_
        rintro e w3 ⟨r, rfl, hcg, hb3⟩
        have HX := Lib.hid (And.intro (HNI.out.1.keep (w' := w3) (fun b _ hs => hb3.block b hs)) (And.intro (HNI.out.2.1.call hb3) (And.intro (HNI.out.2.2.1.trans (hb3.mono HNI.out.2.2.1.size)) hcg)))
        have HE0 := Lib.hid (And.intro HNI.out.2.2.2 hb3.size)
        clear hcg hb3 HGN HNI
        obtain ⟨E0, hE0⟩ : ∃ E0, E0 = wr.heap.size := ⟨_, rfl⟩
        rw [← hE0] at HX HE0 HXB
        have HEE := Lib.hid hE0; clear hE0
        go_wp2_with fail
        go_loopw [70] (fun i wz => ∃ k : Nat, k ≤ j ∧ i = .int .i64 (k : Int) ∧ WI wz B0 ls j (.slice A1 j c1) xs ∧ Keep (fun b => B0 ≤ b ∧ b < E0) w3 wz) (fun i _ => j - (intOf i).toNat)
        case atStart => exact ⟨0, Nat.zero_le _, rfl, HX.out.1, Keep.refl _ _⟩
        case round =>
          rename World => wz
          obtain ⟨k, hk, rfl, hwi, hkp⟩ := hrel
          by_cases hkj : k < j
          · have hki : (k : Int) < (j : Int) := by omega
            have HW := Lib.hid (And.intro hwi hkp)
            obtain ⟨gV, hA1⟩ : ∃ gV, A1 = some ⟨gV, 0, none⟩ := by
              rcases hwi.own.2 with ⟨e2, h0⟩ | ⟨g, c, cur, e2, _⟩
              · omega
              · injection e2 with e3 _ _; exact ⟨g, e3⟩
            have HA1 := Lib.hid hA1
            obtain ⟨v, l, hv1, hv2, hv3⟩ := hwi.el k hkj
            obtain ⟨Ae, ce, hve, _, _⟩ := Rd.of_own hv3
            obtain ⟨ln, hln⟩ : ∃ ln, ln = (ls.getD k []).length := ⟨_, rfl⟩
            rw [hv2, ← hln] at hve
            subst hve
            have HV1 := Lib.hid (And.intro hv1 hln)
            have hcell : ∀ wq : World, WI wq B0 ls j (.slice A1 j c1) xs → wq.cell? ⟨gV, k, none⟩ = some (.slice Ae ln ce) := fun wq hq => by
              have ho := hq.own
              rw [HA1.out] at ho
              exact (ho.cellAt k (by omega)).trans HV1.out.1
            have HCE := Lib.hid hcell
            have hc0 := hcell wz hwi
            have hlnb : ln ≤ 140737488351360 := by have := HLB.out k (by have := HN.out; omega); omega
            clear hwi hkp hv1 hv2 hv3 hln hcell
            go_wp2_with fail
            clear hc0
            go_loopw [78] (fun i wy => ∃ t : Nat, t ≤ ln ∧ i = .int .i64 (t : Int) ∧ WI wy B0 ls j (.slice A1 j c1) xs ∧ Keep (fun b => B0 ≤ b ∧ b < E0) w3 wy) (fun i _ => ln - (intOf i).toNat)
            case atStart => exact ⟨0, Nat.zero_le _, rfl, HW.out⟩
            case round =>
              rename World => wy
              obtain ⟨t, ht, rfl, hwy, hky⟩ := hrel
              clear HW
              by_cases htl : t < ln
              · have hti : (t : Int) < (ln : Int) := by omega
                have hc0 := HCE.out wy hwy
                obtain ⟨v', l', hv1, hv2, hv3⟩ := hwy.el k hkj
                rw [HV1.out.1] at hv1
                cases hv1
                rw [← HV1.out.2] at hv2
                obtain ⟨g, hAe, hgc⟩ : ∃ g, Ae = some ⟨g, 0, none⟩ ∧ ∃ cur : Array Value, wy.heap[g]? = some (.cells cur 5 (0, 0)) := by
                  rcases hv3.2 with ⟨e2, h0⟩ | ⟨g, c, cur, e2, _, hh, _⟩
                  · omega
                  · injection e2 with e3 _ _; exact ⟨g, e3, cur, hh⟩
                have HAe := Lib.hid hAe
                rw [hAe, hv2] at hv3
                have hfz := hv3.frozenAt t
                have hce := (hv3.cellAt t (by omega)).trans (List.getElem?_eq_getElem (by rw [List.length_map]; omega))
                rw [List.getElem_map] at hce
                obtain ⟨x, hx⟩ : ∃ x, x = l'[t]'(by omega) := ⟨_, rfl⟩
                rw [← hx] at hce
                have hxr : bits .xor .u8 (x.toNat : Int) 255 = ((x ^^^ 255).toNat : Int) := bits_xor x 255
                have hgb := HXB.out.1 k _ HV1.out.1 g (by rw [hAe]; rfl)
                have hst := hwy.store (k := t) (x ^^^ 255) hgc
                have hk2 := hky.setCell (a := ⟨g, t, none⟩) (fun _ => hgb) (.int .u8 ((x ^^^ 255).toNat : Int))
                have HST := Lib.hid (And.intro hst hk2)
                obtain ⟨x2, hx2⟩ : ∃ x2, x2 = (x ^^^ 255).toNat := ⟨_, rfl⟩
                rw [← hx2] at hxr HST
                obtain ⟨x1, hx1⟩ : ∃ x1, x1 = x.toNat := ⟨_, rfl⟩
                rw [← hx1] at hce hxr
                clear hst hk2 hwy hky hv2 hv3 hgc hgb hx hx1 hx2
                go_wp2_with fail
                (try clear hA1 hAe)
                (try rw [← HA1.out])
                (try rw [← HAe.out])
                go_roundw
                case rel => exact ⟨t + 1, by omega, by go_num, HST.out⟩
                case measure => simp [intOf]; omega
              · have hti : ¬ (t : Int) < (ln : Int) := by omega
                have HW := Lib.hid (And.intro hwy hky); clear hwy hky
                go_wp2_with fail
                (try clear hA1)
                (try rw [← HA1.out])
                go_roundw
                case rel => exact ⟨k + 1, by omega, by go_num, HW.out⟩
                case measure => simp [intOf]; omega
          · have hki : ¬ (k : Int) < (j : Int) := by omega
            have hz1 := HZ1.out
            have hzb := HB0.out
            have hze := HE0.out
            have hcgz : CG wz r d (fun b => E0 ≤ b ∧ b < w3.heap.size) (Rg.new lim ls) := HX.out.2.2.2.keep hkp (fun b hb e => by omega)
            have hcdz := HX.out.2.1.keep hkp (fun b hb e => by omega)
            have hbz := Keep.toBelow HX.out.2.2.1 hkp (fun b hb => by omega) HX.out.2.2.1.size
            have hz3 := hkp.size
            have HY := Lib.hid (And.intro hcgz (And.intro hcdz hbz)); clear hcgz hcdz hbz hkp hwi
            have hn8 := rdnew_any wz 8 (by decide) (by decide)
            rw [show ((8 : Nat) : Int) = 8 from rfl] at hn8
            have HN8 := Lib.hid hn8; clear hn8
            go_wp2_with fail
            refine HN8.out.mono ?_
            rintro e w4 ⟨p, rfl, hrd4, hb4⟩
            have hn9 := rgnew_any w4 p lim A0 ls cap0 hlim (by have := HN.out; omega) ((HRD.out.below (HY.out.2.2.trans (hb4.mono HY.out.2.2.size))).more fun b h => Nat.lt_of_lt_of_le h (Nat.le_trans HY.out.2.2.size hb4.size)) HLBB.out
            rw [← HN.out] at hn9
            have HN9 := Lib.hid hn9
            have hz4 := hb4.size
            have HY4 := Lib.hid (And.intro (HY.out.1.call hb4) (And.intro (HY.out.2.1.call hb4) (And.intro (HY.out.2.2.trans (hb4.mono HY.out.2.2.size)) hrd4))); clear hn9 hrd4 hb4 HN8 HY
            go_wp2_with fail
            refine HN9.out.mono ?_
            rintro e w5 ⟨q, rfl, hrg5, hb5⟩
            have hz5 := hb5.size
            have hRP : RP w w5 d p r q (fun b => w1.heap.size ≤ b ∧ b < w2.heap.size) (fun b => wz.heap.size ≤ b ∧ b < w4.heap.size) (fun b => E0 ≤ b ∧ b < w3.heap.size) (fun b => w4.heap.size ≤ b ∧ b < w5.heap.size) (Rg.new lim ls) (Dev.new 8) :=
              ⟨⟨HY4.out.2.1.call hb5, HY4.out.2.2.2.call hb5, fun b h1 h2 => by omega⟩, HY4.out.1.call hb5, hrg5, HY4.out.2.2.1.trans (hb5.mono HY4.out.2.2.1.size), fun b hb => by omega, fun b hb => ⟨fun e => by omega, fun e => by omega⟩, fun b hb => ⟨fun e => by omega, fun e => by omega⟩, fun b h1 h2 => by omega⟩
            have HX5 := Lib.hid (And.intro hRP (show (Dev.new 8).load ≤ 0 from Nat.le_refl _)); clear hRP hrg5 hb5 HY4 HN9 hz1 hzb hze hz3 hz4 hz5 HX HXB
            generalize (fun b => E0 ≤ b ∧ b < w3.heap.size) = Rc at *
            generalize (fun b => w4.heap.size ≤ b ∧ b < w5.heap.size) = R at *
            go_wp2_with fail
            go_loopw [99] (fun i wr => ∃ (m : Nat) (Lc L : Nat → Prop) (G : Rg) (D : Dev), m ≤ len ∧ i = .int .i64 (m : Int) ∧ RP w wr d p r q Lc L Rc R G D ∧ D.load ≤ m) (fun i _ => len - (intOf i).toNat)
            case atStart => exact ⟨0, _, _, _, _, Nat.zero_le _, rfl, HX5.out⟩
            case round =>
              rename World => wr
              obtain ⟨m, Lc, L, G, D, hm, rfl, hrp⟩ := hrel
              clear HX5
              have HRP := Lib.hid hrp; clear hrp
              by_cases hml : m < len
              · have hmi : (m : Int) < (len : Int) := by omega
                obtain ⟨hok, ad, hA, hat⟩ := HO.out m hml
                have HAT := Lib.hid hat
                have HA := Lib.hid hA
                obtain ⟨c0, hcs⟩ := (hat.keepW HRP.out.1.bel).cells
                obtain ⟨o, ho⟩ : ∃ o, o = O m := ⟨_, rfl⟩
                rw [← ho] at hok c0 HAT hat
                have c3 := hcs 3 _ (by decide) (hat.keepW HRP.out.1.bel).c3
                clear hat hcs ho
                have HOK := Lib.hid hok
                obtain ⟨k, hk⟩ : ∃ k, k = o.k := ⟨_, rfl⟩
                rw [← hk] at c0
                clear hk hok
                clear HA
                subst hA
                go_upto_block 8 with fail
                go_cut [18] (fun s18 wx => s18 = .bool true ∧ ∃ Lc1 L1 G1 D1, Hid (RP w wx d p r q Lc1 L1 Rc R G1 D1 ∧ D1.load ≤ m + 1))
                case first =>
                  by_cases k1 : k = 1
                  · subst k1
                    have hq := cgreserve_any wr r d 8 Rc Lc G D HRP.out.1.cg HRP.out.1.pr.c (fun b hb => (HRP.out.1.dcl b hb).1) (by have := HRP.out.2; omega)
                    obtain ⟨N1, hN1⟩ : ∃ N1, N1 = G.resN D := ⟨_, rfl⟩
                    obtain ⟨E1, hE1⟩ : ∃ E1, E1 = G.resE D := ⟨_, rfl⟩
                    rw [← hN1, ← hE1] at hq
                    have HQ := Lib.hid hq; clear hq
                    go_wp2_with fail
                    refine HQ.out.mono ?_
                    rintro e wa ⟨rfl, hg1, hd1, hk1⟩
                    obtain ⟨rg1, rd1, hds, _⟩ := HRP.out.1.mid hk1
                    have hq := rgreserve_any wa q p 8 R L G D rg1 rd1 hds
                    rw [← hN1, ← hE1] at hq
                    have HQ2 := Lib.hid hq; clear hq HQ rg1 rd1 hds
                    have HA1' := Lib.hid (And.intro hg1 (And.intro hd1 hk1)); clear hg1 hd1 hk1 hN1 hE1
                    go_wp2_with fail
                    refine HQ2.out.mono ?_
                    rintro e wx ⟨rfl, hg2, hd2, hk2⟩
                    have HP := Lib.hid (And.intro (HRP.out.1.two HA1'.out.1 HA1'.out.2.1 HA1'.out.2.2 hg2 hd2 hk2) (show (G.resD D).load ≤ m + 1 by have := load_resD G D; have := HRP.out.2; omega)); clear hg2 hd2 hk2 HA1' HQ2 HRP
                    generalize G.resG D = G1 at *
                    generalize G.resD D = D1 at *
                    go_wp2_with fail
                    go_meet
                    exact ⟨rfl, _, _, _, _, HP⟩
                  by_cases k2 : k = 2
                  · subst k2
                    obtain ⟨nn, hnn⟩ : ∃ nn, nn = o.n := ⟨_, rfl⟩
                    have hnb := HOK.out.hn
                    rw [← hnn] at hnb
                    have hc1 : ∀ W : World, Below w.heap.size w W → W.cell? ⟨(ad.add (m * 8)).block, (ad.add (m * 8)).off + 1, none⟩ = some (.int .u64 (nn : Int)) := fun W hb => by
                      obtain ⟨_, hcs⟩ := (HAT.out.keepW hb).cells
                      have := hcs 1 _ (by decide) (HAT.out.keepW hb).c1
                      rw [← hnn] at this
                      exact this
                    have HC1 := Lib.hid hc1; clear hc1 hnn
                    obtain ⟨E1, hE1⟩ : ∃ E1, E1 = G.advE D nn := ⟨_, rfl⟩
                    have hqc := fun (W : World) (h : RP w W d p r q Lc L Rc R G D) => cgadvance_any W r d 8 Rc Lc G D nn hnb h.cg h.pr.c (fun b hb => (h.dcl b hb).1) (by have := HRP.out.2; omega)
                    have hqr := fun (W : World) (h : RP w W d p r q Lc L Rc R G D) => rgadvance_any W q p 8 R L G D nn h.rg h.pr.r (fun b hb => (h.drl b hb).2)
                    have hqc2 := fun (W : World) (h1 : CG W r d Rc G) (h2 : CD W d Lc 8 D) (h3 : ∀ b, Rc b → ¬ Lc b) => cgadvance_any W r d 8 Rc Lc G D nn hnb h1 h2 h3 (by have := HRP.out.2; omega)
                    have hqr2 := fun (W : World) (h1 : RG W q p R G) (h2 : RD W p L 8 D) (h3 : ∀ b, R b → ¬ L b) => rgadvance_any W q p 8 R L G D nn h1 h2 h3
                    rw [← hE1] at hqc hqr hqc2 hqr2
                    have HQC := Lib.hid (And.intro hqc hqc2)
                    have HQR := Lib.hid (And.intro hqr hqr2)
                    clear hqc hqr hqc2 hqr2
                    have hRPd := HRP.out.1.call ((Below.refl wr.heap.size wr).drew)
                    have c1 := HC1.out wr HRP.out.1.bel
                    go_upto_region 38 with fail
                    refine wp_region_noPanic ?_
                    refine wp_region_held_drew (S := (fun w' => w'.cell? ⟨(ad.add (m * 8)).block, (ad.add (m * 8)).off + 1, none⟩ = some (.int .u64 (nn : Int)))) (by kernel_rfl) ?_ (fun hHeld => ?_)
                    · exact c1
                    refine wpAnyH_take (i := 0) (v := ?_) rfl (by kernel_rfl) (by kernel_rfl) (by kernel_rfl) (fun _ _ _ h => h) (Or.inl ⟨by rfl, ?_⟩) hHeld ?_
                    rotate_left
                    · intro w' hSw
                      (try dsimp only at hSw)
                      go_simp
                      try with_reducible rfl
                    try simp only [Act.put, zq1, zq2, zq3, zq4, zq5, zq6]
                    refine wpAnyH_take (i := 1) (v := ?_) rfl (by kernel_rfl) (by kernel_rfl) (by kernel_rfl) (fun _ _ _ h => h) (Or.inl ⟨by rfl, ?_⟩) hHeld ?_
                    rotate_left
                    · intro w' hSw
                      (try dsimp only at hSw)
                      go_simp
                      try with_reducible rfl
                    try simp only [Act.put, zq1, zq2, zq3, zq4, zq5, zq6]
                    refine wpAnyH_take (i := 2) (v := ?_) rfl (by kernel_rfl) (by kernel_rfl) (by kernel_rfl) (fun _ _ _ h => h) (Or.inl ⟨by rfl, ?_⟩) hHeld ?_
                    rotate_left
                    · intro w' hSw
                      (try dsimp only at hSw)
                      go_simp
                      try with_reducible rfl
                    try simp only [Act.put, zq1, zq2, zq3, zq4, zq5, zq6]
                    refine wpAnyH_take (i := 3) (v := ?_) rfl (by kernel_rfl) (by kernel_rfl) (by kernel_rfl) (fun _ _ _ h => h) (Or.inl ⟨by rfl, ?_⟩) hHeld ?_
                    rotate_left
                    · intro w' hSw
                      (try dsimp only at hSw)
                      go_simp
                      try with_reducible rfl
                    try simp only [Act.put, zq1, zq2, zq3, zq4, zq5, zq6]
                    refine wpAnyH_take (i := 4) (v := ?_) rfl (by kernel_rfl) (by kernel_rfl) (by kernel_rfl) (fun _ _ _ h => h) (Or.inl ⟨by rfl, ?_⟩) hHeld ?_
                    rotate_left
                    · intro w' hSw
                      (try dsimp only at hSw)
                      go_simp
                      try with_reducible rfl
                    try simp only [Act.put, zq1, zq2, zq3, zq4, zq5, zq6]
                    refine wpAnyH_take (i := 5) (v := ?_) rfl (by kernel_rfl) (by kernel_rfl) (by kernel_rfl) (fun _ _ _ h => h) (Or.inl ⟨by rfl, ?_⟩) hHeld ?_
                    rotate_left
                    · intro w' hSw
                      (try dsimp only at hSw)
                      have cf := hSw
                      go_simp
                      try with_reducible rfl
                    try simp only [Act.put, zq1, zq2, zq3, zq4, zq5, zq6]
                    refine wpAnyH_take (i := 7) (v := ?_) rfl (by kernel_rfl) (by kernel_rfl) (by kernel_rfl) (fun _ _ _ h => h) (Or.inl ⟨by rfl, ?_⟩) hHeld ?_
                    rotate_left
                    · intro w' hSw
                      (try dsimp only at hSw)
                      go_simp
                      try with_reducible rfl
                    try simp only [Act.put, zq1, zq2, zq3, zq4, zq5, zq6]
                    refine wpAnyH_take (i := 8) (v := ?_) rfl (by kernel_rfl) (by kernel_rfl) (by kernel_rfl) (fun _ _ _ h => h) (Or.inl ⟨by rfl, ?_⟩) hHeld ?_
                    rotate_left
                    · intro w' hSw
                      (try dsimp only at hSw)
                      go_simp
                      try with_reducible rfl
                    try simp only [Act.put, zq1, zq2, zq3, zq4, zq5, zq6]
                    refine wpAnyH_take (i := 9) (v := ?_) rfl (by kernel_rfl) (by kernel_rfl) (by kernel_rfl) (fun _ _ _ h => h) (Or.inl ⟨by rfl, ?_⟩) hHeld ?_
                    rotate_left
                    · intro w' hSw
                      (try dsimp only at hSw)
                      go_simp
                      try with_reducible rfl
                    try simp only [Act.put, zq1, zq2, zq3, zq4, zq5, zq6]
                    refine wpAnyH_take (i := 10) (v := ?_) rfl (by kernel_rfl) (by kernel_rfl) (by kernel_rfl) (fun _ _ _ h => h) (Or.inl ⟨by rfl, ?_⟩) hHeld ?_
                    rotate_left
                    · intro w' hSw
                      (try dsimp only at hSw)
                      go_simp
                      try with_reducible rfl
                    try simp only [Act.put, zq1, zq2, zq3, zq4, zq5, zq6]
                    refine wpAnyH_take (i := 11) (v := ?_) rfl (by kernel_rfl) (by kernel_rfl) (by kernel_rfl) (fun _ _ _ h => h) (Or.inl ⟨by rfl, ?_⟩) hHeld ?_
                    rotate_left
                    · intro w' hSw
                      (try dsimp only at hSw)
                      go_simp
                      try with_reducible rfl
                    try simp only [Act.put, zq1, zq2, zq3, zq4, zq5, zq6]
                    refine wpAnyH_take (i := 12) (v := ?_) rfl (by kernel_rfl) (by kernel_rfl) (by kernel_rfl) (fun _ _ _ h => h) (Or.inl ⟨by rfl, ?_⟩) hHeld ?_
                    rotate_left
                    · intro w' hSw
                      (try dsimp only at hSw)
                      have cf := hSw
                      go_simp
                      try with_reducible rfl
                    try simp only [Act.put, zq1, zq2, zq3, zq4, zq5, zq6]
                    refine wpAnyH_ready (rs := [6]) (by kernel_rfl) (by simp) ?_
                    refine AllReadyH.cons rfl (fun K hK => ?_) (AllReadyH.nil)
                    try simp only [zq1, zq2, zq3]
                    go_simp
                    refine (HQC.out.1 _ hRPd).mono ?_
                    rintro e wa ⟨rfl, hg1, hd1, hk1⟩
                    obtain ⟨rg1, rd1, hds, hbw⟩ := hRPd.mid hk1
                    refine hK.out _ _ ?_ (fun hHeld => ?_)
                    · exact HC1.out wa hbw
                    clear hK K
                    try simp only [Act.put, zq1, zq2, zq3, zq4, zq5, zq6]
                    refine wpAnyH_ready (rs := [13]) (by kernel_rfl) (by simp) ?_
                    refine AllReadyH.cons rfl (fun K hK => ?_) (AllReadyH.nil)
                    try simp only [zq1, zq2, zq3]
                    go_simp
                    refine (HQR.out.2 wa rg1 rd1 hds).mono ?_
                    rintro e wx ⟨rfl, hg2, hd2, hk2⟩
                    have hRP2 := hRPd.two hg1 hd1 hk1 hg2 hd2 hk2
                    refine hK.out _ _ ?_ (fun hHeld => ?_)
                    · exact HC1.out wx hRP2.bel
                    clear hK K
                    try simp only [Act.put, zq1, zq2, zq3, zq4, zq5, zq6]
                    refine wpAnyH_take (i := 14) (v := ?_) rfl (by kernel_rfl) (by kernel_rfl) (by kernel_rfl) (fun _ _ _ h => h) (Or.inl ⟨by rfl, ?_⟩) hHeld ?_
                    rotate_left
                    · intro w' hSw
                      (try dsimp only at hSw)
                      go_simp
                      try with_reducible rfl
                    try simp only [Act.put, zq1, zq2, zq3, zq4, zq5, zq6]
                    refine wpAnyH_take (i := 15) (v := ?_) rfl (by kernel_rfl) (by kernel_rfl) (by kernel_rfl) (fun _ _ _ h => h) (Or.inl ⟨by rfl, ?_⟩) hHeld ?_
                    rotate_left
                    · intro w' hSw
                      (try dsimp only at hSw)
                      go_simp
                      try with_reducible rfl
                    try simp only [Act.put, zq1, zq2, zq3, zq4, zq5, zq6]
                    refine wpAnyH_done (by kernel_rfl) ?_ _
                    refine NoPanic.normal ?_
                    have HP := Lib.hid (And.intro hRP2 (show (G.advD D nn).load ≤ m + 1 by have := load_advD G D nn; have := HRP.out.2; omega))
                    clear hRP2 hRPd hg1 hd1 hk1 hg2 hd2 hk2 rg1 rd1 hds hbw HQC HQR HC1 HRP hE1
                    generalize G.advG D nn = G1 at *
                    generalize G.advD D nn = D1 at *
                    go_wp2_with fail
                    go_meet
                    exact ⟨rfl, _, _, _, _, HP⟩
                  by_cases k3 : k = 3
                  · subst k3
                    obtain ⟨sz, hsz⟩ : ∃ sz, sz = o.s := ⟨_, rfl⟩
                    have hszb := HOK.out.hs
                    rw [← hsz] at hszb
                    have hc2 : ∀ W : World, Below w.heap.size w W → W.cell? ⟨(ad.add (m * 8)).block, (ad.add (m * 8)).off + 2, none⟩ = some (.int .i64 sz) := fun W hb => by
                      obtain ⟨_, hcs⟩ := (HAT.out.keepW hb).cells
                      have := hcs 2 _ (by decide) (HAT.out.keepW hb).c2
                      rw [← hsz] at this
                      exact this
                    have HC2' := Lib.hid hc2; clear hc2 hsz
                    obtain ⟨E1, hE1⟩ : ∃ E1, E1 = G.drwE sz := ⟨_, rfl⟩
                    obtain ⟨bl, hbl⟩ : ∃ bl, bl = G.drwB sz := ⟨_, rfl⟩
                    have hq := cgdraw_any wr r d Rc G sz hszb HRP.out.1.cg
                    rw [← hE1, ← hbl] at hq
                    have HQ := Lib.hid hq; clear hq
                    have c2 := HC2'.out wr HRP.out.1.bel
                    go_wp2_with fail
                    refine HQ.out.mono ?_
                    rintro e wa ⟨v1, rfl, ho1, hg1, hk1⟩
                    have rg1 := HRP.out.1.rg.keep hk1 (fun b hb e => HRP.out.1.drr b e hb)
                    have hbw := Keep.toBelow HRP.out.1.bel hk1 (fun b hb => HRP.out.1.low b (.inr (.inr (.inl hb)))) HRP.out.1.bel.size
                    have hq := rgdraw_any wa q p R G sz hszb rg1
                    rw [← hE1, ← hbl] at hq
                    have HQ2 := Lib.hid hq; clear hq HQ rg1
                    obtain ⟨et, ho1⟩ := ho1
                    obtain ⟨A5, c5, hv5, _, _⟩ := Rd.of_own ho1
                    subst hv5
                    have HO1 := Lib.hid (And.intro ho1 (And.intro hg1 hk1)); clear ho1 hg1 hk1 hE1 hbl c2
                    have c2 := HC2'.out wa hbw
                    go_wp2_with fail
                    refine HQ2.out.mono ?_
                    rintro e wx ⟨v2, rfl, ho2, hg2, hk2⟩
                    have ho1' : wx.ownsRow wr.heap.size et 1 (.slice A5 bl.length c5) bl.length (vb bl) := own_same HO1.out.1 (fun b hb => hk2.block b (HO1.out.1.lt b hb).2 (fun e => by have := (HO1.out.1.lt b hb).1; have := HRP.out.1.rg.lt b e; omega))
                    have hr1 := own_rd8 ho1'
                    obtain ⟨A6, c6, hv6, _, hr2⟩ := Rd.of_own ho2
                    subst hv6
                    have hsm := rsamev_any A5 A6 bl bl bl.length bl.length c5 c6 rfl rfl wx hr1 hr2
                    rw [beq_self_eq_true] at hsm
                    have HSM := Lib.hid hsm
                    have HP := Lib.hid (And.intro (HRP.out.1.draw HO1.out.2.1 HO1.out.2.2 hg2 hk2) (show D.load ≤ m + 1 by have := HRP.out.2; omega)); clear ho1' hr1 hr2 hsm ho2 hg2 hk2 HO1 HQ2 HRP c2 hbw
                    generalize G.drwG sz = G1 at *
                    obtain ⟨nb, hnb⟩ : ∃ nb, nb = bl.length := ⟨_, rfl⟩
                    rw [← hnb] at HSM
                    rw [← hnb]
                    clear hnb
                    go_wp2_with fail
                    refine HSM.out.mono ?_
                    rintro e wy ⟨rfl, ew⟩
                    have ew := ew.symm
                    subst ew
                    go_wp2_with fail
                    go_meet
                    exact ⟨rfl, _, _, _, _, HP⟩
                  by_cases k9 : o.o.k = 9
                  · rw [k9] at c3
                    have HP := Lib.hid (And.intro HRP.out.1 (show D.load ≤ m + 1 by have := HRP.out.2; omega)); clear HRP
                    go_wp2_with fail
                    go_meet
                    exact ⟨rfl, _, _, _, _, HP⟩
                  have hasd : ∀ (B : Option Addr) (l : List UInt8), Rd w w.heap.size B (vb l) → Aside Lc L B l := fun B l h => OpV.Ok.aside h (fun b hb => HRP.out.1.low b (hb.elim .inl (fun e => .inr (.inl e))))
                  have hdo := does_any wr d p 8 Lc L D o.o HRP.out.1.pr (HOK.out.ho.go HRP.out.1.bel) (hasd _ _ HOK.out.ho.hb.1) (hasd _ _ HOK.out.ho.hm.1) (by decide) (by have := HRP.out.2; omega)
                  have HDO := Lib.hid hdo
                  have hcs : ∀ (k : Nat) (v : Value), ([.int .i64 o.o.k, .int .i64 o.o.i, .int .i64 o.o.a, .slice o.o.B o.o.bl.length o.o.bc, .slice o.o.M o.o.ml.length o.o.mc] : List Value)[k]? = some v → wr.cell? ((⟨(ad.add (m * 8)).block, (ad.add (m * 8)).off + 3, none⟩ : Addr).add k) = some v := fun k v hk => by
                    have h8 := HAT.out.keepW HRP.out.1.bel
                    rw [field_add _ _ _ (by decide), add_add]
                    rcases k with _ | _ | _ | _ | _ | k
                    · cases hk; exact h8.c3
                    · cases hk; exact h8.c4
                    · cases hk; exact h8.c5
                    · cases hk; exact h8.c6
                    · cases hk; exact h8.c7
                    · exact absurd (List.getElem?_eq_some_iff.1 hk).1 (by simp)
                  have HCS := Lib.hid hcs; clear hcs hdo hasd
                  go_wp2_with (refine wpList_load_at rfl 41 (.tmp 120) rfl ⟨(ad.add (m * 8)).block, (ad.add (m * 8)).off + 3, none⟩ rfl [.int .i64 o.o.k, .int .i64 o.o.i, .int .i64 o.o.a, .slice o.o.B o.o.bl.length o.o.bc, .slice o.o.M o.o.ml.length o.o.mc] _ HCS.out Try.underlying41 (by rw [op_size]; rfl) ?_)
                  refine HDO.out.mono ?_
                  rintro e wx ⟨d', Lc', L', D', rfl, hP', hO', hK', hm', hF⟩
                  rw [hF k9] at hP'
                  have HP := Lib.hid (And.intro (HRP.out.1.does (d2 := 0) hP' hO' hK') (show D'.load ≤ m + 1 by have := HRP.out.2; omega)); clear hP' hO' hK' hm' hF HDO HCS HRP
                  go_wp2_with fail
                  go_meet
                  exact ⟨rfl, _, _, _, _, HP⟩
                case rest =>
                  obtain ⟨rfl, Lc1, L1, G1, D1, HP⟩ := hcut
                  obtain ⟨wx, rfl⟩ : ∃ wx : World, wx = wc := ⟨_, rfl⟩
                  clear HRP c0 c3
                  obtain ⟨Sh1, hrs⟩ := HP.out.1.pr.r
                  obtain ⟨Aq, cq, hrow, _, _⟩ := HP.out.1.rg.row
                  have hheld : ∀ W : World, Below wx.heap.size wx W → W.cell? ⟨q, 2, none⟩ = some (.int .u64 (G1.res : Int)) ∧ W.cell? ⟨q, 3, none⟩ = some (.int .u64 (G1.com : Int)) ∧ W.cell? ⟨q, 4, none⟩ = some (.slice Aq G1.draws.length cq) ∧ W.cell? ⟨p, 3, none⟩ = some (.int .u64 (D1.steps : Int)) ∧ W.cell? ⟨p, 6, none⟩ = some (.bool D1.down) := fun W hb => by
                    have h1 := hrs.call hb
                    obtain ⟨_, _, g2, g3, g4⟩ := rg_cells ((hb.block q (HP.out.1.rg.lt q HP.out.1.rg.rq)).trans hrow)
                    exact ⟨g2, g3, g4, h1.c3, h1.c6⟩
                  have hq1 := fun (W : World) (hb : Below wx.heap.size wx W) => cgreserved_any W r d Rc G1 (HP.out.1.cg.call hb)
                  have hq2 := fun (W : World) (hb : Below wx.heap.size wx W) => cgcommitted_any W r d Rc G1 (HP.out.1.cg.call hb)
                  have hq3 := fun (W : World) (hb : Below wx.heap.size wx W) => cgleft_any W r d Rc G1 (HP.out.1.cg.call hb)
                  have hq4 := fun (W : World) (hb : Below wx.heap.size wx W) => cdsteps_any W d 8 _ D1 (HP.out.1.pr.c.call hb)
                  have hq5 := fun (W : World) (hb : Below wx.heap.size wx W) => cddown_any W d 8 _ D1 (HP.out.1.pr.c.call hb)
                  obtain ⟨rs, hrs0⟩ : ∃ rs, rs = G1.res := ⟨_, rfl⟩
                  obtain ⟨cm, hcm⟩ : ∃ cm, cm = G1.com := ⟨_, rfl⟩
                  obtain ⟨dl, hdl⟩ : ∃ dl, dl = G1.draws.length := ⟨_, rfl⟩
                  obtain ⟨st, hst⟩ : ∃ st, st = D1.steps := ⟨_, rfl⟩
                  obtain ⟨dn, hdn⟩ : ∃ dn, dn = D1.down := ⟨_, rfl⟩
                  rw [← hrs0, ← hcm, ← hdl, ← hst, ← hdn] at hheld
                  rw [← hrs0] at hq1
                  rw [← hcm] at hq2
                  rw [← hdl] at hq3
                  rw [← hst] at hq4
                  rw [← hdn] at hq5
                  have HHc := Lib.hid hheld
                  have HQ1 := Lib.hid hq1
                  have HQ2 := Lib.hid hq2
                  have HQ3 := Lib.hid hq3
                  have HQ4 := Lib.hid hq4
                  have HQ5 := Lib.hid hq5
                  clear hheld hq1 hq2 hq3 hq4 hq5 hrs hrow hrs0 hcm hdl hst hdn
                  go_upto_region 43 with fail
                  go_region_held3 (fun w' => w'.cell? ⟨q, 2, none⟩ = some (.int .u64 (rs : Int)) ∧ w'.cell? ⟨q, 3, none⟩ = some (.int .u64 (cm : Int)) ∧ w'.cell? ⟨q, 4, none⟩ = some (.slice Aq dl cq) ∧ w'.cell? ⟨p, 3, none⟩ = some (.int .u64 (st : Int)) ∧ w'.cell? ⟨p, 6, none⟩ = some (.bool dn))
                    (first | exact HHc.out _ ((Below.refl _ _).drew) | exact HHc.out _ (by assumption))
                    ((first
                      | (go_at_call 22; refine (HQ1.out _ ((Below.refl _ _).drew)).mono ?_; rintro e y1 ⟨rfl, h1⟩; have hb1 : Below wx.heap.size wx y1 := (Below.refl _ _).drew.trans (h1.mono (Nat.le_refl _)))
                      | (go_at_call 23; refine (HQ2.out y1 hb1).mono ?_; rintro e y2 ⟨rfl, h2⟩; have hb2 := hb1.trans (h2.mono hb1.size))
                      | (go_at_call 24; refine (HQ3.out y2 hb2).mono ?_; rintro e y3 ⟨rfl, h3⟩; have hb3 := hb2.trans (h3.mono hb2.size))
                      | (go_at_call 25; refine (HQ4.out y3 hb3).mono ?_; rintro e y4 ⟨rfl, h4⟩; have hb4 := hb3.trans (h4.mono hb3.size))
                      | (go_at_call 26; refine (HQ5.out y4 hb4).mono ?_; rintro e y5 ⟨rfl, h5⟩; have hb5 := hb4.trans (h5.mono hb4.size))))
                  have HF := Lib.hid (And.intro (HP.out.1.call hb5) HP.out.2); clear hb1 hb2 hb3 hb4 hb5 h1 h2 h3 h4 h5 HP HHc HQ1 HQ2 HQ3 HQ4 HQ5
                  go_wp2_with fail
                  (try clear hA)
                  (try rw [← HA.out])
                  go_roundw
                  case rel => exact ⟨m + 1, _, _, _, _, by omega, by go_num, HF.out⟩
                  case measure => simp [intOf]; omega
              · have hmi : ¬ (m : Int) < (len : Int) := by omega
                go_wp2_with fail
                refine (known09_any wr).mono ?_
                rintro e wk ⟨rfl, hbk⟩
                go_wp2_with fail
                go_ret
                exact ⟨rfl, HRP.out.1.bel.trans (hbk.mono HRP.out.1.bel.size)⟩
  · clear hbl
    go_wp2_with fail
    refine (known09_any w1).mono ?_
    rintro e wk ⟨rfl, hbk⟩
    go_wp2_with fail
    go_ret
    exact ⟨rfl, HB1.out.trans (hbk.mono HB1.out.size)⟩
set_option maxRecDepth 100000 in
theorem oplays_lifted (os : Os) (started : os.Started) (H : Type) (enc : TypeId × Value → H) :
    ReturnsInHanded {} Try.checked os 3 .any (Rows.regsPlaysSpec.pre6 enc Try.prog Try.f3 Rows.regsPlaysRow.domain false) (Rows.regsPlaysSpec.post enc Try.prog Try.f3 false true false false) := by
  refine returnsInHanded_of_change_sized (C := Try.checked) Try.own started (by kernel_rfl) Try.func3
    (ChangeSpec.witness6 (enc := enc) (C := Try.checked) false ⟨#[], #[.int .u64 0, .slice none 0 0, .slice none 0 0], []⟩ 8 (by kernel_rfl) (by kernel_rfl) (by kernel_rfl) (by kernel_rfl)) ?_
  intro W base args ds gs before hval0 hW _ hsz0 _
  have hsz : (DataW.weightsEach Try.prog (Try.f3.params.toList ++ Rows.regsPlaysSpec.plain.varTypes Try.prog) (ds ++ gs)).all (· ≤ reachBytes) = true := hsz0
  have hval : ∀ (j : Nat) t v, Try.f3.params[j]? = some t → args[j]? = some v → Value.okWide Try.prog W .any base t v := hval0
  have hW' := hW
  obtain ⟨p, q, hA0, hV, rfl, _, _⟩ := hW
  have hA : DataW.TrodAll enc Try.prog W 0 (fun _ => true) true Try.f3.params.toList args.toList ds p := hA0
  rw [Try.params3] at hA hval hsz
  have hlt := hW'.lt
  clear hA0 hval0 hsz0
  obtain ⟨v0, vs0, d0, ds0, p0, q0, hv0, rfl, rfl, h0, r0⟩ := trodAll_cons hA
  obtain ⟨v1, vs1, d1, ds1, p1, q1, hv1, rfl, rfl, h1, r1⟩ := trodAll_cons r0
  subst hv1
  obtain ⟨v2, vs2, d2, ds2, p2, q2, hv2, rfl, rfl, h2, r2⟩ := trodAll_cons r1
  subst hv2
  obtain ⟨rfl, rfl, rfl⟩ := trodAll_nil r2
  obtain rfl : args = #[v0, v1, v2] := by cases args; simp_all
  obtain ⟨rfl, rfl⟩ := trodVars_none hV
  obtain ⟨a0, rfl, rfl, rfl, w0⟩ := open_int Try.underlying22 (hval 0 22 v0 rfl rfl) h0
  have b0 : 0 ≤ a0 ∧ a0 ≤ 18446744073709551615 := by simpa [Lit.wf, IntKind.min, IntKind.max, IntKind.signed, IntKind.bits] using w0
  obtain ⟨n0, rfl⟩ : ∃ n0 : Nat, a0 = n0 := ⟨a0.toNat, by omega⟩
  obtain ⟨A1, ls1, cap1, rfl, le1, lc1, lb1, hk1⟩ := open_bytess Try.underlying23 Try.underlying31 Try.underlying5 (by kernel_rfl) Try.cellsU8 Try.bytesU8 (of_decide_eq_true (by kernel_rfl)) (hval 1 23 v1 rfl rfl) h1 (fun m hm => by have := List.all_eq_true.1 hsz m (DataW.weights_mem_each (j := 1) (t := 23) rfl rfl m hm); simpa using this)
  obtain ⟨A2, len2, cap2, rfl, le2, _, hs2⟩ := open_elems Try.underlying24 (hval 2 24 v2 rfl rfl) h2 (fun m hm => by have := List.all_eq_true.1 hsz m (DataW.weights_mem_each (j := 2) (t := 24) rfl rfl m hm); simpa using this) (of_decide_eq_true (by kernel_rfl))
  obtain ⟨O2, hk2⟩ := structs_opr Try.underlying43 Try.underlying41 Try.underlying3 Try.underlying22 Try.underlying3 Try.underlying3 Try.underlying3 Try.underlying3 Try.underlying31 Try.underlying31 Try.underlying5 Try.cellsU8 Try.bytesU8 (by kernel_rfl) rfl (by kernel_rfl) hs2
  refine (oplays_any n0 A1 ls1 cap1 A2 len2 cap2 O2 W (by omega) (by unfold reachBytes at le1; omega) lc1 lb1 hk1 (by unfold reachBytes at le2; omega) hk2).mono fun e W' ⟨he, hb⟩ => ⟨_, he, ?_⟩
  exact law_post 4 Try.underlying4 (by kernel_rfl) rfl Try.laidOut (by kernel_rfl) hW' ⟨rfl, rfl, rfl⟩ hb

theorem oplays_holds : Rows.RegsPlaysSaid :=
  OpenClaim.holds_of_wide 3 Try.f3 rfl rfl rfl rfl rfl rfl rfl ⟨rfl, rfl, rfl, rfl, rfl⟩ rfl rfl rfl rfl rfl (by kernel_rfl) Try.func3 (by kernel_rfl)
    (of_decide_eq_true (by kernel_rfl)) (by unfold Func.isWrapper; first | (rw [if_pos (by decide +kernel)]; kernel_rfl) | (rw [if_neg (by decide +kernel)]; exact ⟨rfl, rfl⟩))
    (fun os started H enc _ => oplays_lifted os started H enc)
end Go.Proofs.Ytpepbffhhfgdpaa
