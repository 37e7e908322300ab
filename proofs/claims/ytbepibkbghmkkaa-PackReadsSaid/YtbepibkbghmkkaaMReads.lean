/-
  Whatever is asked of a reader of any bytes, in whatever order, is the document's; the bytes are not kept: PackReads, for every input.
-/
import Derived.Test.YtbepibkbghmkkaaArg
import Derived.Test.YtbepibkbghmkkaaPkL
import Derived.Test.YtbepibkbghmkkaaZq
import Derived.Deep.MidRow
namespace Go.Proofs.Ytbepibkbghmkkaa
open Go Go.RowKit Go.ChangeShapes Go.WideShapes Go.ChangeAt Go.Deep
set_option linter.unusedVariables false
set_option linter.unusedSimpArgs false

theorem RR.call {w w' : World} {p : Nat} {B : Option Addr} {n cap a f : Nat} (h : RR w p B n cap a f) (hb : Below w.heap.size w w') : RR w' p B n cap a f := (hb.block _ h.lt).trans h
theorem rd_of_blk {w : World} {b n BB : Nat} {cur : Array Value} {xs : List Value} {t : TypeId} (h : w.heap[b]? = some (.cells cur t (0, 0))) (ht : cur.toList.take n = xs) (hb : b < BB) : Rd w BB (some ⟨b, 0, none⟩) xs := fun _ => ⟨_, rfl, hb, fun j u hj => by
  rw [head_add, cell_of_row _ _ _ _ _ _ h]
  rw [← ht, List.getElem?_take] at hj
  split at hj
  · rw [← hj, Array.getElem?_toList]
  · cases hj⟩
theorem vn_getM (l : List Nat) (k : Nat) (hk : k < l.length) : (vn l)[k]? = some (.int .u8 (l.getD k 0 : Int)) := by simp [vn, List.getD, hk]
theorem vn_setM (l : List Nat) (k z : Nat) : (vn l).set k (.int .u8 (z : Int)) = vn (l.set k z) := by simp [vn, List.map_set]
theorem rdText_len (l : List Nat) (a f : Nat) (most : Int) : (rdText l a f most).1.length ≤ l.length := by
  unfold rdText
  split
  · simp
  · split
    · simp
    · simp only [List.length_take, List.length_drop]
      omega
theorem vb_oneM (l : List UInt8) : ∀ v ∈ vb l, v.oneCell' = true := by
  intro v hv
  simp only [vb, List.mem_map] at hv
  obtain ⟨b, _, rfl⟩ := hv
  rfl

set_option maxRecDepth 100000 in
set_option maxHeartbeats 20000000 in
theorem mreads_any (B : Option Addr) (l : List UInt8) (n cap : Nat) (hn : l.length = n) (L : Option Addr) (m mc : Nat) (K M : Nat → Int) (w : World) (hle : n ≤ 140737488351232) (h : Rd w w.heap.size B (vb l)) (hm : m ≤ 140737488351232)
    (hL : ∀ i, i < m → ∃ ad, L = some ad ∧ ad.block < w.heap.size ∧ w.cell? (ad.add (i * 2)) = some (.int .i64 (K i)) ∧ w.cell? (ad.add (i * 2 + 1)) = some (.int .i64 (M i)) ∧ -9223372036854775808 ≤ M i ∧ M i ≤ 9223372036854775807) :
    Calls Try.prog 5 #[.slice B n cap, .slice L m mc] w fun e w' => e = .returned (.bool true) ∧ Below w.heap.size w w' := by
  by_cases hs : n ≤ 4096
  · have i1 : ¬ (4096 : Int) < (n : Int) := by omega
    obtain ⟨nm, hnm⟩ : ∃ nm, nm = l.map UInt8.toNat := ⟨_, rfl⟩
    have hnl : nm.length = n := by rw [hnm, List.length_map, hn]
    have hlt : ∀ x ∈ nm, x < 256 := by rw [hnm]; exact vb_ltP l
    have hv : vb l = vn nm := by rw [hnm]; exact vb_vnP l
    have HN := Lib.hid hnl; clear hnl hn
    have HL := Lib.hid hlt; clear hlt
    rw [hv] at h
    have R := Lib.hid h; clear h hv hnm
    have HLL := Lib.hid hL; clear hL
    go_enter Try.func5, Try.ntmps5
    go_wp2_with fail
    refine (copyx_any B (vn nm) n cap (by rw [vn_len, HN.out]) (vn_oneP _) w hle R.out).mono ?_
    rintro e w1 ⟨rfl, ho, hb⟩
    have HI := Lib.hid ho
    have HB := Lib.hid hb; clear hb
    obtain ⟨_, _, ex, hl0, hrx⟩ := Rd.of_own ho
    cases ex
    clear hl0
    have hX : w.heap.size < w1.heap.size := (ho.lt _ rfl).2
    clear ho
    go_wp2_with fail
    refine (cpnew_any (some ⟨w.heap.size, 0, none⟩) nm n (n + 3) HN.out HL.out (by omega) (by omega) w1 hrx).mono ?_
    rintro e w2 ⟨p, g, rfl, hp, hg, hcr, hb⟩
    have HC := Lib.hid hcr; clear hcr hrx
    replace HI := Lib.hid (own_below HI.out hb)
    replace HB := Lib.hid (HB.out.trans (hb.mono HB.out.size)); clear hb
    have hp2 := HC.out.lp
    have hg2 := HC.out.lg
    go_wp2_with fail
    refine (copyx_any B (vn nm) n cap (by rw [vn_len, HN.out]) (vn_oneP _) w2 hle (R.out.go HB.out)).mono ?_
    rintro e w3 ⟨rfl, ho, hb⟩
    have HO := Lib.hid ho
    have hX3 : w2.heap.size < w3.heap.size := (ho.lt _ rfl).2
    clear ho
    replace HI := Lib.hid (own_below HI.out hb)
    replace HC := Lib.hid (HC.out.call hb)
    replace HB := Lib.hid (HB.out.trans (hb.mono HB.out.size)); clear hb
    obtain ⟨cur, hcur, htake⟩ : ∃ cur, w3.heap[w2.heap.size]? = some (.cells cur 5 (0, 0)) ∧ cur.toList.take n = vn nm := by
      obtain ⟨_, hv⟩ := HO.out
      rcases hv with ⟨hv, _⟩ | ⟨g', _, cur, e', _, h2, _, _, _, h3⟩
      · cases hv
      · injection e' with e1 _ _
        injection e1 with e1
        injection e1 with e1
        exact ⟨cur, by rw [e1]; exact h2, by simpa using h3⟩
    have hbA : Below w3.heap.size w3 (w3.alloc (.cells #[.slice (some ⟨w2.heap.size, 0, none⟩) n (n + 3), .int .i64 0, .int .i64 0] 35)) := (Below.refl _ _).alloc (Nat.le_refl _) _
    have HR : Hid (RR (w3.alloc (.cells #[.slice (some ⟨w2.heap.size, 0, none⟩) n (n + 3), .int .i64 0, .int .i64 0] 35)) w3.heap.size (some ⟨w2.heap.size, 0, none⟩) n (n + 3) 0 0) := Lib.hid (heap_alloc_new w3 _)
    have HG : Hid ((w3.alloc (.cells #[.slice (some ⟨w2.heap.size, 0, none⟩) n (n + 3), .int .i64 0, .int .i64 0] 35)).heap[w2.heap.size]? = some (.cells cur 5 (0, 0))) := Lib.hid ((hbA.block _ hX3).trans hcur)
    have HTK := Lib.hid htake; clear htake hcur HO
    replace HI := Lib.hid (own_below HI.out hbA)
    replace HC := Lib.hid (HC.out.call hbA)
    replace HB := Lib.hid (HB.out.trans (hbA.mono HB.out.size))
    have hsz4 : (w3.alloc (.cells #[.slice (some ⟨w2.heap.size, 0, none⟩) n (n + 3), .int .i64 0, .int .i64 0] 35)).heap.size = w3.heap.size + 1 := by simp
    have hX1 : w1.heap.size ≤ w2.heap.size := by omega
    go_upto_region 6 with fail
    generalize w3.alloc (.cells #[.slice (some ⟨w2.heap.size, 0, none⟩) n (n + 3), .int .i64 0, .int .i64 0] 35) = w4 at *
    obtain ⟨q, hq⟩ : ∃ q, q = w3.heap.size := ⟨_, rfl⟩
    obtain ⟨bg, hbg⟩ : ∃ bg, bg = w2.heap.size := ⟨_, rfl⟩
    rw [← hq] at HR hX3 hsz4
    rw [← hbg] at HR HG hX3 hp2 hg2 hX1
    rw [← hq]
    rw [← hbg]
    clear hq hbg hbA
    go_wp2_with fail
    go_loopw [31] (fun i wr => ∃ k : Nat, k ≤ n ∧ i = .int .i64 (k : Int) ∧ Hid (∃ zs : List Nat, zs.length = n ∧ (∀ x ∈ zs, x < 256) ∧ wr.ownsRow w.heap.size 5 1 (.slice (some ⟨w.heap.size, 0, none⟩) n (n + 3)) n (vn zs)) ∧ Hid (w4.grownBy wr (some w.heap.size))) (fun i _ => n - (intOf i).toNat)
    case atStart => exact ⟨0, by omega, rfl, Lib.hid ⟨nm, HN.out, HL.out, HI.out⟩, Lib.hid (grown_drewN w4 0 _)⟩
    case round =>
      rename_i wr _ _
      clear HI
      obtain ⟨k, hk, rfl, HI, HGR⟩ := hrel
      by_cases hlt : k < n
      · have hki : (k : Int) < (n : Int) := by omega
        obtain ⟨zs, hzl, hz256, hy⟩ := HI.out
        obtain ⟨x, hx⟩ : ∃ x, x = zs.getD k 0 := ⟨_, rfl⟩
        have hce := (hy.cellAt k (by omega)).trans (vn_getM zs k (by omega))
        rw [← hx] at hce
        have hfz := hy.frozenAt k
        have hx2 : x < 256 := by rw [hx, List.getD_eq_getElem?_getD, List.getElem?_eq_getElem (by omega)]; exact hz256 _ (List.getElem_mem _)
        obtain ⟨z, hz⟩ : ∃ z, z = x ^^^ 255 := ⟨_, rfl⟩
        have hz2 : z < 256 := by rw [hz]; exact Nat.xor_lt_two_pow (n := 8) hx2 (by decide)
        have hxr : bits .xor .u8 (x : Int) 255 = (z : Int) := by rw [hz]; exact xor_u8 x 255 hx2 (by decide)
        have hwr : IntKind.i64.wrap ((k : Int) + 1) = (k : Int) + 1 := IntWalk.i64_in _ (by omega)
        have HST := Lib.hid (hy.stored k (.int .u8 (z : Int))); clear hy
        have HZ := Lib.hid (And.intro hzl (And.intro hz256 hz2)); clear hzl hz256 hz2 hz hx hx2
        go_wp2_with fail
        go_roundw
        case rel =>
          refine ⟨k + 1, by omega, by go_num, Lib.hid ⟨zs.set k z, by rw [List.length_set]; exact HZ.out.1, fun y hy => ?_, ?_⟩, Lib.hid (grown_trans HGR.out HST.out.2)⟩
          · rcases List.mem_or_eq_of_mem_set hy with h | h
            · exact HZ.out.2.1 y h
            · rw [h]; exact HZ.out.2.2
          · rw [← vn_setM]; exact HST.out.1
        case measure => simp [intOf]; omega
      · obtain rfl : k = n := by omega
        have hXb : w.heap.size < bg := by omega
        have gr := HGR.out
        have hlts : w4.heap.size ≤ wr.heap.size := gr.size
        replace HR : Hid (RR wr q (some ⟨bg, 0, none⟩) k (k + 3) 0 0) := Lib.hid ((gr.block q (by omega) (fun e => by cases e; omega)).trans HR.out)
        replace HG := Lib.hid ((gr.block bg (by omega) (fun e => by cases e; omega)).trans HG.out)
        replace HC := Lib.hid (HC.out.keep gr.size (gr.block p (by omega) (fun e => by cases e; omega)) (gr.block g (by omega) (fun e => by cases e; omega)))
        replace HB := Lib.hid (HB.out.trans (grown_low gr HB.out.size (Nat.le_refl _)))
        clear HGR HI gr
        obtain ⟨u, hu⟩ : ∃ u : World, u = wr := ⟨_, rfl⟩
        rw [← hu] at HR HG HC HB hlts
        rw [← hu]
        clear hu
        go_wp2_with fail
        go_loopw [43] (fun i wr => ∃ (wv : World) (j a f : Nat), wv = wr ∧ j ≤ m ∧ a ≤ k ∧ i = .int .i64 (j : Int) ∧ Hid (CR wr p g nm a f) ∧ Hid (RR wr q (some ⟨bg, 0, none⟩) k (k + 3) a f) ∧ Hid (wr.heap[bg]? = some (.cells cur 5 (0, 0))) ∧ Hid (Below w.heap.size w wr) ∧ w4.heap.size ≤ wr.heap.size) (fun i _ => m - (intOf i).toNat)
        case atStart => exact ⟨_, 0, 0, 0, rfl, by omega, by omega, rfl, HC, HR, HG, HB, hlts⟩
        case round =>
          clear HC HR HG HB
          obtain ⟨wv, j, a, f, rfl, hj, hak, rfl, HC, HR, HG, HB, hsz⟩ := hrel
          by_cases hjm : j < m
          · have hji : (j : Int) < (m : Int) := by omega
            obtain ⟨ad, rfl, had, ck, cm, hm1, hm2⟩ := HLL.out j hjm
            replace ck := (HB.out.cell (p := ad.add (j * 2)) (by rw [add_block]; exact had)).trans ck
            replace cm : wv.cell? ⟨(ad.add (j * 2)).block, (ad.add (j * 2)).off + 1, none⟩ = some (.int .i64 (M j)) := by
              have e : (⟨(ad.add (j * 2)).block, (ad.add (j * 2)).off + 1, none⟩ : Addr) = ad.add (j * 2 + 1) := by rw [← add_add]; rfl
              rw [e]
              exact (HB.out.cell (p := ad.add (j * 2 + 1)) (by rw [add_block]; exact had)).trans cm
            have hwr : IntKind.i64.wrap ((j : Int) + 1) = (j : Int) + 1 := IntWalk.i64_in _ (by omega)
            have hkl := HN.out
            have RDF : Hid (∀ W : World, W.heap[bg]? = some (.cells cur 5 (0, 0)) → Rd W q (some ⟨bg, 0, none⟩) (vn nm)) := Lib.hid fun W hW => rd_of_blk hW HTK.out hX3
            have HKN := Lib.hid hkl; clear hkl
            by_cases k1 : K j = 1
            · rw [k1] at ck
              clear k1
              go_wp2_with fail
              refine (cprnum_any wv p g nm a f HL.out (by rw [HKN.out]; omega) HC.out).mono ?_
              rintro e y1 ⟨rfl, hcr, hgr⟩
              have hb9 := HB.out.size
              have hs9 := hgr.size
              replace HC := Lib.hid hcr; clear hcr
              replace HR : Hid (RR y1 q (some ⟨bg, 0, none⟩) k (k + 3) a f) := Lib.hid ((hgr.block q (by omega) (fun e => by cases e; omega)).trans HR.out)
              replace HG := Lib.hid ((hgr.block bg (by omega) (fun e => by cases e; omega)).trans HG.out)
              replace HB := Lib.hid (HB.out.trans (grown_low hgr hb9 (by omega)))
              clear hb9
              clear hgr
              go_wp2_with fail
              refine (rprnum_all y1 q ⟨bg, 0, none⟩ nm k (k + 3) a f HKN.out HL.out (by omega) (by omega) HR.out (by omega) (RDF.out _ HG.out) (Nat.le_refl _)).mono ?_
              rintro e y2 ⟨rfl, hrr, hgr⟩
              have hb9 := HB.out.size
              have hs8 := hgr.size
              replace HR := Lib.hid hrr; clear hrr
              replace HC := Lib.hid (HC.out.keep hgr.size (hgr.block p (by omega) (fun e => by cases e; omega)) (hgr.block g (by omega) (fun e => by cases e; omega)))
              replace HG := Lib.hid ((hgr.block bg (by omega) (fun e => by cases e; omega)).trans HG.out)
              replace HB := Lib.hid (HB.out.trans (grown_low hgr hb9 (by omega)))
              clear hb9
              clear hgr
              have hle2 := rdNum_le nm HL.out a f (by rw [HKN.out]; exact hak)
              rw [HKN.out] at hle2
              generalize rdNum nm a f = rr at *
              obtain ⟨rv, ra, rf⟩ := rr
              simp only at HC HR hle2
              go_wp2_with fail
              refine (cprdone_bel y2 p g nm ra rf (by rw [HKN.out]; omega) HC.out).mono ?_
              rintro e x1 ⟨rfl, hb⟩
              have hs1 := hb.size
              replace HC := Lib.hid (HC.out.call hb)
              replace HR := Lib.hid (HR.out.call hb)
              replace HG := Lib.hid ((hb.block bg (by omega)).trans HG.out)
              replace HB := Lib.hid (HB.out.trans (hb.mono HB.out.size)); clear hb
              go_wp2_with fail
              refine (rprdone_all x1 q ⟨bg, 0, none⟩ nm k (k + 3) ra rf HKN.out HL.out (by omega) (by omega) HR.out (by omega) (RDF.out _ HG.out) (Nat.le_refl _)).mono ?_
              rintro e x2 ⟨rfl, hrr, hgr⟩
              have hb9 := HB.out.size
              have hs8 := hgr.size
              replace HR := Lib.hid hrr; clear hrr
              replace HC := Lib.hid (HC.out.keep hgr.size (hgr.block p (by omega) (fun e => by cases e; omega)) (hgr.block g (by omega) (fun e => by cases e; omega)))
              replace HG := Lib.hid ((hgr.block bg (by omega) (fun e => by cases e; omega)).trans HG.out)
              replace HB := Lib.hid (HB.out.trans (grown_low hgr hb9 (by omega)))
              clear hb9
              clear hgr
              generalize rdDone nm ra rf = dd at *
              go_wp2_with fail
              go_roundw
              case rel => exact ⟨_, j + 1, ra, rf, rfl, by omega, by omega, by go_num, HC, HR, HG, HB, by omega⟩
              case measure => simp [intOf]; omega
            · by_cases k2 : K j = 2
              · rw [k2] at ck
                clear k1 k2
                go_wp2_with fail
                refine (cprbyte_any wv p g nm a f HL.out (by rw [HKN.out]; omega) HC.out).mono ?_
                rintro e y1 ⟨rfl, hcr, hgr⟩
                have hb9 := HB.out.size
                have hs9 := hgr.size
                replace HC := Lib.hid hcr; clear hcr
                replace HR : Hid (RR y1 q (some ⟨bg, 0, none⟩) k (k + 3) a f) := Lib.hid ((hgr.block q (by omega) (fun e => by cases e; omega)).trans HR.out)
                replace HG := Lib.hid ((hgr.block bg (by omega) (fun e => by cases e; omega)).trans HG.out)
                replace HB := Lib.hid (HB.out.trans (grown_low hgr hb9 (by omega)))
                clear hb9
                clear hgr
                go_wp2_with fail
                refine (rprbyte_all y1 q ⟨bg, 0, none⟩ nm k (k + 3) a f HKN.out HL.out (by omega) (by omega) HR.out (by omega) (RDF.out _ HG.out) (Nat.le_refl _)).mono ?_
                rintro e y2 ⟨rfl, hrr, hgr⟩
                have hb9 := HB.out.size
                have hs8 := hgr.size
                replace HR := Lib.hid hrr; clear hrr
                replace HC := Lib.hid (HC.out.keep hgr.size (hgr.block p (by omega) (fun e => by cases e; omega)) (hgr.block g (by omega) (fun e => by cases e; omega)))
                replace HG := Lib.hid ((hgr.block bg (by omega) (fun e => by cases e; omega)).trans HG.out)
                replace HB := Lib.hid (HB.out.trans (grown_low hgr hb9 (by omega)))
                clear hb9
                clear hgr
                have hle2 := rdByte_le nm a f (by rw [HKN.out]; exact hak)
                rw [HKN.out] at hle2
                generalize rdByte nm a f = rr at *
                obtain ⟨rv, ra, rf⟩ := rr
                simp only at HC HR hle2
                go_wp2_with fail
                refine (cprdone_bel y2 p g nm ra rf (by rw [HKN.out]; omega) HC.out).mono ?_
                rintro e x1 ⟨rfl, hb⟩
                have hs1 := hb.size
                replace HC := Lib.hid (HC.out.call hb)
                replace HR := Lib.hid (HR.out.call hb)
                replace HG := Lib.hid ((hb.block bg (by omega)).trans HG.out)
                replace HB := Lib.hid (HB.out.trans (hb.mono HB.out.size)); clear hb
                go_wp2_with fail
                refine (rprdone_all x1 q ⟨bg, 0, none⟩ nm k (k + 3) ra rf HKN.out HL.out (by omega) (by omega) HR.out (by omega) (RDF.out _ HG.out) (Nat.le_refl _)).mono ?_
                rintro e x2 ⟨rfl, hrr, hgr⟩
                have hb9 := HB.out.size
                have hs8 := hgr.size
                replace HR := Lib.hid hrr; clear hrr
                replace HC := Lib.hid (HC.out.keep hgr.size (hgr.block p (by omega) (fun e => by cases e; omega)) (hgr.block g (by omega) (fun e => by cases e; omega)))
                replace HG := Lib.hid ((hgr.block bg (by omega) (fun e => by cases e; omega)).trans HG.out)
                replace HB := Lib.hid (HB.out.trans (grown_low hgr hb9 (by omega)))
                clear hb9
                clear hgr
                generalize rdDone nm ra rf = dd at *
                go_wp2_with fail
                go_roundw
                case rel => exact ⟨_, j + 1, ra, rf, rfl, by omega, by omega, by go_num, HC, HR, HG, HB, by omega⟩
                case measure => simp [intOf]; omega
              · by_cases k3 : K j = 3
                · rw [k3] at ck
                  clear k1 k2 k3
                  have HCM : Hid (∀ W : World, Below w.heap.size w W → W.cell? ⟨(ad.add (j * 2)).block, (ad.add (j * 2)).off + 1, none⟩ = some (.int .i64 (M j))) := Lib.hid fun W hW => by
                    obtain ⟨ad', e, had', _, cm', _⟩ := HLL.out j hjm
                    cases e
                    have e : (⟨(ad.add (j * 2)).block, (ad.add (j * 2)).off + 1, none⟩ : Addr) = ad.add (j * 2 + 1) := by rw [← add_add]; rfl
                    rw [e]
                    exact (hW.cell (p := ad.add (j * 2 + 1)) (by rw [add_block]; exact had')).trans cm'
                  obtain ⟨mo, hmo⟩ : ∃ mo, mo = M j := ⟨_, rfl⟩
                  rw [← hmo] at cm HCM hm1 hm2
                  have HMO := Lib.hid hmo; clear hmo
                  go_wp2_with fail
                  refine (cprtext_any wv p g nm a f HL.out (by rw [HKN.out]; omega) HC.out mo ⟨hm1, hm2⟩).mono ?_
                  rintro e y1 ⟨v1, rfl, hown, hcr, hgr⟩
                  have hb9 := HB.out.size
                  have hs9 := hgr.size
                  replace HC := Lib.hid hcr; clear hcr
                  replace HR : Hid (RR y1 q (some ⟨bg, 0, none⟩) k (k + 3) a f) := Lib.hid ((hgr.block q (by omega) (fun e => by cases e; omega)).trans HR.out)
                  replace HG := Lib.hid ((hgr.block bg (by omega) (fun e => by cases e; omega)).trans HG.out)
                  replace HB := Lib.hid (HB.out.trans (grown_low hgr hb9 (by omega)))
                  clear hb9
                  have HO1 := Lib.hid hown; clear hown hgr cm
                  have cm := HCM.out y1 HB.out
                  go_wp2_with fail
                  refine (rprtext_all y1 q ⟨bg, 0, none⟩ nm k (k + 3) a f HKN.out HL.out (by omega) (by omega) HR.out (by omega) (RDF.out _ HG.out) (Nat.le_refl _) mo ⟨hm1, hm2⟩).mono ?_
                  rintro e y2 ⟨v2, rfl, hown2, hrr, hgr⟩
                  have hb9 := HB.out.size
                  have hs8 := hgr.size
                  replace HR := Lib.hid hrr; clear hrr
                  replace HC := Lib.hid (HC.out.keep hgr.size (hgr.block p (by omega) (fun e => by cases e; omega)) (hgr.block g (by omega) (fun e => by cases e; omega)))
                  replace HG := Lib.hid ((hgr.block bg (by omega) (fun e => by cases e; omega)).trans HG.out)
                  replace HB := Lib.hid (HB.out.trans (grown_low hgr hb9 (by omega)))
                  clear hb9
                  replace HO1 := Lib.hid (own_grownP HO1.out hgr (by omega))
                  clear hgr cm
                  have hle2 := rdText_le nm HL.out a f mo (by rw [HKN.out]; exact hak)
                  have hlt2 := rdText_lt nm HL.out a f mo
                  have hlen2 := rdText_len nm a f mo
                  rw [HKN.out] at hlen2
                  rw [HKN.out] at hle2
                  generalize rdText nm a f mo = rr at *
                  obtain ⟨tt, ra, rf⟩ := rr
                  simp only at HC HR hle2 hlt2 hlen2 HO1 hown2
                  obtain ⟨T, hT⟩ : ∃ T, T = tt.length := ⟨_, rfl⟩
                  rw [← hT] at HO1 hown2
                  have hTm : T ≤ 4096 := by omega
                  obtain ⟨A1, c1, rfl, _, r1⟩ := Rd.of_own HO1.out
                  obtain ⟨A2, c2, rfl, _, r2⟩ := Rd.of_own hown2
                  rw [← u8p_vb tt hlt2] at r1 r2
                  have hul : (u8p tt).length = T := by rw [u8p_len, hT]
                  generalize u8p tt = ut at *
                  clear hT hlen2 hlt2
                  go_wp2_with fail
                  refine (rsamev_any A1 A2 ut ut T T c1 c2 hul hul y2 r1 r2).mono ?_
                  rintro e y3 ⟨rfl, rfl⟩
                  rw [beq_self_eq_true]
                  clear r1 r2 hown2 hul
                  go_wp2_with fail
                  go_loopw [83] (fun i wr => ∃ (wx : World) (z : Nat), wx = wr ∧ z ≤ T ∧ i = .int .i64 (z : Int) ∧ Hid (∃ ys, wx.ownsRow wv.heap.size 5 1 (.slice A1 T c1) T ys) ∧ Hid (Below wv.heap.size y3 wx)) (fun i _ => T - (intOf i).toNat)
                  case atStart => exact ⟨_, 0, rfl, by omega, rfl, Lib.hid ⟨_, HO1.out⟩, Lib.hid (Below.refl _ _)⟩
                  case round =>
                    obtain ⟨wx, z, rfl, hz, rfl, HO2, HBx⟩ := hrel
                    by_cases hzT : z < T
                    · have hzi : (z : Int) < (T : Int) := by omega
                      obtain ⟨ys, hy⟩ := HO2.out
                      obtain ⟨g1, cap1, ev, hgb, hgl⟩ := hy.form (by omega)
                      cases ev
                      have hyl : ys.length = T := by have := hy.1; omega
                      have hce := (hy.cellAt z (by omega)).trans (List.getElem?_eq_getElem (by omega))
                      have hfz := hy.frozenAt z
                      have hwz : IntKind.i64.wrap ((z : Int) + 1) = (z : Int) + 1 := IntWalk.i64_in _ (by omega)
                      go_wp2_with fail
                      go_roundw
                      case rel => exact ⟨_, z + 1, rfl, by omega, by go_num, Lib.hid ⟨_, (hy.stored z _).1⟩, Lib.hid (HBx.out.setCell hgb _)⟩
                      case measure => simp [intOf]; omega
                    · obtain rfl : z = T := by omega
                      have hbx := HBx.out
                      have hsx := hbx.size
                      replace HC := Lib.hid (HC.out.keep hbx.size (hbx.block p (by omega)) (hbx.block g (by omega)))
                      replace HR : Hid (RR wx q (some ⟨bg, 0, none⟩) k (k + 3) ra rf) := Lib.hid ((hbx.block q (by omega)).trans HR.out)
                      replace HG := Lib.hid ((hbx.block bg (by omega)).trans HG.out)
                      replace HB := Lib.hid (HB.out.trans (hbx.mono (by omega)))
                      clear hbx HBx HO2 HO1
                      go_wp2_with fail
                      refine (cprdone_bel wx p g nm ra rf (by rw [HKN.out]; omega) HC.out).mono ?_
                      rintro e x1 ⟨rfl, hb⟩
                      have hs1 := hb.size
                      replace HC := Lib.hid (HC.out.call hb)
                      replace HR := Lib.hid (HR.out.call hb)
                      replace HG := Lib.hid ((hb.block bg (by omega)).trans HG.out)
                      replace HB := Lib.hid (HB.out.trans (hb.mono HB.out.size)); clear hb
                      go_wp2_with fail
                      refine (rprdone_all x1 q ⟨bg, 0, none⟩ nm k (k + 3) ra rf HKN.out HL.out (by omega) (by omega) HR.out (by omega) (RDF.out _ HG.out) (Nat.le_refl _)).mono ?_
                      rintro e x2 ⟨rfl, hrr, hgr⟩
                      have hb9 := HB.out.size
                      have hs8 := hgr.size
                      replace HR := Lib.hid hrr; clear hrr
                      replace HC := Lib.hid (HC.out.keep hgr.size (hgr.block p (by omega) (fun e => by cases e; omega)) (hgr.block g (by omega) (fun e => by cases e; omega)))
                      replace HG := Lib.hid ((hgr.block bg (by omega) (fun e => by cases e; omega)).trans HG.out)
                      replace HB := Lib.hid (HB.out.trans (grown_low hgr hb9 (by omega)))
                      clear hb9
                      clear hgr
                      generalize rdDone nm ra rf = dd at *
                      go_wp2_with fail
                      go_roundw
                      case rel => exact ⟨_, j + 1, ra, rf, rfl, by omega, by omega, by go_num, HC, HR, HG, HB, by omega⟩
                      case measure => simp [intOf]; omega
                · by_cases k4 : K j = 4
                  · rw [k4] at ck
                    clear k1 k2 k3 k4
                    obtain ⟨b1, hb1⟩ : ∃ b1, b1 = k - a := ⟨_, rfl⟩
                    have s1 : IntKind.i64.wrap ((k : Int) - (a : Int)) = (b1 : Int) := by rw [IntWalk.i64_in _ (by omega)]; omega
                    have HLF : Hid (∀ W : World, Below wv.heap.size wv W → Calls Try.prog 23 #[.pointer (some ⟨p, 0, none⟩)] W fun e w' => e = .returned (.int .i64 (b1 : Int)) ∧ Below W.heap.size W w') := Lib.hid fun W hb => by
                      have := cprleft_bel W p g nm a f (by rw [HKN.out]; omega) (HC.out.call hb)
                      rw [HKN.out, ← hb1] at this
                      exact this
                    clear hb1
                    go_upto_region 33 with fail
                    refine wp_region_noPanic ?_
                    refine wp_region_held_drew (S := (fun w' => Below wv.heap.size wv w')) (by kernel_rfl) ?_ (fun hHeld => ?_)
                    · exact (Below.refl wv.heap.size wv).drew
                    have hs2 : Below wv.heap.size wv wv.drew := (Below.refl wv.heap.size wv).drew
                    generalize wv.drew = ws1 at *
                    refine wpAnyH_take (i := 0) (v := ?_) rfl (by kernel_rfl) (by kernel_rfl) (by kernel_rfl) (fun _ _ _ h => h) (Or.inl ⟨by rfl, ?_⟩) hHeld ?_
                    rotate_left
                    · intro w' hSw
                      (try dsimp only at hSw)
                      go_simp
                      try with_reducible rfl
                    try simp only [Act.put, zq1, zq2, zq3, zq4, zq5, zq6]
                    refine wpAnyH_take (i := 2) (v := ?_) rfl (by kernel_rfl) (by kernel_rfl) (by kernel_rfl) (fun _ _ _ h => h) (Or.inl ⟨by rfl, ?_⟩) hHeld ?_
                    rotate_left
                    · intro w' hSw
                      (try dsimp only at hSw)
                      go_simp
                      try with_reducible rfl
                    try simp only [Act.put, zq1, zq2, zq3, zq4, zq5, zq6]
                    refine wpAnyH_take (i := 3) (v := ?_) rfl (by kernel_rfl) (by kernel_rfl) (by kernel_rfl) (fun _ _ _ h => h) (Or.inl ⟨by rfl, ?_⟩) hHeld ?_
                    rotate_left
                    · intro w' hSw
                      (try dsimp only at hSw)
                      have cf := (HR.out.call hSw).c0
                      go_simp
                      try with_reducible rfl
                    try simp only [Act.put, zq1, zq2, zq3, zq4, zq5, zq6]
                    refine wpAnyH_take (i := 4) (v := ?_) rfl (by kernel_rfl) (by kernel_rfl) (by kernel_rfl) (fun _ _ _ h => h) (Or.inl ⟨by rfl, ?_⟩) hHeld ?_
                    rotate_left
                    · intro w' hSw
                      (try dsimp only at hSw)
                      go_simp
                      try with_reducible rfl
                    try simp only [Act.put, zq1, zq2, zq3, zq4, zq5, zq6]
                    refine wpAnyH_take (i := 5) (v := ?_) rfl (by kernel_rfl) (by kernel_rfl) (by kernel_rfl) (fun _ _ _ h => h) (Or.inl ⟨by rfl, ?_⟩) hHeld ?_
                    rotate_left
                    · intro w' hSw
                      (try dsimp only at hSw)
                      go_simp
                      try with_reducible rfl
                    try simp only [Act.put, zq1, zq2, zq3, zq4, zq5, zq6]
                    refine wpAnyH_take (i := 6) (v := ?_) rfl (by kernel_rfl) (by kernel_rfl) (by kernel_rfl) (fun _ _ _ h => h) (Or.inl ⟨by rfl, ?_⟩) hHeld ?_
                    rotate_left
                    · intro w' hSw
                      (try dsimp only at hSw)
                      have cf := (HR.out.call hSw).c1
                      go_simp
                      try with_reducible rfl
                    try simp only [Act.put, zq1, zq2, zq3, zq4, zq5, zq6]
                    refine wpAnyH_take (i := 7) (v := ?_) rfl (by kernel_rfl) (by kernel_rfl) (by kernel_rfl) (fun _ _ _ h => h) (Or.inl ⟨by rfl, ?_⟩) hHeld ?_
                    rotate_left
                    · intro w' hSw
                      (try dsimp only at hSw)
                      go_simp
                      try with_reducible rfl
                    try simp only [Act.put, zq1, zq2, zq3, zq4, zq5, zq6]
                    refine wpAnyH_ready (rs := [1]) (by kernel_rfl) (by simp) ?_
                    refine AllReadyH.cons rfl (fun K hK => ?_) (AllReadyH.nil)
                    try simp only [zq1, zq2, zq3]
                    go_simp
                    refine (HLF.out ws1 hs2).mono ?_
                    rintro e w3 ⟨rfl, hb4⟩
                    have hw5 : Below wv.heap.size wv w3 := hs2.trans (hb4.mono hs2.size)
                    refine hK.out _ _ ?_ (fun hHeld => ?_)
                    · exact hw5
                    clear hK K
                    try simp only [Act.put, zq1, zq2, zq3, zq4, zq5, zq6]
                    clear hb4
                    refine wpAnyH_take (i := 8) (v := ?_) rfl (by kernel_rfl) (by kernel_rfl) (by kernel_rfl) (fun _ _ _ h => h) (Or.inl ⟨by rfl, ?_⟩) hHeld ?_
                    rotate_left
                    · intro w' hSw
                      (try dsimp only at hSw)
                      go_simp
                      try with_reducible rfl
                    try simp only [Act.put, zq1, zq2, zq3, zq4, zq5, zq6]
                    refine wpAnyH_done (by kernel_rfl) ?_ _
                    refine NoPanic.normal ?_
                    replace HC := Lib.hid (HC.out.call hw5)
                    replace HR := Lib.hid (HR.out.call hw5)
                    replace HG := Lib.hid ((hw5.block bg (by omega)).trans HG.out)
                    replace HB := Lib.hid (HB.out.trans (hw5.mono HB.out.size))
                    have hsx := hw5.size
                    go_wp2_with fail
                    refine (cprdone_bel w3 p g nm a f (by rw [HKN.out]; omega) HC.out).mono ?_
                    rintro e x1 ⟨rfl, hb⟩
                    have hs1 := hb.size
                    replace HC := Lib.hid (HC.out.call hb)
                    replace HR := Lib.hid (HR.out.call hb)
                    replace HG := Lib.hid ((hb.block bg (by omega)).trans HG.out)
                    replace HB := Lib.hid (HB.out.trans (hb.mono HB.out.size)); clear hb
                    go_wp2_with fail
                    refine (rprdone_all x1 q ⟨bg, 0, none⟩ nm k (k + 3) a f HKN.out HL.out (by omega) (by omega) HR.out (by omega) (RDF.out _ HG.out) (Nat.le_refl _)).mono ?_
                    rintro e x2 ⟨rfl, hrr, hgr⟩
                    have hb9 := HB.out.size
                    have hs8 := hgr.size
                    replace HR := Lib.hid hrr; clear hrr
                    replace HC := Lib.hid (HC.out.keep hgr.size (hgr.block p (by omega) (fun e => by cases e; omega)) (hgr.block g (by omega) (fun e => by cases e; omega)))
                    replace HG := Lib.hid ((hgr.block bg (by omega) (fun e => by cases e; omega)).trans HG.out)
                    replace HB := Lib.hid (HB.out.trans (grown_low hgr hb9 (by omega)))
                    clear hb9
                    clear hgr
                    generalize rdDone nm a f = dd at *
                    go_wp2_with fail
                    go_roundw
                    case rel => exact ⟨_, j + 1, a, f, rfl, by omega, by omega, by go_num, HC, HR, HG, HB, by omega⟩
                    case measure => simp [intOf]; omega
                  · skip
                    go_wp2_with fail
                    refine (cprdone_bel wv p g nm a f (by rw [HKN.out]; omega) HC.out).mono ?_
                    rintro e x1 ⟨rfl, hb⟩
                    have hs1 := hb.size
                    replace HC := Lib.hid (HC.out.call hb)
                    replace HR := Lib.hid (HR.out.call hb)
                    replace HG := Lib.hid ((hb.block bg (by omega)).trans HG.out)
                    replace HB := Lib.hid (HB.out.trans (hb.mono HB.out.size)); clear hb
                    go_wp2_with fail
                    refine (rprdone_all x1 q ⟨bg, 0, none⟩ nm k (k + 3) a f HKN.out HL.out (by omega) (by omega) HR.out (by omega) (RDF.out _ HG.out) (Nat.le_refl _)).mono ?_
                    rintro e x2 ⟨rfl, hrr, hgr⟩
                    have hb9 := HB.out.size
                    have hs8 := hgr.size
                    replace HR := Lib.hid hrr; clear hrr
                    replace HC := Lib.hid (HC.out.keep hgr.size (hgr.block p (by omega) (fun e => by cases e; omega)) (hgr.block g (by omega) (fun e => by cases e; omega)))
                    replace HG := Lib.hid ((hgr.block bg (by omega) (fun e => by cases e; omega)).trans HG.out)
                    replace HB := Lib.hid (HB.out.trans (grown_low hgr hb9 (by omega)))
                    clear hb9
                    clear hgr
                    generalize rdDone nm a f = dd at *
                    go_wp2_with fail
                    go_roundw
                    case rel => exact ⟨_, j + 1, a, f, rfl, by omega, by omega, by go_num, HC, HR, HG, HB, by omega⟩
                    case measure => simp [intOf]; omega
          · obtain rfl : j = m := by omega
            go_wp2_with fail
            refine (known07_any _).mono ?_
            rintro e wz ⟨rfl, hz⟩
            go_wp2_with fail
            go_ret
            exact ⟨rfl, HB.out.trans (hz.mono HB.out.size)⟩
  · have i1 : (4096 : Int) < (n : Int) := by omega
    go_enter Try.func5, Try.ntmps5
    go_wp2_with fail
    refine (known07_any _).mono ?_
    rintro e wz ⟨rfl, hz⟩
    go_wp2_with fail
    go_ret
    exact ⟨rfl, hz⟩

set_option maxRecDepth 100000 in
theorem mreads_lifted (os : Os) (started : os.Started) (H : Type) (enc : TypeId × Value → H) :
    ReturnsInHanded {} Try.checked os 5 .any (Rows.packReadsSpec.pre6 enc Try.prog Try.f5 Rows.packReadsRow.domain false) (Rows.packReadsSpec.post enc Try.prog Try.f5 false true false false) := by
  refine returnsInHanded_of_change_sized (C := Try.checked) Try.own started (by kernel_rfl) Try.func5
    (ChangeSpec.witness6 (enc := enc) (C := Try.checked) false ⟨#[], #[.slice none 0 0, .slice none 0 0], []⟩ 8 (by kernel_rfl) (by kernel_rfl) (by kernel_rfl) (by kernel_rfl)) ?_
  intro W base args ds gs before hval0 hW _ hsz0 _
  have hsz : (DataW.weightsEach Try.prog (Try.f5.params.toList ++ Rows.packReadsSpec.plain.varTypes Try.prog) (ds ++ gs)).all (· ≤ reachBytes) = true := hsz0
  have hval : ∀ (j : Nat) t v, Try.f5.params[j]? = some t → args[j]? = some v → Value.okWide Try.prog W .any base t v := hval0
  have hW' := hW
  obtain ⟨p, q, hA0, hV, rfl, _, _⟩ := hW
  have hA : DataW.TrodAll enc Try.prog W 0 (fun _ => true) true Try.f5.params.toList args.toList ds p := hA0
  rw [Try.params5] at hA hval hsz
  have hlt := hW'.lt
  clear hA0 hval0 hsz0
  obtain ⟨v0, vs0, d0, ds0, p0, q0, hv0, rfl, rfl, h0, r0⟩ := trodAll_cons hA
  obtain ⟨v1, vs1, d1, ds1, p1, q1, hv1, rfl, rfl, h1, r1⟩ := trodAll_cons r0
  subst hv1
  obtain ⟨rfl, rfl, rfl⟩ := trodAll_nil r1
  obtain rfl : args = #[v0, v1] := by cases args; simp_all
  obtain ⟨rfl, rfl⟩ := trodVars_none hV
  obtain ⟨A0, l0, c0, rfl, rd0, le0⟩ := open_bytes Try.underlying24 Try.underlying5 Try.cellsU8 (hval 0 24 v0 rfl rfl) h0 (fun x hx => hlt x (by simp [hx])) (fun es sp he => by subst he; have := sized_slice hsz (j := 0) (t := 24) (e := 5) rfl rfl Try.underlying24; rw [Try.bytesU8, Nat.mul_one] at this; exact this)
  obtain ⟨A1, len1, cap1, rfl, le1, hs1⟩ := open_structs Try.underlying30 Try.underlying37 (by kernel_rfl) (by kernel_rfl) (hval 1 30 v1 rfl rfl) h1 (fun es sp he => by subst he; exact sized_slice hsz (j := 1) (t := 30) (e := 37) rfl rfl Try.underlying30) (of_decide_eq_true (by kernel_rfl))
  obtain ⟨K1, M1, hk1⟩ := structs_int2 Try.underlying3 Try.underlying3 hs1
  refine (mreads_any A0 l0 l0.length c0 rfl A1 len1 cap1 K1 M1 W le0 rd0 (by unfold reachBytes at le1; omega) hk1).mono fun e W' ⟨he, hb⟩ => ⟨_, he, ?_⟩
  exact law_post 4 Try.underlying4 (by kernel_rfl) rfl Try.laidOut (by kernel_rfl) hW' ⟨rfl, rfl, rfl⟩ hb

theorem mreads_holds : Rows.PackReadsSaid :=
  OpenClaim.holds_of_wide 5 Try.f5 rfl rfl rfl rfl rfl rfl rfl ⟨rfl, rfl, rfl, rfl, rfl⟩ rfl rfl rfl rfl rfl (by kernel_rfl) Try.func5 (by kernel_rfl)
    (of_decide_eq_true (by kernel_rfl)) (by unfold Func.isWrapper; first | (rw [if_pos (by decide +kernel)]; kernel_rfl) | (rw [if_neg (by decide +kernel)]; exact ⟨rfl, rfl⟩))
    (fun os started H enc _ => mreads_lifted os started H enc)
end Go.Proofs.Ytbepibkbghmkkaa
