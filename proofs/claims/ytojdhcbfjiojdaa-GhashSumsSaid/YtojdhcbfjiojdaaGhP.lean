/-
  The code's sum over a text's blocks: the loop. (Printed by wip/gen/ghover.py.)
-/
import Derived.Test.YtojdhcbfjiojdaaGhO
import Derived.Test.YtojdhcbfjiojdaaGhD
import Derived.Test.YtojdhcbfjiojdaaGhU
import Derived.Test.YtojdhcbfjiojdaaGhS
import Derived.Test.YtojdhcbfjiojdaaRowS
import Derived.Deep.DeepCutAuto
namespace Go.Proofs.Ytojdhcbfjiojdaa
open Go Go.RowKit Go.Shelf
set_option linter.unusedVariables false
set_option linter.unusedSimpArgs false
attribute [local go_sem] Oper.semAt_some

set_option maxRecDepth 100000 in
set_option maxHeartbeats 4000000 in
theorem over_any (a key : Nat) (ha : a < 2 ^ 128) (hk : key < 2 ^ 128) (A : Option Addr) (l : List Nat) (len cap : Nat) (hn : l.length = len) (hl : ∀ x ∈ l, x < 256) (hlc : len ≤ cap) (hreach : len ≤ 140737488351360) (w : World) (h : Rd w w.heap.size A (vn l)) :
    Calls Try.prog 21 #[eV a, .slice A len cap, eV key] w fun e w' => e = .returned (eV (gfrom key a l ((len + 15) / 16))) ∧ Below w.heap.size w w' := by
  have HN := Lib.hid hn; clear hn
  have HL := Lib.hid hl; clear hl
  have HRD := Lib.hid h; clear h
  have HA := Lib.hid ha; clear ha
  have HK := Lib.hid hk; clear hk
  obtain ⟨a1, ha1⟩ : ∃ a1, a1 = a / 18446744073709551616 := ⟨_, rfl⟩
  obtain ⟨a2, ha2⟩ : ∃ a2, a2 = a % 18446744073709551616 := ⟨_, rfl⟩
  obtain ⟨b1, hb1⟩ : ∃ b1, b1 = key / 18446744073709551616 := ⟨_, rfl⟩
  obtain ⟨b2, hb2⟩ : ∃ b2, b2 = key % 18446744073709551616 := ⟨_, rfl⟩
  have hea : eV a = .agg #[.int .u64 (a1 : Int), .int .u64 (a2 : Int)] := by rw [eV, ← ha1, ← ha2]
  have hek : eV key = .agg #[.int .u64 (b1 : Int), .int .u64 (b2 : Int)] := by rw [eV, ← hb1, ← hb2]
  rw [hea, hek]
  have HEA := Lib.hid (And.intro ha1 ha2); clear hea ha1 ha2
  have HEK := Lib.hid (And.intro hb1 hb2); clear hek hb1 hb2
  obtain ⟨g1, hg1⟩ : ∃ g1, g1 = gfrom key a l ((len + 15) / 16) / 18446744073709551616 := ⟨_, rfl⟩
  obtain ⟨g2, hg2⟩ : ∃ g2, g2 = gfrom key a l ((len + 15) / 16) % 18446744073709551616 := ⟨_, rfl⟩
  have heg : eV (gfrom key a l ((len + 15) / 16)) = .agg #[.int .u64 (g1 : Int), .int .u64 (g2 : Int)] := by rw [eV, ← hg1, ← hg2]
  rw [heg]
  have HG := Lib.hid (And.intro hg1 hg2); clear hg1 hg2 heg
  refine (callsIn_wide (n := 2)).1 ?_
  refine callsIn_of_wp_marks Try.func21 rfl trivial ?_ rfl
  simp only [Try.ntmps21, List.size_toArray, List.length_cons, List.length_nil, Nat.reduceAdd, Nat.reduceSub, Array.replicate_succ, Array.replicate_zero, List.push_toArray, List.append_toArray, List.nil_append, List.cons_append]
  gi_wp2
  refine ⟨trivial, ?_⟩
  refine (callsIn_wide.2 (chunk_any A len cap _)).mono ?_
  rintro e w' ⟨rfl, rfl⟩
  gi_wp2
  have d0 := five_old w (.cells #[.int .u64 a1, .int .u64 a2] 37) (.cells #[.int .u64 b1, .int .u64 b2] 37) (.cells #[.int .u64 0, .int .u64 0] 37) (.cells #[.slice A len cap] 26) (.cells #[.int .i64 16] 3)
  generalize ((((w.alloc (.cells #[.int .u64 a1, .int .u64 a2] 37)).alloc (.cells #[.int .u64 b1, .int .u64 b2] 37)).alloc (.cells #[.int .u64 0, .int .u64 0] 37)).alloc (.cells #[.slice A len cap] 26)).alloc (.cells #[.int .i64 16] 3) = w5 at *
  obtain ⟨⟨d0, d1, d2, d3, d4⟩, ds, hB0⟩ := d0
  have D0 : HE w5 w.heap.size (gpre key a l []) := by show w5.heap[w.heap.size]? = _; rw [d0]; unfold gpre; rw [List.foldl_nil, HEA.out.1, HEA.out.2]
  have D1 : HE w5 (w.heap.size + 1) key := by show w5.heap[w.heap.size + 1]? = _; rw [d1, HEK.out.1, HEK.out.2]
  have hN0 : 0 < len → ∃ ad, A = some ad := fun h0 => by
    obtain ⟨ad, e, _⟩ := HRD.out (by rw [vn_len, HN.out]; exact h0)
    exact ⟨ad, e⟩
  refine wpIn_rangeFunc_ownF (F := Fence.wide) (n := 2) rfl (by omega) (gf := 29) (lb := #[.pointer (some ⟨w.heap.size + 1 + 1 + 1, 0, none⟩), .pointer (some ⟨w.heap.size + 1 + 1 + 1 + 1, 0, none⟩)]) rfl trivial (enters_of Try.func29 (by kernel_rfl) rfl)
    (chunk_stops (w.heap.size + 1 + 1 + 1) (w.heap.size + 1 + 1 + 1 + 1) A len cap hN0 hlc hreach w5 d3 d4) (fun h k => h.trans k) (fun W lq o o' hlq _ _ _ => ⟨World.putObj_heap_other (by omega), World.putObj_heap_other (by omega)⟩) (Below.refl _ _) (fun _ => rfl)
    (fun pre W => (HE W w.heap.size (gpre key a l (pre.map (·.1))) ∧ HE W (w.heap.size + 1) key ∧ W.heap[w.heap.size + 1 + 1]? = some (Obj.cells #[.int .u64 0, .int .u64 0] 37 (0, 0))) ∧ (Below w.heap.size w W ∧ w5.heap.size ≤ W.heap.size))
    (fun _ _ _ => False)
    (OwnFrom.and (OwnFrom.and (ownFrom_block (o := fun pre : List (Chk len) => Obj.cells #[.int .u64 ((gpre key a l (pre.map (·.1)) / 18446744073709551616 : Nat) : Int), .int .u64 ((gpre key a l (pre.map (·.1)) % 18446744073709551616 : Nat) : Int)] 37 (0, 0)) (by omega)) (OwnFrom.and (ownFrom_block (o := fun _ => Obj.cells #[.int .u64 ((key / 18446744073709551616 : Nat) : Int), .int .u64 ((key % 18446744073709551616 : Nat) : Int)] 37 (0, 0)) (by omega)) (ownFrom_block (o := fun _ => Obj.cells #[.int .u64 0, .int .u64 0] 37 (0, 0)) (by omega)))) (OwnFrom.and (ownFrom_below (Nat.le_refl _) (by omega)) (fun _ W W' row h hg _ => Nat.le_trans h hg.size)))
    (fun _ _ _ _ _ hs _ _ => hs)
    ⟨⟨D0, D1, d2⟩, hB0, Nat.le_refl _⟩
    (fun x => { tmps := #[.agg #[.int .u64 (a1 : Int), .int .u64 (a2 : Int)], .slice A len cap, .agg #[.int .u64 (b1 : Int), .int .u64 (b2 : Int)], .pointer (some ⟨w.heap.size, 0, none⟩), undef, .pointer (some ⟨w.heap.size + 1, 0, none⟩), .pointer (some ⟨w.heap.size + 1 + 1, 0, none⟩), .slice (A.map fun ad => ad.add (16 * x.1)) (chL len x.1) (chL len x.1), undef, .slice A len cap,
      .func (.func 29) #[] #[.pointer (some ⟨w.heap.size + 1 + 1 + 1, 0, none⟩), .pointer (some ⟨w.heap.size + 1 + 1 + 1 + 1, 0, none⟩)], .slice (A.map fun ad => ad.add (16 * x.1)) (chL len x.1) (chL len x.1), undef, undef, undef, undef, undef, undef, undef, undef, undef, undef], defers := [] }) ?assign ?body ?done ?stop
  case assign =>
    intro lq x W K hK
    simp only [chA]
    gi_wp2
    exact hK
  case body =>
    rintro lq pre x W ⟨⟨h3, h5, h6⟩, hB, hS5⟩ _
    obtain ⟨xv, hxv⟩ := x
    have hlen0 : 0 < len := by omega
    obtain ⟨ad, rfl, hab, hac⟩ := HRD.out (by rw [vn_len, HN.out]; exact hlen0)
    have hs5 : w5.heap.size ≤ W.heap.size := hS5
    have hr : Rd W W.heap.size (some (ad.add (16 * xv))) (vn ((l.drop (16 * xv)).take 16)) := by
      intro h0
      refine ⟨_, rfl, by rw [add_block]; exact Nat.lt_of_lt_of_le hab hB.size, fun j u hj => ?_⟩
      rw [add_add, hB.cell (by rw [add_block]; exact hab)]
      refine hac (16 * xv + j) u ?_
      have hj16 : j < 16 := by have := (List.getElem?_eq_some_iff.1 hj).1; simp [vn] at this; omega
      simpa [vn, List.getElem?_take, List.getElem?_drop, hj16] using hj
    obtain ⟨m, hm⟩ : ∃ m, m = chL len xv := ⟨_, rfl⟩
    have hm16 : m ≤ 16 := by rw [hm]; unfold chL; split <;> omega
    have hmc : (vn ((l.drop (16 * xv)).take 16)).length = m := by
      rw [vn_len, List.length_take, List.length_drop, HN.out, hm]; unfold chL; split <;> omega
    have hsz : (Try.prog.info? 5).map (·.size) = some 1 := by kernel_rfl
    have d8 : (W.alloc (.cells z16.toArray 22)).heap[W.heap.size]? = some (.cells z16.toArray 22 (0, 0)) := heap_alloc_new W _
    have hbA : Below W.heap.size W (W.alloc (.cells z16.toArray 22)) := (Below.refl _ _).alloc (Nat.le_refl _) _
    have P1 : Hid (0 < (vn ((l.drop (16 * xv)).take 16)).length → ∃ ad', some (ad.add (16 * xv)) = some ad' ∧ ∀ j v, (vn ((l.drop (16 * xv)).take 16))[j]? = some v → (W.alloc (.cells z16.toArray 22)).cell? (ad'.add j) = some v) := Lib.hid fun h0 => by
      obtain ⟨ad', e, hb', hc'⟩ := hr h0
      exact ⟨ad', e, fun j v hv => (hbA.cell (by rw [add_block]; exact hb')).trans (hc' j v hv)⟩
    have HMC := Lib.hid hmc; clear hmc
    have HH3 := Lib.hid h3; clear h3
    have HH5 := Lib.hid h5; clear h5
    have HH6 := Lib.hid h6; clear h6
    have HHB := Lib.hid hB; clear hB hr
    have hone : ∀ v ∈ vn ((l.drop (16 * xv)).take 16), v.oneCell' = true := nums_one _
    have HONE := Lib.hid hone; clear hone
    simp only [← hm]
    have HM := Lib.hid hm; clear hm
    obtain ⟨cs, hcs⟩ : ∃ cs, cs = vn ((l.drop (16 * xv)).take 16) := ⟨_, rfl⟩
    rw [← hcs] at P1 HMC HONE
    have HCS := Lib.hid hcs; clear hcs
    obtain ⟨src, hsrc⟩ : ∃ src, src = some (ad.add (16 * xv)) := ⟨_, rfl⟩
    simp only [Option.map_some]
    rw [← hsrc]
    rw [← hsrc] at P1
    have HSRC := Lib.hid hsrc; clear hsrc
    refine wpIn_block ?_
    refine wpIn_seq (wpIn_round_list (by rfl) ?_)
    go_wp2_with fail
    refine OnlyN.normal ?_
    refine wpIn_seq (wpIn_round_list (by rfl) ?_)
    go_wp2_with (first
      | ((with_reducible show wpList _ _ _ _ _ _); refine wpList_copy_splice (o := ⟨some 14, _, _, _, _, _⟩) rfl (.tmp 12) (.tmp 13) 26 26 rfl 5 Try.underlying26 hsz (some ⟨W.heap.size, 0, none⟩) src 16 16 m m rfl rfl W.heap.size 0 z16 22 d8 cs (by rw [HMC.out]; exact (Nat.min_eq_left hm16).symm) (fun h0 => ⟨rfl, P1.out h0⟩) (by rw [HMC.out, z16_len]; omega) HONE.out W.heap.size W hbA (Nat.le_refl _) ?_))
    intro w6 hw6 hb6
    refine OnlyN.normal ?_
    obtain ⟨elD, hElD, hRow⟩ : ∃ d, Try.prog.underlying 37 = some d ∧ d.isRow = true := ⟨_, Try.underlying37, rfl⟩
    have h8 : H16 w6 W.heap.size (gblk l xv) := by show w6.heap[W.heap.size]? = _; rw [hw6.out, HCS.out, blk_splice]
    have g5 : HE w6 (w.heap.size + 1) key := HE.call hb6 HH5.out
    have hkb : KeptBut w.heap.size W w6 := ⟨hb6.size, fun k hk _ => hb6.block k hk⟩
    have hbb : Below w.heap.size w w6 := HHB.out.trans (hb6.mono HHB.out.size)
    obtain ⟨gv, hgv⟩ : ∃ gv, gv = gpre key a l (pre.map (·.1)) := ⟨_, rfl⟩
    have hgl : gv < 2 ^ 128 := by rw [hgv]; exact gpre_lt _ _ HK.out HA.out _ _
    have HGV := Lib.hid hgv
    have g3 : HE w6 w.heap.size gv := by rw [hgv]; exact HE.call hb6 HH3.out
    clear hgv
    have hg16 : B16 (gblk l xv) := gblk_lt l HL.out xv
    have hl3 : w.heap.size < W.heap.size := (Array.getElem?_eq_some_iff.1 HH3.out).1
    clear hbA d8 P1 hw6
    refine wpIn_round_held (S := (fun w' => w'.rangeAt W.heap.size 0 (vl 16 (gblk l xv)) ∧ w'.rangeAt (w.heap.size + 1) 0 (eL key) ∧ w'.there w.heap.size 0 2 ∧ KeptBut w.heap.size W w' ∧ Below w.heap.size w w')) (by kernel_rfl) (by rfl) ?_ (fun hHeld => ?_)
    · exact ⟨row16_range h8, HE.range g5, HE.there g3, hkb, hbb.drew⟩
    refine wpAnyH_take (i := 1) rfl (by kernel_rfl) (by kernel_rfl) (by kernel_rfl) (fun _ _ _ h => h) (yieldsIf_load_mid (by rfl) 22 (.tmp 8) rfl (W.heap.size) (0) rfl (vl 16 (gblk l xv)) (.array 16 5) (fun _ h => h.1) Try.underlying22 rfl (by rw [vl_len]; exact blk_size)) hHeld ?_
    try simp only [Act.put, List.getElem_toArray, List.getElem_cons_zero, List.getElem_cons_succ, List.setIfInBounds_toArray, List.set_cons_zero, List.set_cons_succ]
    refine wpAnyH_take (i := 4) rfl (by kernel_rfl) (by kernel_rfl) (by kernel_rfl) (fun _ _ _ h => h) (yieldsIf_load_mid (by rfl) 37 (.tmp 5) rfl (w.heap.size + 1) (0) rfl (eL key) elD (fun _ h => h.2.1) hElD hRow el_info) hHeld ?_
    try simp only [Act.put, List.getElem_toArray, List.getElem_cons_zero, List.getElem_cons_succ, List.setIfInBounds_toArray, List.set_cons_zero, List.set_cons_succ]
    refine wpAnyH_ready (rs := [0, 2]) (by kernel_rfl) (by simp) ?_
    refine AllReadyH.cons rfl (fun K hK => ?_) (AllReadyH.cons rfl (fun K hK => ?_) (AllReadyH.nil))
    · try simp only [List.getElem_toArray, List.getElem_cons_zero, List.getElem_cons_succ]
      rw [if_pos (by rfl)]
      have hrange := (HE.range g3)
      have hinfo : (Try.prog.info? 37).map (·.size) = some (eL (gv)).length := el_info
      refine wp_load_mid 37 (.tmp 3) ?hop (w.heap.size) (0) ?hx (eL (gv)) elD ?hr ?hu hRow ?hi ?_
      case hop => rfl
      case hx => rfl
      case hr => exact hrange
      case hu => exact hElD
      case hi => exact hinfo
      clear hrange hinfo
      try simp only [Act.put, List.getElem_toArray, List.getElem_cons_zero, List.getElem_cons_succ, List.setIfInBounds_toArray, List.set_cons_zero, List.set_cons_succ]
      refine hK.out _ _ ?_ (fun hHeld => ?_)
      · exact hHeld
      clear hK K
      try simp only [Act.put, List.getElem_toArray, List.getElem_cons_zero, List.getElem_cons_succ, List.setIfInBounds_toArray, List.set_cons_zero, List.set_cons_succ]
      refine wpAnyH_ready (rs := [2]) (by kernel_rfl) (by simp) ?_
      refine AllReadyH.cons rfl (fun K hK => ?_) (AllReadyH.nil)
      · try simp only [List.getElem_toArray, List.getElem_cons_zero, List.getElem_cons_succ]
        go_simp
        refine (gwords_d (gblk l xv) _ hg16).mono ?_
        rintro e wa ⟨rfl, hbwa⟩
        refine hK.out _ _ ?_ (fun hHeld => ?_)
        · exact over_keep hbwa hHeld.2.2.2.2.size hHeld
        clear hK K
        try simp only [Act.put, List.getElem_toArray, List.getElem_cons_zero, List.getElem_cons_succ, List.setIfInBounds_toArray, List.set_cons_zero, List.set_cons_succ]
        refine wpAnyH_ready (rs := [3]) (by kernel_rfl) (by simp) ?_
        refine AllReadyH.cons rfl (fun K hK => ?_) (AllReadyH.nil)
        · try simp only [List.getElem_toArray, List.getElem_cons_zero, List.getElem_cons_succ]
          go_simp
          refine (gplus_d (gv) (hof (gblk l xv)) _ hgl (hof_lt _ hg16)).mono ?_
          rintro e wc ⟨rfl, hbwc⟩
          refine hK.out _ _ ?_ (fun hHeld => ?_)
          · exact over_keep hbwc hHeld.2.2.2.2.size hHeld
          clear hK K
          try simp only [Act.put, List.getElem_toArray, List.getElem_cons_zero, List.getElem_cons_succ, List.setIfInBounds_toArray, List.set_cons_zero, List.set_cons_succ]
          refine wpAnyH_ready (rs := [5]) (by kernel_rfl) (by simp) ?_
          refine AllReadyH.cons rfl (fun K hK => ?_) (AllReadyH.nil)
          · try simp only [List.getElem_toArray, List.getElem_cons_zero, List.getElem_cons_succ]
            go_simp
            refine (gtimes_d (gv ^^^ hof (gblk l xv)) key _ (Nat.xor_lt_two_pow hgl (hof_lt _ hg16)) HK.out).mono ?_
            rintro e wd ⟨rfl, hbwd⟩
            refine hK.out _ _ ?_ (fun hHeld => ?_)
            · exact over_keep hbwd hHeld.2.2.2.2.size hHeld
            clear hK K
            try simp only [Act.put, List.getElem_toArray, List.getElem_cons_zero, List.getElem_cons_succ, List.setIfInBounds_toArray, List.set_cons_zero, List.set_cons_succ]
            refine wpAnyH_ready (rs := [6]) (by kernel_rfl) (by simp) ?_
            refine AllReadyH.cons rfl (fun K hK => ?_) (AllReadyH.nil)
            · try simp only [List.getElem_toArray, List.getElem_cons_zero, List.getElem_cons_succ]
              rw [if_pos (by rfl)]
              refine wp_store_mid 37 (.tmp 3) (.tmp 20) rfl (w.heap.size) (0) (eL (hm (gv ^^^ hof (gblk l xv)) key)).toArray rfl rfl hHeld.2.2.1 el_info (el_one _) ?_
              simp only [Act.put, List.getElem_toArray, List.getElem_cons_zero, List.getElem_cons_succ, List.setIfInBounds_toArray, List.set_cons_zero, List.set_cons_succ, List.toList_toArray]
              refine hK.out _ _ ?_ (fun hHeld => ?_)
              · exact over_store _ (by omega) (by omega) (Nat.le_refl _) hHeld
              clear hK K
              try simp only [Act.put, List.getElem_toArray, List.getElem_cons_zero, List.getElem_cons_succ, List.setIfInBounds_toArray, List.set_cons_zero, List.set_cons_succ]
              refine wpAnyH_done (by kernel_rfl) ?_ _
              refine OnlyN.normal ?_
              have hz : HE (wd.setCells w.heap.size 0 (eL (hm (gv ^^^ hof (gblk l xv)) key))) w.heap.size (hm (gv ^^^ hof (gblk l xv)) key) := HE.store (HE.call hbwd (HE.call hbwc (HE.call hbwa g3))) _
              have hkz := hHeld.2.2.2.1
              have hbz := hHeld.2.2.2.2
              clear hHeld
              refine ⟨⟨hkz.1, fun k o hk ho => ?_⟩, ⟨hkz.2 _ (by omega) (by omega), hkz.2 _ (by omega) (by omega)⟩, ⟨?_, (hkz.2 _ (by omega) (by omega)).trans HH5.out, (hkz.2 _ (by omega) (by omega)).trans HH6.out⟩, hbz, (by have := hkz.1; omega)⟩
              · refine (hkz.2 k (Array.getElem?_eq_some_iff.1 hk).1 (fun e => ?_)).trans hk
                subst e
                rw [(HH3.out : W.heap[w.heap.size]? = _)] at hk
                cases hk
                cases ho
              · have e9 : gpre key a l ((pre ++ [(⟨xv, hxv⟩ : Chk len)]).map (·.1)) = hm (gv ^^^ hof (gblk l xv)) key := by
                  rw [List.map_append, List.map_cons, List.map_nil, gpre_snoc, ← HGV.out]
                show HE _ _ (gpre key a l ((pre ++ [(⟨xv, hxv⟩ : Chk len)]).map (·.1)))
                rw [e9]
                exact hz
    · try simp only [List.getElem_toArray, List.getElem_cons_zero, List.getElem_cons_succ]
      go_simp
      refine (gwords_d (gblk l xv) _ hg16).mono ?_
      rintro e wa ⟨rfl, hbwa⟩
      refine hK.out _ _ ?_ (fun hHeld => ?_)
      · exact over_keep hbwa hHeld.2.2.2.2.size hHeld
      clear hK K
      try simp only [Act.put, List.getElem_toArray, List.getElem_cons_zero, List.getElem_cons_succ, List.setIfInBounds_toArray, List.set_cons_zero, List.set_cons_succ]
      refine wpAnyH_ready (rs := [0]) (by kernel_rfl) (by simp) ?_
      refine AllReadyH.cons rfl (fun K hK => ?_) (AllReadyH.nil)
      · try simp only [List.getElem_toArray, List.getElem_cons_zero, List.getElem_cons_succ]
        rw [if_pos (by rfl)]
        have hrange := (HE.range (HE.call hbwa g3))
        have hinfo : (Try.prog.info? 37).map (·.size) = some (eL (gv)).length := el_info
        refine wp_load_mid 37 (.tmp 3) ?hop (w.heap.size) (0) ?hx (eL (gv)) elD ?hr ?hu hRow ?hi ?_
        case hop => rfl
        case hx => rfl
        case hr => exact hrange
        case hu => exact hElD
        case hi => exact hinfo
        clear hrange hinfo
        try simp only [Act.put, List.getElem_toArray, List.getElem_cons_zero, List.getElem_cons_succ, List.setIfInBounds_toArray, List.set_cons_zero, List.set_cons_succ]
        refine hK.out _ _ ?_ (fun hHeld => ?_)
        · exact hHeld
        clear hK K
        try simp only [Act.put, List.getElem_toArray, List.getElem_cons_zero, List.getElem_cons_succ, List.setIfInBounds_toArray, List.set_cons_zero, List.set_cons_succ]
        refine wpAnyH_ready (rs := [3]) (by kernel_rfl) (by simp) ?_
        refine AllReadyH.cons rfl (fun K hK => ?_) (AllReadyH.nil)
        · try simp only [List.getElem_toArray, List.getElem_cons_zero, List.getElem_cons_succ]
          go_simp
          refine (gplus_d (gv) (hof (gblk l xv)) _ hgl (hof_lt _ hg16)).mono ?_
          rintro e wc ⟨rfl, hbwc⟩
          refine hK.out _ _ ?_ (fun hHeld => ?_)
          · exact over_keep hbwc hHeld.2.2.2.2.size hHeld
          clear hK K
          try simp only [Act.put, List.getElem_toArray, List.getElem_cons_zero, List.getElem_cons_succ, List.setIfInBounds_toArray, List.set_cons_zero, List.set_cons_succ]
          refine wpAnyH_ready (rs := [5]) (by kernel_rfl) (by simp) ?_
          refine AllReadyH.cons rfl (fun K hK => ?_) (AllReadyH.nil)
          · try simp only [List.getElem_toArray, List.getElem_cons_zero, List.getElem_cons_succ]
            go_simp
            refine (gtimes_d (gv ^^^ hof (gblk l xv)) key _ (Nat.xor_lt_two_pow hgl (hof_lt _ hg16)) HK.out).mono ?_
            rintro e wd ⟨rfl, hbwd⟩
            refine hK.out _ _ ?_ (fun hHeld => ?_)
            · exact over_keep hbwd hHeld.2.2.2.2.size hHeld
            clear hK K
            try simp only [Act.put, List.getElem_toArray, List.getElem_cons_zero, List.getElem_cons_succ, List.setIfInBounds_toArray, List.set_cons_zero, List.set_cons_succ]
            refine wpAnyH_ready (rs := [6]) (by kernel_rfl) (by simp) ?_
            refine AllReadyH.cons rfl (fun K hK => ?_) (AllReadyH.nil)
            · try simp only [List.getElem_toArray, List.getElem_cons_zero, List.getElem_cons_succ]
              rw [if_pos (by rfl)]
              refine wp_store_mid 37 (.tmp 3) (.tmp 20) rfl (w.heap.size) (0) (eL (hm (gv ^^^ hof (gblk l xv)) key)).toArray rfl rfl hHeld.2.2.1 el_info (el_one _) ?_
              simp only [Act.put, List.getElem_toArray, List.getElem_cons_zero, List.getElem_cons_succ, List.setIfInBounds_toArray, List.set_cons_zero, List.set_cons_succ, List.toList_toArray]
              refine hK.out _ _ ?_ (fun hHeld => ?_)
              · exact over_store _ (by omega) (by omega) (Nat.le_refl _) hHeld
              clear hK K
              try simp only [Act.put, List.getElem_toArray, List.getElem_cons_zero, List.getElem_cons_succ, List.setIfInBounds_toArray, List.set_cons_zero, List.set_cons_succ]
              refine wpAnyH_done (by kernel_rfl) ?_ _
              refine OnlyN.normal ?_
              have hz : HE (wd.setCells w.heap.size 0 (eL (hm (gv ^^^ hof (gblk l xv)) key))) w.heap.size (hm (gv ^^^ hof (gblk l xv)) key) := HE.store (HE.call hbwd (HE.call hbwc (HE.call hbwa g3))) _
              have hkz := hHeld.2.2.2.1
              have hbz := hHeld.2.2.2.2
              clear hHeld
              refine ⟨⟨hkz.1, fun k o hk ho => ?_⟩, ⟨hkz.2 _ (by omega) (by omega), hkz.2 _ (by omega) (by omega)⟩, ⟨?_, (hkz.2 _ (by omega) (by omega)).trans HH5.out, (hkz.2 _ (by omega) (by omega)).trans HH6.out⟩, hbz, (by have := hkz.1; omega)⟩
              · refine (hkz.2 k (Array.getElem?_eq_some_iff.1 hk).1 (fun e => ?_)).trans hk
                subst e
                rw [(HH3.out : W.heap[w.heap.size]? = _)] at hk
                cases hk
                cases ho
              · have e9 : gpre key a l ((pre ++ [(⟨xv, hxv⟩ : Chk len)]).map (·.1)) = hm (gv ^^^ hof (gblk l xv)) key := by
                  rw [List.map_append, List.map_cons, List.map_nil, gpre_snoc, ← HGV.out]
                show HE _ _ (gpre key a l ((pre ++ [(⟨xv, hxv⟩ : Chk len)]).map (·.1)))
                rw [e9]
                exact hz
  case done =>
    rintro D ys W hD hys ⟨⟨h3, h5, h6⟩, hB, _⟩ hK
    have h3' : HE W w.heap.size (gfrom key a l ((len + 15) / 16)) := by
      have e : gfrom key a l ((len + 15) / 16) = gpre key a l (ys.map (·.1)) := by rw [hys]; rfl
      rw [e]
      exact h3
    clear h3 h5 hys
    have h3 : W.heap[w.heap.size]? = some (Obj.cells #[.int .u64 (g1 : Int), .int .u64 (g2 : Int)] 37 (0, 0)) := by rw [HG.out.1, HG.out.2]; exact h3'
    clear h3'
    have c1 : W.cell? ⟨w.heap.size, 0, none⟩ = some (.int .u64 (g1 : Int)) := by rw [cell_of_row _ _ _ _ _ _ h3]; rfl
    have c2 : W.cell? ⟨w.heap.size, 1, none⟩ = some (.int .u64 (g2 : Int)) := by rw [cell_of_row _ _ _ _ _ _ h3]; rfl
    have c3 : W.cell? ⟨w.heap.size + 1 + 1, 0, none⟩ = some (.int .u64 0) := by rw [cell_of_row _ _ _ _ _ _ h6]; rfl
    have c4 : W.cell? ⟨w.heap.size + 1 + 1, 1, none⟩ = some (.int .u64 0) := by rw [cell_of_row _ _ _ _ _ _ h6]; rfl
    have c5 : W.frozen? ⟨w.heap.size + 1 + 1, 0, none⟩ = false := frozen_of_row _ _ _ _ _ h6
    have c6 : W.frozen? ⟨w.heap.size + 1 + 1, 1, none⟩ = false := frozen_of_row _ _ _ _ _ h6
    have hDk : w.heap.size + 1 + 1 ≠ D := by omega
    gi_wp2
    have hK' := ((KeepsOthers.setCell W ⟨w.heap.size + 1 + 1, 0, none⟩ (.int .u64 (g1 : Int))).trans (KeepsOthers.setCell _ ⟨w.heap.size + 1 + 1, 1, none⟩ (.int .u64 (g2 : Int)))).same D _ hK rfl
    refine ⟨by simp, .inl ⟨_, _, rfl, run_takeDeferred hK', ?_⟩⟩
    refine ⟨_, el_ret (p := 6) (by kernel_rfl) _ _ (w.heap.size + 1 + 1) g1 g2 rfl ?_, rfl, ?_⟩
    · exact (World.putObj_heap_other hDk).trans (el_set h6)
    · exact ((hB.setCell (p := ⟨w.heap.size + 1 + 1, 0, none⟩) (by simp; omega) _).setCell (p := ⟨w.heap.size + 1 + 1, 1, none⟩) (by simp; omega) _).trans (belowK_b (w := w) (Nat.le_refl _) _ D _ _ (by omega) hK' rfl rfl)
  case stop =>
    rintro D c pre W _ _ h _
    exact h.elim
end Go.Proofs.Ytojdhcbfjiojdaa
